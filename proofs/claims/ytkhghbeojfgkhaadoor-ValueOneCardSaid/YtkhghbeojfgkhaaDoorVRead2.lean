/- readComp, read: some value. -/
import Derived.Test.YtkhghbeojfgkhaaDoorVRead1
import Derived.Test.YtkhghbeojfgkhaaDoorVPrint2
namespace Go.Proofs.YtkhghbeojfgkhaaDoor
open Go.RowKit Go.Shelf
set_option maxRecDepth 100000

def Box5 (w : World) (g : Nat) (a b c d e : Value) : Prop := w.heap[g]? = some (.cells #[a, b, c, d, e] 47 (0, 0))
theorem Box5.keep {w w' : World} {B g : Nat} {a b c d e : Value} (h : Box5 w g a b c d e) (hb : Below B w w') (hg : g < B) : Box5 w' g a b c d e := (hb.block g hg).trans h
theorem Box5.c0 {w : World} {g : Nat} {a b c d e : Value} (h : Box5 w g a b c d e) : w.cell? ⟨g, 0, none⟩ = some a := by rw [cell_of_row w g 0 _ _ _ h]; rfl
theorem Box5.c1 {w : World} {g : Nat} {a b c d e : Value} (h : Box5 w g a b c d e) : w.cell? ⟨g, 1, none⟩ = some b := by rw [cell_of_row w g 1 _ _ _ h]; rfl
theorem Box5.c2 {w : World} {g : Nat} {a b c d e : Value} (h : Box5 w g a b c d e) : w.cell? ⟨g, 2, none⟩ = some c := by rw [cell_of_row w g 2 _ _ _ h]; rfl
theorem Box5.c3 {w : World} {g : Nat} {a b c d e : Value} (h : Box5 w g a b c d e) : w.cell? ⟨g, 3, none⟩ = some d := by rw [cell_of_row w g 3 _ _ _ h]; rfl
theorem Box5.c4 {w : World} {g : Nat} {a b c d e : Value} (h : Box5 w g a b c d e) : w.cell? ⟨g, 4, none⟩ = some e := by rw [cell_of_row w g 4 _ _ _ h]; rfl
theorem Box5.fz {w : World} {g : Nat} {a b c d e : Value} (h : Box5 w g a b c d e) (j : Nat) : w.frozen? ⟨g, j, none⟩ = false := frozen_of_row w g j _ _ h
theorem Box5.lt {w : World} {g : Nat} {a b c d e : Value} (h : Box5 w g a b c d e) : g < w.heap.size := lt_of_block h
def put5 (w : World) (g : Nat) (a b c d e : Value) : World := ((((w.setCell ⟨g, 0, none⟩ a).setCell ⟨g, 1, none⟩ b).setCell ⟨g, 2, none⟩ c).setCell ⟨g, 3, none⟩ d).setCell ⟨g, 4, none⟩ e
theorem Box5.put {w : World} {g : Nat} {a b c d e : Value} (h : Box5 w g a b c d e) (a' b' c' d' e' : Value) : Box5 (put5 w g a' b' c' d' e') g a' b' c' d' e' := by
  have h0 : (w.setCell ⟨g, 0, none⟩ a').heap[g]? = some (.cells #[a', b, c, d, e] 47 (0, 0)) := heap_setCell_same w g 0 _ _ a' h
  have h1 : ((w.setCell ⟨g, 0, none⟩ a').setCell ⟨g, 1, none⟩ b').heap[g]? = some (.cells #[a', b', c, d, e] 47 (0, 0)) := heap_setCell_same _ g 1 _ _ b' h0
  have h2 := heap_setCell_same _ g 2 _ _ c' h1
  have h3 := heap_setCell_same _ g 3 _ _ d' h2
  exact heap_setCell_same _ g 4 _ _ e' h3
theorem below_put5 {B : Nat} {w w1 : World} {g : Nat} (hb : Below B w w1) (hg : B ≤ g) (a b c d e : Value) : Below B w (put5 w1 g a b c d e) := ((((hb.setCell hg _).setCell hg _).setCell hg _).setCell hg _).setCell hg _
/-- some value that may be stored -/
def Vl (w : World) (e : Ending) (w' : World) : Prop := (∃ kd iv rl re im tx, WfV iv rl re im ∧ e = .returned (valV kd iv rl re im tx)) ∧ Below w.heap.size w w'
theorem wf0 : WfV 0 0 0 0 := ⟨⟨by decide, by decide⟩, by decide, by decide, by decide⟩
set_option maxHeartbeats 4000000 in
theorem readComp_any (s : ByteArray) (w : World) (h1 : 1 ≤ s.size) (hm : s.size ≤ 140737488355328) (hG : Glob w) : Calls Tryd.prog 48 #[.string s] w (Vl w) := by
  have sf : ∀ (p : Addr) (b : Nat) (mo : Mode) (w' : World), (store p (.float .f64 b) mo).run Tryd.prog w' = stored Tryd.prog w' p (.float .f64 b) mo := fun p b mo w' => run_store _ w' p _ mo rfl
  have sc : ∀ (p : Addr) (b c : Nat) (mo : Mode) (w' : World), (store p (.complex .f64 b c) mo).run Tryd.prog w' = stored Tryd.prog w' p (.complex .f64 b c) mo := fun p b c mo w' => run_store _ w' p _ mo rfl
  obtain ⟨W0, hW0⟩ : ∃ W0, W0 = w.alloc (.cells #[.int .i64 0, .int .i64 0, .float .f64 0, .complex .f64 0 0, .string ⟨#[]⟩] 47) := ⟨_, rfl⟩
  have hB0 : Below w.heap.size w W0 := by rw [hW0]; exact (Below.refl w.heap.size w).alloc (Nat.le_refl _) _
  have hb0 : Box5 W0 w.heap.size (.int .i64 0) (.int .i64 0) (.float .f64 0) (.complex .f64 0 0) (.string ⟨#[]⟩) := by rw [hW0]; exact heap_alloc_new _ _
  have HW0 := Lib.hid hW0
  have HB0 := Lib.hid hB0
  have HX0 := Lib.hid hb0
  have HG0 := Lib.hid (hG.below hB0 (Nat.le_refl _))
  have hz : w.heap.size < W0.heap.size := hb0.lt
  have HC := Lib.hid (cut1_any (s.extract 1 s.size) 44 · (by simp; omega))
  clear hW0 hB0 hb0 hG
  go_enter Tryd.func48, Tryd.ntmps48
  go_upto_region 1 with (fail)
  rw [← HW0.out]
  go_upto_region 2 with (go_at_call 74; refine (HC.out _).mono ?_; rintro e w1 ⟨⟨a, b, ok, rfl, ha, hb⟩, hb1⟩)
  have ha : a.size ≤ 140737488355328 := Nat.le_trans ha (by simp; omega)
  have hb : b.size ≤ 140737488355328 := Nat.le_trans hb (by simp; omega)
  have HG1 := Lib.hid (HG0.out.below hb1 (Nat.le_refl _))
  have HB1 := Lib.hid hb1
  clear hb1
  go_upto_region 3 with (go_at_call 50; refine (readReal_any a _ ha HG1.out).mono ?_; rintro e w2 ⟨⟨r1, ok1, hr1, rfl⟩, hb2⟩)
  have HG2 := Lib.hid (HG1.out.below hb2 (Nat.le_refl _))
  have HB2 := Lib.hid (HB1.out.trans (hb2.mono HB1.out.size))
  clear hb2
  have htl : (⟨(Lib.trimSuffix b.data.toList [41]).toArray⟩ : ByteArray).size ≤ 140737488355328 := by
    have h : (Lib.trimSuffix b.data.toList [41]).length ≤ b.data.toList.length := by
      unfold Lib.trimSuffix
      split <;> simp
    have h2 : (⟨(Lib.trimSuffix b.data.toList [41]).toArray⟩ : ByteArray).size = (Lib.trimSuffix b.data.toList [41]).length := rfl
    have h3 : b.data.toList.length = b.size := rfl
    omega
  go_upto_region 4 with (first
    | (go_at_call 75; refine (Tryd.strings_TrimSuffix b ⟨#[41]⟩ _ (by omega)).mono ?_; rintro e w3 ⟨rfl, rfl⟩)
    | (go_at_call 50; refine (readReal_any _ _ htl HG2.out).mono ?_; rintro e w4 ⟨⟨r2, ok2, hr2, rfl⟩, hb4⟩))
  have HB4 := Lib.hid (HB2.out.trans (hb4.mono HB2.out.size))
  clear hb4
  have HX4 := Lib.hid (HX0.out.keep HB4.out hz)
  have f0 := HX4.out.fz 0
  have f1 := HX4.out.fz 1
  have f2 := HX4.out.fz 2
  have f3 := HX4.out.fz 3
  have f4 := HX4.out.fz 4
  have c0 := HX4.out.c0
  have c1 := HX4.out.c1
  have c2 := HX4.out.c2
  have c3 := HX4.out.c3
  have c4 := HX4.out.c4
  have hlt := HX4.out.lt
  have Z := HX4.out.put (.int .i64 0) (.int .i64 0) (.float .f64 0) (.complex .f64 0 0) (.string ⟨#[]⟩)
  have Y := HX4.out.put (.int .i64 3) (.int .i64 0) (.float .f64 0) (.complex .f64 r1 r2) (.string ⟨#[]⟩)
  have HZ := Lib.hid Z
  have HY := Lib.hid Y
  have hbw := HB0.out.trans (HB4.out.mono HB0.out.size)
  have HBW := Lib.hid hbw
  clear Z Y hbw
  cases ok1
  · cases ok2
    all_goals
      go_wp2_with fail
      have Z := HZ.out
      unfold put5 at Z
      have z0 := Z.c0
      have z1 := Z.c1
      have z2 := Z.c2
      have z3 := Z.c3
      have z4 := Z.c4
      exact bodyPost_ret (v := valV 0 0 0 0 0 ⟨#[]⟩) (by simp [results, Tryd.results48, go_sem, z0, z1, z2, z3, z4, valV]) rfl ⟨⟨_, _, _, _, _, _, wf0, rfl⟩, below_put5 HBW.out (Nat.le_refl _) _ _ _ _ _⟩
  · cases ok2
    · go_wp2_with fail
      have Z := HZ.out
      unfold put5 at Z
      have z0 := Z.c0
      have z1 := Z.c1
      have z2 := Z.c2
      have z3 := Z.c3
      have z4 := Z.c4
      exact bodyPost_ret (v := valV 0 0 0 0 0 ⟨#[]⟩) (by simp [results, Tryd.results48, go_sem, z0, z1, z2, z3, z4, valV]) rfl ⟨⟨_, _, _, _, _, _, wf0, rfl⟩, below_put5 HBW.out (Nat.le_refl _) _ _ _ _ _⟩
    · go_wp2_with fail
      have Z := HY.out
      unfold put5 at Z
      have z0 := Z.c0
      have z1 := Z.c1
      have z2 := Z.c2
      have z3 := Z.c3
      have z4 := Z.c4
      exact bodyPost_ret (v := valV 3 0 0 r1 r2 ⟨#[]⟩) (by simp [results, Tryd.results48, go_sem, z0, z1, z2, z3, z4, valV]) rfl ⟨⟨_, _, _, _, _, _, ⟨⟨by decide, by decide⟩, by decide, hr1, hr2⟩, rfl⟩, below_put5 HBW.out (Nat.le_refl _) _ _ _ _ _⟩
end Go.Proofs.YtkhghbeojfgkhaaDoor
