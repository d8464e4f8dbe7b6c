/- readComp, read: some value. -/
import Derived.Test.YtofjbakepneilaaGreatDoorVRead1
import Derived.Test.YtofjbakepneilaaGreatDoorVPrint2
import Derived.Test.YtofjbakepneilaaGreatDoorWBack
import Derived.Test.YtofjbakepneilaaGreatDoorWText
namespace Go.Proofs.YtofjbakepneilaaGreatDoor
open Go.RowKit Go.Shelf
set_option maxRecDepth 100000

def Box5 (w : World) (g : Nat) (a b c d e : Value) : Prop := w.heap[g]? = some (.cells #[a, b, c, d, e] 25 (0, 0))
theorem Box5.keep {w w' : World} {B g : Nat} {a b c d e : Value} (h : Box5 w g a b c d e) (hb : Below B w w') (hg : g < B) : Box5 w' g a b c d e := (hb.block g hg).trans h
theorem Box5.c0 {w : World} {g : Nat} {a b c d e : Value} (h : Box5 w g a b c d e) : w.cell? ⟨g, 0, none⟩ = some a := by rw [cell_of_row w g 0 _ _ _ h]; rfl
theorem Box5.c1 {w : World} {g : Nat} {a b c d e : Value} (h : Box5 w g a b c d e) : w.cell? ⟨g, 1, none⟩ = some b := by rw [cell_of_row w g 1 _ _ _ h]; rfl
theorem Box5.c2 {w : World} {g : Nat} {a b c d e : Value} (h : Box5 w g a b c d e) : w.cell? ⟨g, 2, none⟩ = some c := by rw [cell_of_row w g 2 _ _ _ h]; rfl
theorem Box5.c3 {w : World} {g : Nat} {a b c d e : Value} (h : Box5 w g a b c d e) : w.cell? ⟨g, 3, none⟩ = some d := by rw [cell_of_row w g 3 _ _ _ h]; rfl
theorem Box5.c4 {w : World} {g : Nat} {a b c d e : Value} (h : Box5 w g a b c d e) : w.cell? ⟨g, 4, none⟩ = some e := by rw [cell_of_row w g 4 _ _ _ h]; rfl
theorem Box5.fz {w : World} {g : Nat} {a b c d e : Value} (h : Box5 w g a b c d e) (j : Nat) : w.frozen? ⟨g, j, none⟩ = false := frozen_of_row w g j _ _ h
theorem Box5.lt {w : World} {g : Nat} {a b c d e : Value} (h : Box5 w g a b c d e) : g < w.heap.size := lt_of_block h
def put5 (w : World) (g : Nat) (a b c d e : Value) : World := ((((w.setCell ⟨g, 0, none⟩ a).setCell ⟨g, 1, none⟩ b).setCell ⟨g, 2, none⟩ c).setCell ⟨g, 3, none⟩ d).setCell ⟨g, 4, none⟩ e
theorem Box5.put {w : World} {g : Nat} {a b c d e : Value} (h : Box5 w g a b c d e) (a' b' c' d' e' : Value) : Box5 (put5 w g a' b' c' d' e') g a' b' c' d' e' := by
  have h0 : (w.setCell ⟨g, 0, none⟩ a').heap[g]? = some (.cells #[a', b, c, d, e] 25 (0, 0)) := heap_setCell_same w g 0 _ _ a' h
  have h1 : ((w.setCell ⟨g, 0, none⟩ a').setCell ⟨g, 1, none⟩ b').heap[g]? = some (.cells #[a', b', c, d, e] 25 (0, 0)) := heap_setCell_same _ g 1 _ _ b' h0
  have h2 := heap_setCell_same _ g 2 _ _ c' h1
  have h3 := heap_setCell_same _ g 3 _ _ d' h2
  exact heap_setCell_same _ g 4 _ _ e' h3
theorem below_put5 {B : Nat} {w w1 : World} {g : Nat} (hb : Below B w w1) (hg : B ≤ g) (a b c d e : Value) : Below B w (put5 w1 g a b c d e) := ((((hb.setCell hg _).setCell hg _).setCell hg _).setCell hg _).setCell hg _
/-- some value that may be stored -/
def Vl (w : World) (e : Ending) (w' : World) : Prop := (∃ kd iv rl re im tx, WfV iv rl re im ∧ e = .returned (valV kd iv rl re im tx)) ∧ Below w.heap.size w w'
theorem wf0 : WfV 0 0 0 0 := ⟨⟨by decide, by decide⟩, by decide, by decide, by decide⟩
set_option maxHeartbeats 4000000 in
theorem readComp_any (s : ByteArray) (w : World) (h1 : 1 ≤ s.size) (hm : s.size ≤ 140737488355328) (hG : Glob w) : Calls Tryz.prog 37 #[.string s] w (Vl w) := by
  have sf : ∀ (p : Addr) (b : Nat) (mo : Mode) (w' : World), (store p (.float .f64 b) mo).run Tryz.prog w' = stored Tryz.prog w' p (.float .f64 b) mo := fun p b mo w' => run_store _ w' p _ mo rfl
  have sc : ∀ (p : Addr) (b c : Nat) (mo : Mode) (w' : World), (store p (.complex .f64 b c) mo).run Tryz.prog w' = stored Tryz.prog w' p (.complex .f64 b c) mo := fun p b c mo w' => run_store _ w' p _ mo rfl
  obtain ⟨W0, hW0⟩ : ∃ W0, W0 = w.alloc (.cells #[.int .i64 0, .int .i64 0, .float .f64 0, .complex .f64 0 0, .string ⟨#[]⟩] 25) := ⟨_, rfl⟩
  have hB0 : Below w.heap.size w W0 := by rw [hW0]; exact (Below.refl w.heap.size w).alloc (Nat.le_refl _) _
  have hb0 : Box5 W0 w.heap.size (.int .i64 0) (.int .i64 0) (.float .f64 0) (.complex .f64 0 0) (.string ⟨#[]⟩) := by rw [hW0]; exact heap_alloc_new _ _
  have HW0 := Lib.hid hW0
  have HB0 := Lib.hid hB0
  have HX0 := Lib.hid hb0
  have HG0 := Lib.hid (hG.below hB0 (Nat.le_refl _))
  have hz : w.heap.size < W0.heap.size := hb0.lt
  have HC := Lib.hid (cut1_any (s.extract 1 s.size) 44 · (by simp; omega))
  clear hW0 hB0 hb0 hG
  go_enter Tryz.func37, Tryz.ntmps37
  go_upto_region 1 with (fail)
  rw [← HW0.out]
  go_upto_region 2 with (go_at_call 64; refine (HC.out _).mono ?_; rintro e w1 ⟨⟨a, b, ok, rfl, ha, hb⟩, hb1⟩)
  have ha : a.size ≤ 140737488355328 := Nat.le_trans ha (by simp; omega)
  have hb : b.size ≤ 140737488355328 := Nat.le_trans hb (by simp; omega)
  have HG1 := Lib.hid (HG0.out.below hb1 (Nat.le_refl _))
  have HB1 := Lib.hid hb1
  clear hb1
  go_upto_region 3 with (go_at_call 39; refine (readReal_any a _ ha HG1.out).mono ?_; rintro e w2 ⟨⟨r1, ok1, hr1, rfl⟩, hb2⟩)
  have HG2 := Lib.hid (HG1.out.below hb2 (Nat.le_refl _))
  have HB2 := Lib.hid (HB1.out.trans (hb2.mono HB1.out.size))
  clear hb2
  have htl : (⟨(Lib.trimSuffix b.data.toList [41]).toArray⟩ : ByteArray).size ≤ 140737488355328 := by
    have h : (Lib.trimSuffix b.data.toList [41]).length ≤ b.data.toList.length := by
      unfold Lib.trimSuffix
      split <;> simp
    have h2 : (⟨(Lib.trimSuffix b.data.toList [41]).toArray⟩ : ByteArray).size = (Lib.trimSuffix b.data.toList [41]).length := rfl
    have h3 : b.data.toList.length = b.size := rfl
    omega
  go_upto_region 4 with (first
    | (go_at_call 65; refine (Tryz.strings_TrimSuffix b ⟨#[41]⟩ _ (by omega)).mono ?_; rintro e w3 ⟨rfl, rfl⟩)
    | (go_at_call 39; refine (readReal_any _ _ htl HG2.out).mono ?_; rintro e w4 ⟨⟨r2, ok2, hr2, rfl⟩, hb4⟩))
  have HB4 := Lib.hid (HB2.out.trans (hb4.mono HB2.out.size))
  clear hb4
  have HX4 := Lib.hid (HX0.out.keep HB4.out hz)
  have f0 := HX4.out.fz 0
  have f1 := HX4.out.fz 1
  have f2 := HX4.out.fz 2
  have f3 := HX4.out.fz 3
  have f4 := HX4.out.fz 4
  have c0 := HX4.out.c0
  have c1 := HX4.out.c1
  have c2 := HX4.out.c2
  have c3 := HX4.out.c3
  have c4 := HX4.out.c4
  have hlt := HX4.out.lt
  have Z := HX4.out.put (.int .i64 0) (.int .i64 0) (.float .f64 0) (.complex .f64 0 0) (.string ⟨#[]⟩)
  have Y := HX4.out.put (.int .i64 3) (.int .i64 0) (.float .f64 0) (.complex .f64 r1 r2) (.string ⟨#[]⟩)
  have HZ := Lib.hid Z
  have HY := Lib.hid Y
  have hbw := HB0.out.trans (HB4.out.mono HB0.out.size)
  have HBW := Lib.hid hbw
  clear Z Y hbw
  cases ok1
  · cases ok2
    all_goals
      go_wp2_with fail
      have Z := HZ.out
      unfold put5 at Z
      have z0 := Z.c0
      have z1 := Z.c1
      have z2 := Z.c2
      have z3 := Z.c3
      have z4 := Z.c4
      exact bodyPost_ret (v := valV 0 0 0 0 0 ⟨#[]⟩) (by simp [results, Tryz.results37, go_sem, z0, z1, z2, z3, z4, valV]) rfl ⟨⟨_, _, _, _, _, _, wf0, rfl⟩, below_put5 HBW.out (Nat.le_refl _) _ _ _ _ _⟩
  · cases ok2
    · go_wp2_with fail
      have Z := HZ.out
      unfold put5 at Z
      have z0 := Z.c0
      have z1 := Z.c1
      have z2 := Z.c2
      have z3 := Z.c3
      have z4 := Z.c4
      exact bodyPost_ret (v := valV 0 0 0 0 0 ⟨#[]⟩) (by simp [results, Tryz.results37, go_sem, z0, z1, z2, z3, z4, valV]) rfl ⟨⟨_, _, _, _, _, _, wf0, rfl⟩, below_put5 HBW.out (Nat.le_refl _) _ _ _ _ _⟩
    · go_wp2_with fail
      have Z := HY.out
      unfold put5 at Z
      have z0 := Z.c0
      have z1 := Z.c1
      have z2 := Z.c2
      have z3 := Z.c3
      have z4 := Z.c4
      exact bodyPost_ret (v := valV 3 0 0 r1 r2 ⟨#[]⟩) (by simp [results, Tryz.results37, go_sem, z0, z1, z2, z3, z4, valV]) rfl ⟨⟨_, _, _, _, _, _, ⟨⟨by decide, by decide⟩, by decide, hr1, hr2⟩, rfl⟩, below_put5 HBW.out (Nat.le_refl _) _ _ _ _ _⟩
end Go.Proofs.YtofjbakepneilaaGreatDoor
/- A complex number's text is read back. -/
namespace Go.Proofs.YtofjbakepneilaaGreatDoor
open Go.RowKit Go.Shelf
set_option maxRecDepth 100000

/-- the same real, or both no number -/
def Like (r b : Nat) : Prop := r = b ∨ (nanB r = true ∧ nanB b = true)
def compT (re im : Nat) : ByteArray := (((⟨#[40]⟩ ++ realT re) ++ ⟨#[44]⟩) ++ realT im) ++ ⟨#[41]⟩
theorem compT_len {re im : Nat} (h1 : re < 18446744073709551616) (h2 : im < 18446744073709551616) : (compT re im).size ≤ 89 := by
  have := realT_len h1
  have := realT_len h2
  unfold compT
  rw [size_cat, size_cat, size_cat, size_cat]
  have z1 : (⟨#[40]⟩ : ByteArray).size = 1 := rfl
  have z2 : (⟨#[44]⟩ : ByteArray).size = 1 := rfl
  have z3 : (⟨#[41]⟩ : ByteArray).size = 1 := rfl
  omega
theorem compT_pos (re im : Nat) : 1 ≤ (compT re im).size := by
  unfold compT
  rw [size_cat]
  have z3 : (⟨#[41]⟩ : ByteArray).size = 1 := rfl
  omega
theorem index_none (q : UInt8) : ∀ (l t : List UInt8), (∀ c ∈ l, c ≠ q) → Lib.indexByte (l ++ q :: t) q = l.length
  | [], t, _ => by simp [Lib.indexByte]
  | c :: r, t, h => by
    have hc : (c == q) = false := beq_eq_false_iff_ne.2 (h c (by simp))
    have ih := index_none q r t (fun x hx => h x (List.mem_cons_of_mem _ hx))
    show Lib.indexByte (c :: (r ++ q :: t)) q = _
    unfold Lib.indexByte
    rw [hc, ih]
    simp
theorem itoa_chars (n : Int) : ∀ c ∈ Lib.itoa n, c ≠ 44 := by
  have hd : ∀ m, ∀ c ∈ Lib.decDigits m, c ≠ 44 := by
    rintro m c hc rfl
    have := dd_digit m 44 hc
    exact absurd this.1 (by decide)
  intro c hc
  unfold Lib.itoa at hc
  split at hc
  · rcases List.mem_cons.1 hc with rfl | h
    · decide
    · exact hd _ _ h
  · exact hd _ _ hc
theorem magL_chars (b : Nat) : ∀ c ∈ magL b, c ≠ 44 := by
  intro c hc
  unfold magL at hc
  split at hc
  · rintro rfl; exact absurd hc (by decide)
  · split at hc
    · rintro rfl; exact absurd hc (by decide)
    · rcases List.mem_append.1 hc with h | h
      · rintro rfl
        exact absurd (dd_digit _ 44 h).1 (by decide)
      · rcases List.mem_cons.1 h with rfl | h
        · decide
        · exact itoa_chars _ _ h
theorem realT_chars {b : Nat} (hb : b < 18446744073709551616) : ∀ c ∈ (realT b).data.toList, c ≠ 44 := by
  rw [realT_list hb]
  intro c hc
  simp only at hc
  split at hc
  · rintro rfl; exact absurd hc (by decide)
  · split at hc
    · rcases List.mem_cons.1 (by simpa using hc) with rfl | h
      · decide
      · exact magL_chars _ _ h
    · exact magL_chars _ _ (by simpa using hc)
theorem comp_list (re im : Nat) : (compT re im).data.toList = 40 :: ((realT re).data.toList ++ 44 :: ((realT im).data.toList ++ [41])) := by
  unfold compT
  simp
theorem ext_eq {x y : ByteArray} (h : x.data.toList = y.data.toList) : x = y := by
  rw [ba_eq (x := x) h]
theorem comp_cut {re im : Nat} (h1 : re < 18446744073709551616) (h2 : im < 18446744073709551616) : cutV ((compT re im).extract 1 (compT re im).size) 44 = .tuple #[.string (realT re), .string (realT im ++ ⟨#[41]⟩), .bool true] := by
  have hl : ((compT re im).extract 1 (compT re im).size).data.toList = (realT re).data.toList ++ 44 :: ((realT im).data.toList ++ [41]) := by
    rw [drop_list, comp_list]
    rfl
  generalize (compT re im).extract 1 (compT re im).size = x at hl ⊢
  unfold cutV
  rw [hl, index_none 44 _ _ (realT_chars h1), if_pos (by omega), Int.toNat_natCast]
  have e1 : x.extract 0 (realT re).data.toList.length = realT re := by
    apply ext_eq
    rw [ByteArray.data_extract, Array.toList_extract, List.extract_eq_take_drop, hl]
    simp
  have e2 : x.extract ((realT re).data.toList.length + 1) x.size = realT im ++ ⟨#[41]⟩ := by
    apply ext_eq
    rw [drop_list, hl, List.drop_append]
    simp
  rw [e1, e2]
theorem trim_one (x : ByteArray) : (⟨(Lib.trimSuffix (x ++ ⟨#[41]⟩ : ByteArray).data.toList [41]).toArray⟩ : ByteArray) = x := by
  have e : (x ++ ⟨#[41]⟩ : ByteArray).data.toList = x.data.toList ++ [41] := by simp
  rw [e]
  unfold Lib.trimSuffix
  rw [if_pos]
  · simp
  · simp [Lib.hasSuffix]
set_option maxHeartbeats 4000000 in
theorem readComp_back (re im : Nat) (hre : re < 18446744073709551616) (him : im < 18446744073709551616) (w : World) : Calls Tryz.prog 37 #[.string (compT re im)] w fun e w' => (∃ r1 r2, Like r1 re ∧ Like r2 im ∧ r1 < 18446744073709551616 ∧ r2 < 18446744073709551616 ∧ e = .returned (valV 3 0 0 r1 r2 ⟨#[]⟩)) ∧ Below w.heap.size w w' := by
  obtain ⟨s, hs⟩ : ∃ s, s = compT re im := ⟨_, rfl⟩
  have hsz : s.size ≤ 89 := by rw [hs]; exact compT_len hre him
  have h1 : 1 ≤ s.size := by rw [hs]; exact compT_pos re im
  have hcv : cutV (s.extract 1 s.size) 44 = .tuple #[.string (realT re), .string (realT im ++ ⟨#[41]⟩), .bool true] := by rw [hs]; exact comp_cut hre him
  have htrim : (⟨(Lib.trimSuffix (realT im ++ ⟨#[41]⟩).data.toList [41]).toArray⟩ : ByteArray) = realT im := trim_one _
  have htl : (realT im ++ ⟨#[41]⟩ : ByteArray).size ≤ 9223372036854775807 := by
    have := realT_len him
    rw [size_cat]
    have z : (⟨#[41]⟩ : ByteArray).size = 1 := rfl
    omega
  rw [← hs]
  have sf : ∀ (p : Addr) (b : Nat) (mo : Mode) (w' : World), (store p (.float .f64 b) mo).run Tryz.prog w' = stored Tryz.prog w' p (.float .f64 b) mo := fun p b mo w' => run_store _ w' p _ mo rfl
  have sc : ∀ (p : Addr) (b c : Nat) (mo : Mode) (w' : World), (store p (.complex .f64 b c) mo).run Tryz.prog w' = stored Tryz.prog w' p (.complex .f64 b c) mo := fun p b c mo w' => run_store _ w' p _ mo rfl
  obtain ⟨W0, hW0⟩ : ∃ W0, W0 = w.alloc (.cells #[.int .i64 0, .int .i64 0, .float .f64 0, .complex .f64 0 0, .string ⟨#[]⟩] 25) := ⟨_, rfl⟩
  have hB0 : Below w.heap.size w W0 := by rw [hW0]; exact (Below.refl w.heap.size w).alloc (Nat.le_refl _) _
  have hb0 : Box5 W0 w.heap.size (.int .i64 0) (.int .i64 0) (.float .f64 0) (.complex .f64 0 0) (.string ⟨#[]⟩) := by rw [hW0]; exact heap_alloc_new _ _
  have HW0 := Lib.hid hW0
  have HB0 := Lib.hid hB0
  have HX0 := Lib.hid hb0
  have hz : w.heap.size < W0.heap.size := hb0.lt
  have hC := fun W => wcut_any (s.extract 1 s.size) 44 W (by simp; omega)
  rw [hcv] at hC
  have HC := Lib.hid hC
  have HR1 := Lib.hid (readReal_back re hre)
  have HR2 := Lib.hid (readReal_back im him)
  have HT := Lib.hid htrim
  have hT := fun W => Tryz.strings_TrimSuffix (realT im ++ ⟨#[41]⟩) ⟨#[41]⟩ W htl
  rw [show (⟨#[41]⟩ : ByteArray).data.toList = [41] from rfl, htrim] at hT
  have HTR := Lib.hid hT
  generalize realT re = s1 at HC HR1
  generalize realT im ++ ⟨#[41]⟩ = s3 at HC HTR
  generalize realT im = s2 at HR2 HTR
  clear hW0 hB0 hb0 hC hcv htrim HT hT htl hs
  go_enter Tryz.func37, Tryz.ntmps37
  go_upto_region 1 with (fail)
  rw [← HW0.out]
  go_upto_region 2 with (go_at_call 64; refine (HC.out _).mono ?_; rintro e w1 ⟨rfl, hb1⟩)
  have HB1 := Lib.hid hb1
  clear hb1
  go_upto_region 3 with (go_at_call 39; refine (HR1.out _).mono ?_; rintro e w2 ⟨⟨r1, hk1, hr1, rfl⟩, hb2⟩)
  have HB2 := Lib.hid (HB1.out.trans (hb2.mono HB1.out.size))
  clear hb2
  go_upto_region 4 with (first
    | (go_at_call 65; refine (HTR.out _).mono ?_; rintro e w3 ⟨rfl, rfl⟩)
    | (go_at_call 39; refine (HR2.out _).mono ?_; rintro e w4 ⟨⟨r2, hk2, hr2, rfl⟩, hb4⟩))
  have HB4 := Lib.hid (HB2.out.trans (hb4.mono HB2.out.size))
  have HK1 := Lib.hid hk1
  have HK2 := Lib.hid hk2
  clear hb4 hk1 hk2
  have HX4 := Lib.hid (HX0.out.keep HB4.out hz)
  have f0 := HX4.out.fz 0
  have f1 := HX4.out.fz 1
  have f2 := HX4.out.fz 2
  have f3 := HX4.out.fz 3
  have f4 := HX4.out.fz 4
  have c0 := HX4.out.c0
  have c1 := HX4.out.c1
  have c2 := HX4.out.c2
  have c3 := HX4.out.c3
  have c4 := HX4.out.c4
  have hlt := HX4.out.lt
  have Y := HX4.out.put (.int .i64 3) (.int .i64 0) (.float .f64 0) (.complex .f64 r1 r2) (.string ⟨#[]⟩)
  have HY := Lib.hid Y
  have hbw := HB0.out.trans (HB4.out.mono HB0.out.size)
  have HBW := Lib.hid hbw
  clear Y hbw
  go_wp2_with fail
  have Z := HY.out
  unfold put5 at Z
  have z0 := Z.c0
  have z1 := Z.c1
  have z2 := Z.c2
  have z3 := Z.c3
  have z4 := Z.c4
  exact bodyPost_ret (v := valV 3 0 0 r1 r2 ⟨#[]⟩) (by simp [results, Tryz.results37, go_sem, z0, z1, z2, z3, z4, valV]) rfl ⟨⟨_, _, HK1.out, HK2.out, hr1, hr2, rfl⟩, below_put5 HBW.out (Nat.le_refl _) _ _ _ _ _⟩
end Go.Proofs.YtofjbakepneilaaGreatDoor
/- read: some value. -/
namespace Go.Proofs.YtofjbakepneilaaGreatDoor
open Go.RowKit Go.Shelf
set_option maxRecDepth 100000

theorem pre_len {l : List UInt8} {c : UInt8} (h : Lib.hasPrefix l [c] = true) : 1 ≤ l.length := by
  cases l with
  | nil => simp [Lib.hasPrefix] at h
  | cons a t => simp
set_option maxHeartbeats 8000000 in
theorem read_any (s : ByteArray) (w : World) (hm : s.size ≤ 140737488355328) (hG : Glob w) : Calls Tryz.prog 18 #[.string s] w (Vl w) := by
  have sf : ∀ (p : Addr) (b : Nat) (mo : Mode) (w' : World), (store p (.float .f64 b) mo).run Tryz.prog w' = stored Tryz.prog w' p (.float .f64 b) mo := fun p b mo w' => run_store _ w' p _ mo rfl
  have sc : ∀ (p : Addr) (b c : Nat) (mo : Mode) (w' : World), (store p (.complex .f64 b c) mo).run Tryz.prog w' = stored Tryz.prog w' p (.complex .f64 b c) mo := fun p b c mo w' => run_store _ w' p _ mo rfl
  obtain ⟨W0, hW0⟩ : ∃ W0, W0 = w.alloc (.cells #[.int .i64 0, .int .i64 0, .float .f64 0, .complex .f64 0 0, .string ⟨#[]⟩] 25) := ⟨_, rfl⟩
  have hB0 : Below w.heap.size w W0 := by rw [hW0]; exact (Below.refl w.heap.size w).alloc (Nat.le_refl _) _
  have hb0 : Box5 W0 w.heap.size (.int .i64 0) (.int .i64 0) (.float .f64 0) (.complex .f64 0 0) (.string ⟨#[]⟩) := by rw [hW0]; exact heap_alloc_new _ _
  have HW0 := Lib.hid hW0
  have HB0 := Lib.hid hB0
  have HX0 := Lib.hid hb0
  have HG0 := Lib.hid (hG.below hB0 (Nat.le_refl _))
  have hz : w.heap.size < W0.heap.size := hb0.lt
  have hsz : s.data.toList.length = s.size := rfl
  clear hW0 hB0 hb0 hG
  cases t1 : (s.toList == [102, 97, 108, 115, 101]) with
  | true =>
    have HX := HX0
    have f0 := HX.out.fz 0
    have f1 := HX.out.fz 1
    have f2 := HX.out.fz 2
    have f3 := HX.out.fz 3
    have f4 := HX.out.fz 4
    have c0 := HX.out.c0
    have c1 := HX.out.c1
    have c2 := HX.out.c2
    have c3 := HX.out.c3
    have c4 := HX.out.c4
    have hlt := HX.out.lt
    go_enter Tryz.func18, Tryz.ntmps18
    go_upto_region 1 with (fail)
    rw [← HW0.out]
    go_wp2_with fail
    have Z := HX.out.put (.int .i64 5) (.int .i64 0) (.float .f64 0) (.complex .f64 0 0) (.string ⟨#[]⟩)
    unfold put5 at Z
    have z0 := Z.c0
    have z1 := Z.c1
    have z2 := Z.c2
    have z3 := Z.c3
    have z4 := Z.c4
    exact bodyPost_ret (v := valV 5 0 0 0 0 ⟨#[]⟩) (by simp [results, Tryz.results18, go_sem, z0, z1, z2, z3, z4, valV]) rfl ⟨⟨_, _, _, _, _, _, wf0, rfl⟩, below_put5 HB0.out (Nat.le_refl _) _ _ _ _ _⟩
  | false =>
  cases t2 : (s.toList == [116, 114, 117, 101]) with
  | true =>
    have HX := HX0
    have f0 := HX.out.fz 0
    have f1 := HX.out.fz 1
    have f2 := HX.out.fz 2
    have f3 := HX.out.fz 3
    have f4 := HX.out.fz 4
    have c0 := HX.out.c0
    have c1 := HX.out.c1
    have c2 := HX.out.c2
    have c3 := HX.out.c3
    have c4 := HX.out.c4
    have hlt := HX.out.lt
    go_enter Tryz.func18, Tryz.ntmps18
    go_upto_region 1 with (fail)
    rw [← HW0.out]
    go_wp2_with fail
    have Z := HX.out.put (.int .i64 5) (.int .i64 1) (.float .f64 0) (.complex .f64 0 0) (.string ⟨#[]⟩)
    unfold put5 at Z
    have z0 := Z.c0
    have z1 := Z.c1
    have z2 := Z.c2
    have z3 := Z.c3
    have z4 := Z.c4
    exact bodyPost_ret (v := valV 5 1 0 0 0 ⟨#[]⟩) (by simp [results, Tryz.results18, go_sem, z0, z1, z2, z3, z4, valV]) rfl ⟨⟨_, _, _, _, _, _, ⟨⟨by decide, by decide⟩, by decide, by decide, by decide⟩, rfl⟩, below_put5 HB0.out (Nat.le_refl _) _ _ _ _ _⟩
  | false =>
  cases t3 : Lib.hasPrefix s.data.toList [34] with
  | true =>
    have hs1 : 1 ≤ s.size := by have := pre_len t3; omega
    have HU := Lib.hid (vunquote_any s W0 hs1 hm)
    have HQ1 : Hid (∀ W, Calls Tryz.prog 35 #[.string s, .string ⟨#[34]⟩] W fun e w' => e = .returned (.bool true) ∧ w' = W) := Lib.hid fun W => by have := Tryz.strings_HasPrefix s ⟨#[34]⟩ W; rw [show (⟨#[34]⟩ : ByteArray).data.toList = [34] from rfl, t3] at this; exact this
    clear t3
    go_enter Tryz.func18, Tryz.ntmps18
    go_upto_region 1 with (fail)
    rw [← HW0.out]
    go_wp2_with (first | (go_at_call 35; with_reducible refine (HQ1.out _).mono ?_; rintro e w' ⟨rfl, rfl⟩) | (go_at_call 36; refine HU.out.mono ?_; rintro e w1 ⟨⟨tx, rfl⟩, hb1⟩; have HB := Lib.hid (HB0.out.trans (hb1.mono HB0.out.size)); have HX := Lib.hid (HX0.out.keep hb1 hz); have f0 := HX.out.fz 0; have f1 := HX.out.fz 1; have f2 := HX.out.fz 2; have f3 := HX.out.fz 3; have f4 := HX.out.fz 4; have c0 := HX.out.c0; have c1 := HX.out.c1; have c2 := HX.out.c2; have c3 := HX.out.c3; have c4 := HX.out.c4; have hlt := HX.out.lt; clear hb1))
    have Z := HX.out.put (.int .i64 4) (.int .i64 0) (.float .f64 0) (.complex .f64 0 0) (.string tx)
    unfold put5 at Z
    have z0 := Z.c0
    have z1 := Z.c1
    have z2 := Z.c2
    have z3 := Z.c3
    have z4 := Z.c4
    exact bodyPost_ret (v := valV 4 0 0 0 0 tx) (by simp [results, Tryz.results18, go_sem, z0, z1, z2, z3, z4, valV]) rfl ⟨⟨_, _, _, _, _, _, wf0, rfl⟩, below_put5 HB.out (Nat.le_refl _) _ _ _ _ _⟩
  | false =>
  have HQ1 : Hid (∀ W, Calls Tryz.prog 35 #[.string s, .string ⟨#[34]⟩] W fun e w' => e = .returned (.bool false) ∧ w' = W) := Lib.hid fun W => by have := Tryz.strings_HasPrefix s ⟨#[34]⟩ W; rw [show (⟨#[34]⟩ : ByteArray).data.toList = [34] from rfl, t3] at this; exact this
  cases t4 : Lib.hasPrefix s.data.toList [40] with
  | true =>
    have hs1 : 1 ≤ s.size := by have := pre_len t4; omega
    have HU := Lib.hid (readComp_any s W0 hs1 hm HG0.out)
    have HQ2 : Hid (∀ W, Calls Tryz.prog 35 #[.string s, .string ⟨#[40]⟩] W fun e w' => e = .returned (.bool true) ∧ w' = W) := Lib.hid fun W => by have := Tryz.strings_HasPrefix s ⟨#[40]⟩ W; rw [show (⟨#[40]⟩ : ByteArray).data.toList = [40] from rfl, t4] at this; exact this
    clear t3 t4
    go_enter Tryz.func18, Tryz.ntmps18
    go_upto_region 1 with (fail)
    rw [← HW0.out]
    go_wp2_with (first | (go_at_call 35; with_reducible refine (HQ1.out _).mono ?_; rintro e w' ⟨rfl, rfl⟩) | (go_at_call 35; with_reducible refine (HQ2.out _).mono ?_; rintro e w' ⟨rfl, rfl⟩) | (go_at_call 37; refine HU.out.mono ?_; rintro e w1 ⟨⟨kd, iv, rl, re, im, tx, hwf, rfl⟩, hb1⟩; have HB := Lib.hid (HB0.out.trans (hb1.mono HB0.out.size)); have HX := Lib.hid (HX0.out.keep hb1 hz); have f0 := HX.out.fz 0; have f1 := HX.out.fz 1; have f2 := HX.out.fz 2; have f3 := HX.out.fz 3; have f4 := HX.out.fz 4; have c0 := HX.out.c0; have c1 := HX.out.c1; have c2 := HX.out.c2; have c3 := HX.out.c3; have c4 := HX.out.c4; have hlt := HX.out.lt; clear hb1; unfold valV))
    have Z := HX.out.put (.int .i64 kd) (.int .i64 iv) (.float .f64 rl) (.complex .f64 re im) (.string tx)
    unfold put5 at Z
    have z0 := Z.c0
    have z1 := Z.c1
    have z2 := Z.c2
    have z3 := Z.c3
    have z4 := Z.c4
    exact bodyPost_ret (v := valV kd iv rl re im tx) (by simp [results, Tryz.results18, go_sem, z0, z1, z2, z3, z4, valV]) rfl ⟨⟨_, _, _, _, _, _, hwf, rfl⟩, below_put5 HB.out (Nat.le_refl _) _ _ _ _ _⟩
  | false =>
  have HQ2 : Hid (∀ W, Calls Tryz.prog 35 #[.string s, .string ⟨#[40]⟩] W fun e w' => e = .returned (.bool false) ∧ w' = W) := Lib.hid fun W => by have := Tryz.strings_HasPrefix s ⟨#[40]⟩ W; rw [show (⟨#[40]⟩ : ByteArray).data.toList = [40] from rfl, t4] at this; exact this
  clear t3 t4
  by_cases hp : ∃ v, Lib.parseIntB 64 s.data.toList = .ok v
  · obtain ⟨v, hv⟩ := hp
    have hvr := parse_range hv
    have HU := Lib.hid (parse_ok s W0 (by omega) v hv)
    clear hv
    go_enter Tryz.func18, Tryz.ntmps18
    go_upto_region 1 with (fail)
    rw [← HW0.out]
    go_wp2_with (first | (go_at_call 35; with_reducible refine (HQ1.out _).mono ?_; rintro e w' ⟨rfl, rfl⟩) | (go_at_call 35; with_reducible refine (HQ2.out _).mono ?_; rintro e w' ⟨rfl, rfl⟩) | (go_at_call 38; refine HU.out.mono ?_; rintro e w1 ⟨rfl, hb1⟩; have HB := Lib.hid (HB0.out.trans (hb1.mono HB0.out.size)); have HX := Lib.hid (HX0.out.keep hb1 hz); have f0 := HX.out.fz 0; have f1 := HX.out.fz 1; have f2 := HX.out.fz 2; have f3 := HX.out.fz 3; have f4 := HX.out.fz 4; have c0 := HX.out.c0; have c1 := HX.out.c1; have c2 := HX.out.c2; have c3 := HX.out.c3; have c4 := HX.out.c4; have hlt := HX.out.lt; clear hb1))
    have Z := HX.out.put (.int .i64 1) (.int .i64 v) (.float .f64 0) (.complex .f64 0 0) (.string ⟨#[]⟩)
    unfold put5 at Z
    have z0 := Z.c0
    have z1 := Z.c1
    have z2 := Z.c2
    have z3 := Z.c3
    have z4 := Z.c4
    exact bodyPost_ret (v := valV 1 v 0 0 0 ⟨#[]⟩) (by simp [results, Tryz.results18, go_sem, z0, z1, z2, z3, z4, valV]) rfl ⟨⟨_, _, _, _, _, _, ⟨hvr, by decide, by decide, by decide⟩, rfl⟩, below_put5 HB.out (Nat.le_refl _) _ _ _ _ _⟩
  · have hp' : ∀ v, Lib.parseIntB 64 s.data.toList ≠ .ok v := fun v hv => hp ⟨v, hv⟩
    have HU := Lib.hid (parse_bad s W0 (by omega) HG0.out hp')
    clear hp hp'
    go_enter Tryz.func18, Tryz.ntmps18
    go_upto_region 1 with (fail)
    rw [← HW0.out]
    go_upto_region 12 with (first | (go_at_call 35; with_reducible refine (HQ1.out _).mono ?_; rintro e w' ⟨rfl, rfl⟩) | (go_at_call 35; with_reducible refine (HQ2.out _).mono ?_; rintro e w' ⟨rfl, rfl⟩) | (go_at_call 38; refine HU.out.mono ?_; rintro e w1 ⟨v1, N1, rfl, hb1⟩))
    have HG1 := Lib.hid (HG0.out.below hb1 (Nat.le_refl _))
    have HB1 := Lib.hid hb1
    clear hb1
    go_upto_region 13 with (go_at_call 39; refine (readReal_any s _ hm HG1.out).mono ?_; rintro e w2 ⟨⟨r, ok, hr, rfl⟩, hb2⟩; have hb1 := HB1.out.trans (hb2.mono HB1.out.size); clear hb2; have HB := Lib.hid (HB0.out.trans (hb1.mono HB0.out.size)); have HX := Lib.hid (HX0.out.keep hb1 hz); have f0 := HX.out.fz 0; have f1 := HX.out.fz 1; have f2 := HX.out.fz 2; have f3 := HX.out.fz 3; have f4 := HX.out.fz 4; have c0 := HX.out.c0; have c1 := HX.out.c1; have c2 := HX.out.c2; have c3 := HX.out.c3; have c4 := HX.out.c4; have hlt := HX.out.lt; clear hb1)
    cases ok
    · go_wp2_with fail
      have Z := HX.out.put (.int .i64 0) (.int .i64 0) (.float .f64 0) (.complex .f64 0 0) (.string ⟨#[]⟩)
      unfold put5 at Z
      have z0 := Z.c0
      have z1 := Z.c1
      have z2 := Z.c2
      have z3 := Z.c3
      have z4 := Z.c4
      exact bodyPost_ret (v := valV 0 0 0 0 0 ⟨#[]⟩) (by simp [results, Tryz.results18, go_sem, z0, z1, z2, z3, z4, valV]) rfl ⟨⟨_, _, _, _, _, _, wf0, rfl⟩, below_put5 HB.out (Nat.le_refl _) _ _ _ _ _⟩
    · go_wp2_with fail
      have Z := HX.out.put (.int .i64 2) (.int .i64 0) (.float .f64 r) (.complex .f64 0 0) (.string ⟨#[]⟩)
      unfold put5 at Z
      have z0 := Z.c0
      have z1 := Z.c1
      have z2 := Z.c2
      have z3 := Z.c3
      have z4 := Z.c4
      exact bodyPost_ret (v := valV 2 0 r 0 0 ⟨#[]⟩) (by simp [results, Tryz.results18, go_sem, z0, z1, z2, z3, z4, valV]) rfl ⟨⟨_, _, _, _, _, _, ⟨⟨by decide, by decide⟩, hr, by decide, by decide⟩, rfl⟩, below_put5 HB.out (Nat.le_refl _) _ _ _ _ _⟩
end Go.Proofs.YtofjbakepneilaaGreatDoor
/- read at a value's own text. -/
namespace Go.Proofs.YtofjbakepneilaaGreatDoor
open Go.RowKit Go.Shelf
set_option maxRecDepth 100000

set_option maxHeartbeats 2000000 in
theorem vread_text (s : ByteArray) (w : World) (hG : Glob w) (tx : ByteArray) (t1 : (s.toList == [102, 97, 108, 115, 101]) = false) (t2 : (s.toList == [116, 114, 117, 101]) = false) (t3 : Lib.hasPrefix s.data.toList [34] = true) (hu : ∀ W, Calls Tryz.prog 36 #[.string s] W fun e w' => e = .returned (.string tx) ∧ Below W.heap.size W w') : Calls Tryz.prog 18 #[.string s] w fun e w' => e = .returned (valV 4 0 0 0 0 tx) ∧ Below w.heap.size w w' := by
  have sf : ∀ (p : Addr) (b : Nat) (mo : Mode) (w' : World), (store p (.float .f64 b) mo).run Tryz.prog w' = stored Tryz.prog w' p (.float .f64 b) mo := fun p b mo w' => run_store _ w' p _ mo rfl
  have sc : ∀ (p : Addr) (b c : Nat) (mo : Mode) (w' : World), (store p (.complex .f64 b c) mo).run Tryz.prog w' = stored Tryz.prog w' p (.complex .f64 b c) mo := fun p b c mo w' => run_store _ w' p _ mo rfl
  obtain ⟨W0, hW0⟩ : ∃ W0, W0 = w.alloc (.cells #[.int .i64 0, .int .i64 0, .float .f64 0, .complex .f64 0 0, .string ⟨#[]⟩] 25) := ⟨_, rfl⟩
  have hB0 : Below w.heap.size w W0 := by rw [hW0]; exact (Below.refl w.heap.size w).alloc (Nat.le_refl _) _
  have hb0 : Box5 W0 w.heap.size (.int .i64 0) (.int .i64 0) (.float .f64 0) (.complex .f64 0 0) (.string ⟨#[]⟩) := by rw [hW0]; exact heap_alloc_new _ _
  have HW0 := Lib.hid hW0
  have HB0 := Lib.hid hB0
  have HX0 := Lib.hid hb0
  have HG0 := Lib.hid (hG.below hB0 (Nat.le_refl _))
  have hz : w.heap.size < W0.heap.size := hb0.lt
  clear hW0 hB0 hb0 hG
  have HQ1 : Hid (∀ W, Calls Tryz.prog 35 #[.string s, .string ⟨#[34]⟩] W fun e w' => e = .returned (.bool true) ∧ w' = W) := Lib.hid fun W => by have := Tryz.strings_HasPrefix s ⟨#[34]⟩ W; rw [show (⟨#[34]⟩ : ByteArray).data.toList = [34] from rfl, t3] at this; exact this
  have HU := Lib.hid hu
  clear hu t3
  go_enter Tryz.func18, Tryz.ntmps18
  go_upto_region 1 with (fail)
  rw [← HW0.out]
  go_wp2_with (first | (go_at_call 35; with_reducible refine (HQ1.out _).mono ?_; rintro e w' ⟨rfl, rfl⟩) | (go_at_call 36; refine (HU.out _).mono ?_; rintro e w1 ⟨rfl, hb1⟩; have HB := Lib.hid (HB0.out.trans (hb1.mono HB0.out.size)); have HX := Lib.hid (HX0.out.keep hb1 hz); have f0 := HX.out.fz 0; have f1 := HX.out.fz 1; have f2 := HX.out.fz 2; have f3 := HX.out.fz 3; have f4 := HX.out.fz 4; have c0 := HX.out.c0; have c1 := HX.out.c1; have c2 := HX.out.c2; have c3 := HX.out.c3; have c4 := HX.out.c4; have hlt := HX.out.lt; clear hb1))
  have Z := HX.out.put (.int .i64 4) (.int .i64 0) (.float .f64 0) (.complex .f64 0 0) (.string tx)
  unfold put5 at Z
  have z0 := Z.c0
  have z1 := Z.c1
  have z2 := Z.c2
  have z3 := Z.c3
  have z4 := Z.c4
  exact bodyPost_ret (v := valV 4 0 0 0 0 tx) (by simp [results, Tryz.results18, go_sem, z0, z1, z2, z3, z4, valV]) rfl ⟨rfl, below_put5 HB.out (Nat.le_refl _) _ _ _ _ _⟩
set_option maxHeartbeats 2000000 in
theorem vread_comp (s : ByteArray) (w : World) (hG : Glob w) (re im : Nat) (t1 : (s.toList == [102, 97, 108, 115, 101]) = false) (t2 : (s.toList == [116, 114, 117, 101]) = false) (t3 : Lib.hasPrefix s.data.toList [34] = false) (t4 : Lib.hasPrefix s.data.toList [40] = true) (hu : ∀ W, Calls Tryz.prog 37 #[.string s] W fun e w' => (∃ r1 r2, Like r1 re ∧ Like r2 im ∧ r1 < 18446744073709551616 ∧ r2 < 18446744073709551616 ∧ e = .returned (valV 3 0 0 r1 r2 ⟨#[]⟩)) ∧ Below W.heap.size W w') : Calls Tryz.prog 18 #[.string s] w fun e w' => (∃ r1 r2, Like r1 re ∧ Like r2 im ∧ r1 < 18446744073709551616 ∧ r2 < 18446744073709551616 ∧ e = .returned (valV 3 0 0 r1 r2 ⟨#[]⟩)) ∧ Below w.heap.size w w' := by
  have sf : ∀ (p : Addr) (b : Nat) (mo : Mode) (w' : World), (store p (.float .f64 b) mo).run Tryz.prog w' = stored Tryz.prog w' p (.float .f64 b) mo := fun p b mo w' => run_store _ w' p _ mo rfl
  have sc : ∀ (p : Addr) (b c : Nat) (mo : Mode) (w' : World), (store p (.complex .f64 b c) mo).run Tryz.prog w' = stored Tryz.prog w' p (.complex .f64 b c) mo := fun p b c mo w' => run_store _ w' p _ mo rfl
  obtain ⟨W0, hW0⟩ : ∃ W0, W0 = w.alloc (.cells #[.int .i64 0, .int .i64 0, .float .f64 0, .complex .f64 0 0, .string ⟨#[]⟩] 25) := ⟨_, rfl⟩
  have hB0 : Below w.heap.size w W0 := by rw [hW0]; exact (Below.refl w.heap.size w).alloc (Nat.le_refl _) _
  have hb0 : Box5 W0 w.heap.size (.int .i64 0) (.int .i64 0) (.float .f64 0) (.complex .f64 0 0) (.string ⟨#[]⟩) := by rw [hW0]; exact heap_alloc_new _ _
  have HW0 := Lib.hid hW0
  have HB0 := Lib.hid hB0
  have HX0 := Lib.hid hb0
  have HG0 := Lib.hid (hG.below hB0 (Nat.le_refl _))
  have hz : w.heap.size < W0.heap.size := hb0.lt
  clear hW0 hB0 hb0 hG
  have HQ1 : Hid (∀ W, Calls Tryz.prog 35 #[.string s, .string ⟨#[34]⟩] W fun e w' => e = .returned (.bool false) ∧ w' = W) := Lib.hid fun W => by have := Tryz.strings_HasPrefix s ⟨#[34]⟩ W; rw [show (⟨#[34]⟩ : ByteArray).data.toList = [34] from rfl, t3] at this; exact this
  have HQ2 : Hid (∀ W, Calls Tryz.prog 35 #[.string s, .string ⟨#[40]⟩] W fun e w' => e = .returned (.bool true) ∧ w' = W) := Lib.hid fun W => by have := Tryz.strings_HasPrefix s ⟨#[40]⟩ W; rw [show (⟨#[40]⟩ : ByteArray).data.toList = [40] from rfl, t4] at this; exact this
  have HU := Lib.hid hu
  clear hu t3 t4
  go_enter Tryz.func18, Tryz.ntmps18
  go_upto_region 1 with (fail)
  rw [← HW0.out]
  go_wp2_with (first | (go_at_call 35; with_reducible refine (HQ1.out _).mono ?_; rintro e w' ⟨rfl, rfl⟩) | (go_at_call 35; with_reducible refine (HQ2.out _).mono ?_; rintro e w' ⟨rfl, rfl⟩) | (go_at_call 37; refine (HU.out _).mono ?_; rintro e w1 ⟨⟨r1, r2, k1, k2, b1, b2, rfl⟩, hb1⟩; have K1 := Lib.hid k1; have K2 := Lib.hid k2; clear k1 k2; have HB := Lib.hid (HB0.out.trans (hb1.mono HB0.out.size)); have HX := Lib.hid (HX0.out.keep hb1 hz); have f0 := HX.out.fz 0; have f1 := HX.out.fz 1; have f2 := HX.out.fz 2; have f3 := HX.out.fz 3; have f4 := HX.out.fz 4; have c0 := HX.out.c0; have c1 := HX.out.c1; have c2 := HX.out.c2; have c3 := HX.out.c3; have c4 := HX.out.c4; have hlt := HX.out.lt; clear hb1; unfold valV))
  have Z := HX.out.put (.int .i64 3) (.int .i64 0) (.float .f64 0) (.complex .f64 r1 r2) (.string ⟨#[]⟩)
  unfold put5 at Z
  have z0 := Z.c0
  have z1 := Z.c1
  have z2 := Z.c2
  have z3 := Z.c3
  have z4 := Z.c4
  exact bodyPost_ret (v := valV 3 0 0 r1 r2 ⟨#[]⟩) (by simp [results, Tryz.results18, go_sem, z0, z1, z2, z3, z4, valV]) rfl ⟨⟨_, _, K1.out, K2.out, b1, b2, rfl⟩, below_put5 HB.out (Nat.le_refl _) _ _ _ _ _⟩
set_option maxHeartbeats 2000000 in
theorem vread_int (s : ByteArray) (w : World) (hG : Glob w) (v : Int) (hm : s.size ≤ 140737488355328) (t1 : (s.toList == [102, 97, 108, 115, 101]) = false) (t2 : (s.toList == [116, 114, 117, 101]) = false) (t3 : Lib.hasPrefix s.data.toList [34] = false) (t4 : Lib.hasPrefix s.data.toList [40] = false) (hp : Lib.parseIntB 64 s.data.toList = .ok v) : Calls Tryz.prog 18 #[.string s] w fun e w' => e = .returned (valV 1 v 0 0 0 ⟨#[]⟩) ∧ Below w.heap.size w w' := by
  have sf : ∀ (p : Addr) (b : Nat) (mo : Mode) (w' : World), (store p (.float .f64 b) mo).run Tryz.prog w' = stored Tryz.prog w' p (.float .f64 b) mo := fun p b mo w' => run_store _ w' p _ mo rfl
  have sc : ∀ (p : Addr) (b c : Nat) (mo : Mode) (w' : World), (store p (.complex .f64 b c) mo).run Tryz.prog w' = stored Tryz.prog w' p (.complex .f64 b c) mo := fun p b c mo w' => run_store _ w' p _ mo rfl
  obtain ⟨W0, hW0⟩ : ∃ W0, W0 = w.alloc (.cells #[.int .i64 0, .int .i64 0, .float .f64 0, .complex .f64 0 0, .string ⟨#[]⟩] 25) := ⟨_, rfl⟩
  have hB0 : Below w.heap.size w W0 := by rw [hW0]; exact (Below.refl w.heap.size w).alloc (Nat.le_refl _) _
  have hb0 : Box5 W0 w.heap.size (.int .i64 0) (.int .i64 0) (.float .f64 0) (.complex .f64 0 0) (.string ⟨#[]⟩) := by rw [hW0]; exact heap_alloc_new _ _
  have HW0 := Lib.hid hW0
  have HB0 := Lib.hid hB0
  have HX0 := Lib.hid hb0
  have HG0 := Lib.hid (hG.below hB0 (Nat.le_refl _))
  have hz : w.heap.size < W0.heap.size := hb0.lt
  clear hW0 hB0 hb0 hG
  have HQ1 : Hid (∀ W, Calls Tryz.prog 35 #[.string s, .string ⟨#[34]⟩] W fun e w' => e = .returned (.bool false) ∧ w' = W) := Lib.hid fun W => by have := Tryz.strings_HasPrefix s ⟨#[34]⟩ W; rw [show (⟨#[34]⟩ : ByteArray).data.toList = [34] from rfl, t3] at this; exact this
  have HQ2 : Hid (∀ W, Calls Tryz.prog 35 #[.string s, .string ⟨#[40]⟩] W fun e w' => e = .returned (.bool false) ∧ w' = W) := Lib.hid fun W => by have := Tryz.strings_HasPrefix s ⟨#[40]⟩ W; rw [show (⟨#[40]⟩ : ByteArray).data.toList = [40] from rfl, t4] at this; exact this
  have HU := Lib.hid (parse_ok s · (by omega) v hp)
  clear hp t3 t4
  go_enter Tryz.func18, Tryz.ntmps18
  go_upto_region 1 with (fail)
  rw [← HW0.out]
  go_wp2_with (first | (go_at_call 35; with_reducible refine (HQ1.out _).mono ?_; rintro e w' ⟨rfl, rfl⟩) | (go_at_call 35; with_reducible refine (HQ2.out _).mono ?_; rintro e w' ⟨rfl, rfl⟩) | (go_at_call 38; refine (HU.out _).mono ?_; rintro e w1 ⟨rfl, hb1⟩; have HB := Lib.hid (HB0.out.trans (hb1.mono HB0.out.size)); have HX := Lib.hid (HX0.out.keep hb1 hz); have f0 := HX.out.fz 0; have f1 := HX.out.fz 1; have f2 := HX.out.fz 2; have f3 := HX.out.fz 3; have f4 := HX.out.fz 4; have c0 := HX.out.c0; have c1 := HX.out.c1; have c2 := HX.out.c2; have c3 := HX.out.c3; have c4 := HX.out.c4; have hlt := HX.out.lt; clear hb1))
  have Z := HX.out.put (.int .i64 1) (.int .i64 v) (.float .f64 0) (.complex .f64 0 0) (.string ⟨#[]⟩)
  unfold put5 at Z
  have z0 := Z.c0
  have z1 := Z.c1
  have z2 := Z.c2
  have z3 := Z.c3
  have z4 := Z.c4
  exact bodyPost_ret (v := valV 1 v 0 0 0 ⟨#[]⟩) (by simp [results, Tryz.results18, go_sem, z0, z1, z2, z3, z4, valV]) rfl ⟨rfl, below_put5 HB.out (Nat.le_refl _) _ _ _ _ _⟩
set_option maxHeartbeats 2000000 in
theorem vread_real (s : ByteArray) (w : World) (hG : Glob w) (b : Nat) (hm : s.size ≤ 140737488355328) (t1 : (s.toList == [102, 97, 108, 115, 101]) = false) (t2 : (s.toList == [116, 114, 117, 101]) = false) (t3 : Lib.hasPrefix s.data.toList [34] = false) (t4 : Lib.hasPrefix s.data.toList [40] = false) (hp : ∀ v, Lib.parseIntB 64 s.data.toList ≠ .ok v) (hr : ∀ W, Calls Tryz.prog 39 #[.string s] W fun e w' => (∃ r, (r = b ∨ (nanB r = true ∧ nanB b = true)) ∧ r < 18446744073709551616 ∧ e = .returned (.tuple #[.float .f64 r, .bool true])) ∧ Below W.heap.size W w') : Calls Tryz.prog 18 #[.string s] w fun e w' => (∃ r, Like r b ∧ r < 18446744073709551616 ∧ e = .returned (valV 2 0 r 0 0 ⟨#[]⟩)) ∧ Below w.heap.size w w' := by
  have sf : ∀ (p : Addr) (b : Nat) (mo : Mode) (w' : World), (store p (.float .f64 b) mo).run Tryz.prog w' = stored Tryz.prog w' p (.float .f64 b) mo := fun p b mo w' => run_store _ w' p _ mo rfl
  have sc : ∀ (p : Addr) (b c : Nat) (mo : Mode) (w' : World), (store p (.complex .f64 b c) mo).run Tryz.prog w' = stored Tryz.prog w' p (.complex .f64 b c) mo := fun p b c mo w' => run_store _ w' p _ mo rfl
  obtain ⟨W0, hW0⟩ : ∃ W0, W0 = w.alloc (.cells #[.int .i64 0, .int .i64 0, .float .f64 0, .complex .f64 0 0, .string ⟨#[]⟩] 25) := ⟨_, rfl⟩
  have hB0 : Below w.heap.size w W0 := by rw [hW0]; exact (Below.refl w.heap.size w).alloc (Nat.le_refl _) _
  have hb0 : Box5 W0 w.heap.size (.int .i64 0) (.int .i64 0) (.float .f64 0) (.complex .f64 0 0) (.string ⟨#[]⟩) := by rw [hW0]; exact heap_alloc_new _ _
  have HW0 := Lib.hid hW0
  have HB0 := Lib.hid hB0
  have HX0 := Lib.hid hb0
  have HG0 := Lib.hid (hG.below hB0 (Nat.le_refl _))
  have hz : w.heap.size < W0.heap.size := hb0.lt
  clear hW0 hB0 hb0 hG
  have HQ1 : Hid (∀ W, Calls Tryz.prog 35 #[.string s, .string ⟨#[34]⟩] W fun e w' => e = .returned (.bool false) ∧ w' = W) := Lib.hid fun W => by have := Tryz.strings_HasPrefix s ⟨#[34]⟩ W; rw [show (⟨#[34]⟩ : ByteArray).data.toList = [34] from rfl, t3] at this; exact this
  have HQ2 : Hid (∀ W, Calls Tryz.prog 35 #[.string s, .string ⟨#[40]⟩] W fun e w' => e = .returned (.bool false) ∧ w' = W) := Lib.hid fun W => by have := Tryz.strings_HasPrefix s ⟨#[40]⟩ W; rw [show (⟨#[40]⟩ : ByteArray).data.toList = [40] from rfl, t4] at this; exact this
  have HU := Lib.hid (parse_bad s W0 (by omega) HG0.out hp)
  have HR := Lib.hid hr
  clear hp hr t3 t4
  go_enter Tryz.func18, Tryz.ntmps18
  go_upto_region 1 with (fail)
  rw [← HW0.out]
  go_upto_region 12 with (first | (go_at_call 35; with_reducible refine (HQ1.out _).mono ?_; rintro e w' ⟨rfl, rfl⟩) | (go_at_call 35; with_reducible refine (HQ2.out _).mono ?_; rintro e w' ⟨rfl, rfl⟩) | (go_at_call 38; refine HU.out.mono ?_; rintro e w1 ⟨v1, N1, rfl, hb1⟩))
  have HB1 := Lib.hid hb1
  clear hb1
  go_wp2_with (go_at_call 39; refine (HR.out _).mono ?_; rintro e w2 ⟨⟨r, k1, hr, rfl⟩, hb2⟩; have K1 := Lib.hid k1; clear k1; have hb1 := HB1.out.trans (hb2.mono HB1.out.size); clear hb2; have HB := Lib.hid (HB0.out.trans (hb1.mono HB0.out.size)); have HX := Lib.hid (HX0.out.keep hb1 hz); have f0 := HX.out.fz 0; have f1 := HX.out.fz 1; have f2 := HX.out.fz 2; have f3 := HX.out.fz 3; have f4 := HX.out.fz 4; have c0 := HX.out.c0; have c1 := HX.out.c1; have c2 := HX.out.c2; have c3 := HX.out.c3; have c4 := HX.out.c4; have hlt := HX.out.lt; clear hb1)
  have Z := HX.out.put (.int .i64 2) (.int .i64 0) (.float .f64 r) (.complex .f64 0 0) (.string ⟨#[]⟩)
  unfold put5 at Z
  have z0 := Z.c0
  have z1 := Z.c1
  have z2 := Z.c2
  have z3 := Z.c3
  have z4 := Z.c4
  exact bodyPost_ret (v := valV 2 0 r 0 0 ⟨#[]⟩) (by simp [results, Tryz.results18, go_sem, z0, z1, z2, z3, z4, valV]) rfl ⟨⟨_, K1.out, hr, rfl⟩, below_put5 HB.out (Nat.le_refl _) _ _ _ _ _⟩
end Go.Proofs.YtofjbakepneilaaGreatDoor
/- What is no numeral is read as no whole number. -/
namespace Go.Proofs.YtofjbakepneilaaGreatDoor
open Go.RowKit

theorem no_uintM (C : Nat) (q : UInt8) (hq : ¬ (48 ≤ q.toNat ∧ q.toNat ≤ 57)) : ∀ (l : List UInt8) (acc : Nat) (t : List UInt8) (v : Nat), Lib.parseUintM C acc (l ++ q :: t) ≠ .ok v
  | [], acc, t, v => by
    show Lib.parseUintM C acc (q :: t) ≠ .ok v
    unfold Lib.parseUintM
    rw [if_neg hq]
    exact fun h => by cases h
  | c :: r, acc, t, v => by
    show Lib.parseUintM C acc (c :: (r ++ q :: t)) ≠ .ok v
    unfold Lib.parseUintM
    split
    · split
      · exact fun h => by cases h
      · split
        · exact fun h => by cases h
        · exact no_uintM C q hq r _ t v
    · exact fun h => by cases h
theorem no_uint (q : UInt8) (hq : ¬ (48 ≤ q.toNat ∧ q.toNat ≤ 57)) (l t : List UInt8) (v : Nat) : Lib.parseUintB 64 (l ++ q :: t) ≠ .ok v := by
  unfold Lib.parseUintB
  split
  · exact fun h => by cases h
  · exact no_uintM _ q hq l 0 t v
theorem no_int_of {c : UInt8} {r : List UInt8} (h1 : ∀ v, Lib.parseUintB 64 r ≠ .ok v) (h2 : ∀ v, Lib.parseUintB 64 (c :: r) ≠ .ok v) (v : Int) : Lib.parseIntB 64 (c :: r) ≠ .ok v := by
  intro h
  unfold Lib.parseIntB at h
  simp only at h
  split at h
  · cases h
  · cases h
  · rename_i u hu
    split at hu
    · exact h1 u hu
    · exact h2 u hu
/-- a byte that is no digit and no sign at the head, in or behind it -/
theorem no_int (q : UInt8) (hq : ¬ (48 ≤ q.toNat ∧ q.toNat ≤ 57)) (c : UInt8) (l t : List UInt8) (v : Int) : Lib.parseIntB 64 (c :: (l ++ q :: t)) ≠ .ok v :=
  no_int_of (fun v => no_uint q hq l t v) (fun v => by rw [← List.cons_append]; exact no_uint q hq (c :: l) t v) v
end Go.Proofs.YtofjbakepneilaaGreatDoor
/- Parse: what it tells is what is written again, or nothing. -/
namespace Go.Proofs.YtofjbakepneilaaGreatDoor
open Go.RowKit Go.Shelf
set_option maxRecDepth 100000

/-- what Parse tells of s -/
def Ps (s : ByteArray) (w : World) (e : Ending) (w' : World) : Prop :=
  (e = .returned (.tuple #[valV 0 0 0 0 0 ⟨#[]⟩, .int .i64 20]) ∨ ∃ kd iv rl re im tx, WfV iv rl re im ∧ mayB kd iv tx = true ∧ (printT kd iv rl re im tx).toList = s.toList ∧ e = .returned (.tuple #[valV kd iv rl re im tx, .int .i64 0])) ∧ Below w.heap.size w w'
set_option maxHeartbeats 8000000 in
theorem parse_any (s : ByteArray) (w : World) (hm : s.size ≤ 140737488355328) (hG : GlobV w) : Calls Tryz.prog 5 #[.string s] w (Ps s w) := by
  have sf : ∀ (p : Addr) (b : Nat) (mo : Mode) (w' : World), (store p (.float .f64 b) mo).run Tryz.prog w' = stored Tryz.prog w' p (.float .f64 b) mo := fun p b mo w' => run_store _ w' p _ mo rfl
  have sc : ∀ (p : Addr) (b c : Nat) (mo : Mode) (w' : World), (store p (.complex .f64 b c) mo).run Tryz.prog w' = stored Tryz.prog w' p (.complex .f64 b c) mo := fun p b c mo w' => run_store _ w' p _ mo rfl
  obtain ⟨W0, hW0⟩ : ∃ W0, W0 = w.alloc (.cells #[.int .i64 0, .int .i64 0, .float .f64 0, .complex .f64 0 0, .string ⟨#[]⟩] 25) := ⟨_, rfl⟩
  have hB0 : Below w.heap.size w W0 := by rw [hW0]; exact (Below.refl w.heap.size w).alloc (Nat.le_refl _) _
  have hb0 : Box5 W0 w.heap.size (.int .i64 0) (.int .i64 0) (.float .f64 0) (.complex .f64 0 0) (.string ⟨#[]⟩) := by rw [hW0]; exact heap_alloc_new _ _
  have HW0 := Lib.hid hW0
  have HB0 := Lib.hid hB0
  have HX0 := Lib.hid hb0
  have HG0 := Lib.hid (hG.below hB0 (Nat.le_refl _))
  have hz : w.heap.size < W0.heap.size := hb0.lt
  have HU := Lib.hid (read_any s W0 hm HG0.out.1)
  clear hW0 hB0 hb0 hG
  go_enter Tryz.func5, Tryz.ntmps5
  go_upto_region 1 with (fail)
  rw [← HW0.out]
  go_upto_region 2 with (go_at_call 18; refine HU.out.mono ?_; rintro e w1 ⟨⟨kd, iv, rl, re, im, tx, hwf, rfl⟩, hb1⟩; unfold valV)
  have hzw : w.heap.size < w1.heap.size := Nat.lt_of_lt_of_le hz hb1.size
  obtain ⟨W2, hW2⟩ : ∃ W2, W2 = w1.alloc (.cells #[.int .i64 kd, .int .i64 iv, .float .f64 rl, .complex .f64 re im, .string tx] 25) := ⟨_, rfl⟩
  have hb2 : Below W0.heap.size W0 W2 := by rw [hW2]; exact hb1.alloc hb1.size _
  have hv2 : Box5 W2 w1.heap.size (.int .i64 kd) (.int .i64 iv) (.float .f64 rl) (.complex .f64 re im) (.string tx) := by rw [hW2]; exact heap_alloc_new _ _
  rw [← hW2]
  have HB2 := Lib.hid (HB0.out.trans (hb2.mono HB0.out.size))
  have HX2 := Lib.hid (HX0.out.keep hb2 hz)
  have HG2 := Lib.hid (HG0.out.below hb2 (Nat.le_refl _))
  have HV2 := Lib.hid hv2
  have hvl := hv2.lt
  have hM := fun W => may_any kd iv rl re im tx W
  unfold valV at hM
  have HWF := Lib.hid hwf
  clear hb1 hW2 hb2 hv2 hwf
  have pf0 := HX2.out.fz 0
  have pf1 := HX2.out.fz 1
  have pf2 := HX2.out.fz 2
  have pf3 := HX2.out.fz 3
  have pf4 := HX2.out.fz 4
  have pc0 := HX2.out.c0
  have pc1 := HX2.out.c1
  have pc2 := HX2.out.c2
  have pc3 := HX2.out.c3
  have pc4 := HX2.out.c4
  have plt := HX2.out.lt
  have qf0 := HV2.out.fz 0
  have qf1 := HV2.out.fz 1
  have qf2 := HV2.out.fz 2
  have qf3 := HV2.out.fz 3
  have qf4 := HV2.out.fz 4
  have qc0 := HV2.out.c0
  have qc1 := HV2.out.c1
  have qc2 := HV2.out.c2
  have qc3 := HV2.out.c3
  have qc4 := HV2.out.c4
  have qlt := HV2.out.lt
  cases hmay : mayB kd iv tx with
  | false =>
    rw [hmay] at hM
    have HM := Lib.hid hM
    clear hM hmay
    go_wp2_with (go_at_call 19; refine (HM.out _).mono ?_; rintro e w3 ⟨rfl, hb3⟩; have HB3 := Lib.hid (HB2.out.trans (hb3.mono HB2.out.size)); have HX3 := Lib.hid (HX2.out.keep hb3 plt); clear hb3; have rf0 := HX3.out.fz 0; have rf1 := HX3.out.fz 1; have rf2 := HX3.out.fz 2; have rf3 := HX3.out.fz 3; have rf4 := HX3.out.fz 4; have rc0 := HX3.out.c0; have rc1 := HX3.out.c1; have rc2 := HX3.out.c2; have rc3 := HX3.out.c3; have rc4 := HX3.out.c4; have rlt := HX3.out.lt)
    have Z := HX3.out.put (.int .i64 0) (.int .i64 0) (.float .f64 0) (.complex .f64 0 0) (.string ⟨#[]⟩)
    unfold put5 at Z
    have z0 := Z.c0
    have z1 := Z.c1
    have z2 := Z.c2
    have z3 := Z.c3
    have z4 := Z.c4
    exact bodyPost_ret (v := (.tuple #[valV 0 0 0 0 0 ⟨#[]⟩, .int .i64 20])) (by simp [results, Tryz.results5, go_sem, z0, z1, z2, z3, z4, valV]) rfl ⟨.inl rfl, below_put5 HB3.out (Nat.le_refl _) _ _ _ _ _⟩
  | true =>
    rw [hmay] at hM
    have HM := Lib.hid hM
    have HY := Lib.hid hmay
    have hP := fun W hW => print_any kd iv rl re im tx W hW HWF.out
    unfold valV at hP
    clear hM hmay
    obtain ⟨p, hp⟩ : ∃ p, p = printT kd iv rl re im tx := ⟨_, rfl⟩
    rw [← hp] at hP
    have HP := Lib.hid hP
    have HPT := Lib.hid hp
    clear hP hp
    cases he : (p.toList == s.toList) with
    | false =>
      have he' : (p.toList != s.toList) = true := by rw [bne, he]; rfl
      go_wp2_with (first
        | (go_at_call 19; refine (HM.out _).mono ?_; rintro e w3 ⟨rfl, hb3⟩; have HB3 := Lib.hid (HB2.out.trans (hb3.mono HB2.out.size)); have HX3 := Lib.hid (HX2.out.keep hb3 plt); have HV3 := Lib.hid (HV2.out.keep hb3 qlt); have HG3 := Lib.hid (HG2.out.below hb3 (Nat.le_refl _)); clear hb3; have rf0 := HX3.out.fz 0; have rf1 := HX3.out.fz 1; have rf2 := HX3.out.fz 2; have rf3 := HX3.out.fz 3; have rf4 := HX3.out.fz 4; have rc0 := HX3.out.c0; have rc1 := HX3.out.c1; have rc2 := HX3.out.c2; have rc3 := HX3.out.c3; have rc4 := HX3.out.c4; have rlt := HX3.out.lt; have sf0 := HV3.out.fz 0; have sf1 := HV3.out.fz 1; have sf2 := HV3.out.fz 2; have sf3 := HV3.out.fz 3; have sf4 := HV3.out.fz 4; have sc0 := HV3.out.c0; have sc1 := HV3.out.c1; have sc2 := HV3.out.c2; have sc3 := HV3.out.c3; have sc4 := HV3.out.c4; have slt := HV3.out.lt)
        | (go_at_call 20; refine (HP.out _ HG3.out).mono ?_; rintro e w4 ⟨rfl, hb4⟩; have HB4 := Lib.hid (HB3.out.trans (hb4.mono HB3.out.size)); have HX4 := Lib.hid (HX3.out.keep hb4 rlt); clear hb4; have tf0 := HX4.out.fz 0; have tf1 := HX4.out.fz 1; have tf2 := HX4.out.fz 2; have tf3 := HX4.out.fz 3; have tf4 := HX4.out.fz 4; have tc0 := HX4.out.c0; have tc1 := HX4.out.c1; have tc2 := HX4.out.c2; have tc3 := HX4.out.c3; have tc4 := HX4.out.c4; have tlt := HX4.out.lt))
      have Z := HX4.out.put (.int .i64 0) (.int .i64 0) (.float .f64 0) (.complex .f64 0 0) (.string ⟨#[]⟩)
      unfold put5 at Z
      have z0 := Z.c0
      have z1 := Z.c1
      have z2 := Z.c2
      have z3 := Z.c3
      have z4 := Z.c4
      exact bodyPost_ret (v := (.tuple #[valV 0 0 0 0 0 ⟨#[]⟩, .int .i64 20])) (by simp [results, Tryz.results5, go_sem, z0, z1, z2, z3, z4, valV]) rfl ⟨.inl rfl, below_put5 HB4.out (Nat.le_refl _) _ _ _ _ _⟩
    | true =>
      have he' : (p.toList != s.toList) = false := by rw [bne, he]; rfl
      have HE := Lib.hid (eq_of_beq he)
      go_wp2_with (first
        | (go_at_call 19; refine (HM.out _).mono ?_; rintro e w3 ⟨rfl, hb3⟩; have HB3 := Lib.hid (HB2.out.trans (hb3.mono HB2.out.size)); have HX3 := Lib.hid (HX2.out.keep hb3 plt); have HV3 := Lib.hid (HV2.out.keep hb3 qlt); have HG3 := Lib.hid (HG2.out.below hb3 (Nat.le_refl _)); clear hb3; have rf0 := HX3.out.fz 0; have rf1 := HX3.out.fz 1; have rf2 := HX3.out.fz 2; have rf3 := HX3.out.fz 3; have rf4 := HX3.out.fz 4; have rc0 := HX3.out.c0; have rc1 := HX3.out.c1; have rc2 := HX3.out.c2; have rc3 := HX3.out.c3; have rc4 := HX3.out.c4; have rlt := HX3.out.lt; have sf0 := HV3.out.fz 0; have sf1 := HV3.out.fz 1; have sf2 := HV3.out.fz 2; have sf3 := HV3.out.fz 3; have sf4 := HV3.out.fz 4; have sc0 := HV3.out.c0; have sc1 := HV3.out.c1; have sc2 := HV3.out.c2; have sc3 := HV3.out.c3; have sc4 := HV3.out.c4; have slt := HV3.out.lt)
        | (go_at_call 20; refine (HP.out _ HG3.out).mono ?_; rintro e w4 ⟨rfl, hb4⟩; have HB4 := Lib.hid (HB3.out.trans (hb4.mono HB3.out.size)); have HX4 := Lib.hid (HX3.out.keep hb4 rlt); have HV4 := Lib.hid (HV3.out.keep hb4 slt); clear hb4; have tf0 := HX4.out.fz 0; have tf1 := HX4.out.fz 1; have tf2 := HX4.out.fz 2; have tf3 := HX4.out.fz 3; have tf4 := HX4.out.fz 4; have tc0 := HX4.out.c0; have tc1 := HX4.out.c1; have tc2 := HX4.out.c2; have tc3 := HX4.out.c3; have tc4 := HX4.out.c4; have tlt := HX4.out.lt; have vf0 := HV4.out.fz 0; have vf1 := HV4.out.fz 1; have vf2 := HV4.out.fz 2; have vf3 := HV4.out.fz 3; have vf4 := HV4.out.fz 4; have vc0 := HV4.out.c0; have vc1 := HV4.out.c1; have vc2 := HV4.out.c2; have vc3 := HV4.out.c3; have vc4 := HV4.out.c4; have vlt := HV4.out.lt))
      have Z := HX4.out.put (.int .i64 kd) (.int .i64 iv) (.float .f64 rl) (.complex .f64 re im) (.string tx)
      unfold put5 at Z
      have z0 := Z.c0
      have z1 := Z.c1
      have z2 := Z.c2
      have z3 := Z.c3
      have z4 := Z.c4
      exact bodyPost_ret (v := (.tuple #[valV kd iv rl re im tx, .int .i64 0])) (by simp [results, Tryz.results5, go_sem, z0, z1, z2, z3, z4, valV]) rfl ⟨.inr ⟨_, _, _, _, _, _, HWF.out, HY.out, by rw [← HPT.out]; exact HE.out, rfl⟩, below_put5 HB4.out (Nat.le_refl _) _ _ _ _ _⟩
end Go.Proofs.YtofjbakepneilaaGreatDoor
/- read at printT v tells v. -/
namespace Go.Proofs.YtofjbakepneilaaGreatDoor
open Go.RowKit Go.Shelf
set_option maxRecDepth 100000

theorem pre_no {l : List UInt8} {c d : UInt8} (h : c ≠ d) : Lib.hasPrefix (c :: l) [d] = false := by
  have : (d == c) = false := beq_eq_false_iff_ne.2 (fun e => h e.symm)
  simp [Lib.hasPrefix, List.isPrefixOf, this]
theorem pre_yes (l : List UInt8) (c : UInt8) : Lib.hasPrefix (c :: l) [c] = true := by simp [Lib.hasPrefix]
theorem magL_head (b : Nat) (h : b ≤ 9218868437227405312) : ∃ c l, magL b = c :: l ∧ (c = 105 ∨ (48 ≤ c.toNat ∧ c.toNat ≤ 57)) ∧ ∀ v, Lib.parseIntB 64 (magL b) ≠ .ok v := by
  unfold magL
  by_cases h1 : b = 9218868437227405312
  · rw [if_pos h1]
    exact ⟨105, [110, 102], rfl, .inl rfl, no_int 110 (by decide) 105 [] [102]⟩
  · rw [if_neg h1]
    by_cases h2 : b = 0
    · rw [if_pos h2]
      exact ⟨48, [112, 48], rfl, .inr ⟨by decide, by decide⟩, no_int 112 (by decide) 48 [] [48]⟩
    · rw [if_neg h2]
      obtain ⟨m, hm, m0, _, _, _, _⟩ := word_back b (by omega) (by omega)
      obtain ⟨c, r, hcr, c1, c2⟩ := head_dd m m0
      rw [← hm, hcr]
      exact ⟨c, r ++ 112 :: Lib.itoa (oddE b), rfl, .inr ⟨by omega, c2⟩, no_int 112 (by decide) c r _⟩
theorem realL_head {b : Nat} (hb : b < 18446744073709551616) : ∃ c l, (realT b).data.toList = c :: l ∧ (c = 110 ∨ c = 45 ∨ c = 105 ∨ (48 ≤ c.toNat ∧ c.toNat ≤ 57)) ∧ ∀ v, Lib.parseIntB 64 (realT b).data.toList ≠ .ok v := by
  rw [realT_list hb]
  simp only
  cases hn : nanB b with
  | true => exact ⟨110, [97, 110], rfl, .inl rfl, no_int 97 (by decide) 110 [] [110]⟩
  | false =>
    have hr : b % 9223372036854775808 ≤ 9218868437227405312 := by
      have h := hn
      unfold nanB rungB at h
      have := of_decide_eq_false h
      omega
    rw [if_neg (by decide)]
    by_cases h2 : 9223372036854775808 ≤ b
    · rw [if_pos h2]
      refine ⟨45, magL (b - 9223372036854775808), rfl, .inr (.inl rfl), ?_⟩
      unfold magL
      by_cases h3 : b - 9223372036854775808 = 9218868437227405312
      · rw [if_pos h3]
        exact no_int 105 (by decide) 45 [] [110, 102]
      · rw [if_neg h3]
        by_cases h4 : b - 9223372036854775808 = 0
        · rw [if_pos h4]
          exact no_int 112 (by decide) 45 [48] [48]
        · rw [if_neg h4]
          exact no_int 112 (by decide) 45 _ _
    · rw [if_neg h2]
      obtain ⟨c, l, e, hc, hp⟩ := magL_head b (by omega)
      exact ⟨c, l, e, hc.elim (fun h => .inr (.inr (.inl h))) (fun h => .inr (.inr (.inr h))), hp⟩
theorem real_read (b : Nat) (hb : b < 18446744073709551616) (w : World) (hG : Glob w) : Calls Tryz.prog 18 #[.string (realT b)] w fun e w' => (∃ r, Like r b ∧ r < 18446744073709551616 ∧ e = .returned (valV 2 0 r 0 0 ⟨#[]⟩)) ∧ Below w.heap.size w w' := by
  obtain ⟨c, l, e, hc, hp⟩ := realL_head hb
  have hl := realT_len hb
  have e2 : (realT b).toList = c :: l := by rw [ba_eq e, tl_mk]
  have nn : ∀ q : UInt8, q ≠ 110 → q ≠ 45 → q ≠ 105 → (q.toNat < 48 ∨ 57 < q.toNat) → c ≠ q := by
    rintro q q1 q2 q3 q4 rfl
    rcases hc with h | h | h | h
    · exact q1 h
    · exact q2 h
    · exact q3 h
    · omega
  exact vread_real (realT b) w hG b (by omega) (by rw [e2]; exact ne_list (nn 102 (by decide) (by decide) (by decide) (by decide))) (by rw [e2]; exact ne_list (nn 116 (by decide) (by decide) (by decide) (by decide))) (by rw [e]; exact pre_no (nn 34 (by decide) (by decide) (by decide) (by decide))) (by rw [e]; exact pre_no (nn 40 (by decide) (by decide) (by decide) (by decide))) hp (readReal_back b hb)
theorem comp_read (re im : Nat) (h1 : re < 18446744073709551616) (h2 : im < 18446744073709551616) (w : World) (hG : Glob w) : Calls Tryz.prog 18 #[.string (compT re im)] w fun e w' => (∃ r1 r2, Like r1 re ∧ Like r2 im ∧ r1 < 18446744073709551616 ∧ r2 < 18446744073709551616 ∧ e = .returned (valV 3 0 0 r1 r2 ⟨#[]⟩)) ∧ Below w.heap.size w w' := by
  have e := comp_list re im
  have e2 : (compT re im).toList = 40 :: ((realT re).data.toList ++ 44 :: ((realT im).data.toList ++ [41])) := by rw [ba_eq e, tl_mk]
  exact vread_comp (compT re im) w hG re im (by rw [e2]; exact ne_list (by decide)) (by rw [e2]; exact ne_list (by decide)) (by rw [e]; exact pre_no (by decide)) (by rw [e]; exact pre_yes _ _) (readComp_back re im h1 h2)
theorem text_read (tx : ByteArray) (h : tx.size ≤ 256) (w : World) (hG : Glob w) : Calls Tryz.prog 18 #[.string ⟨(quoted tx.data.toList).toArray⟩] w fun e w' => e = .returned (valV 4 0 0 0 0 tx) ∧ Below w.heap.size w w' := by
  have e : (⟨(quoted tx.data.toList).toArray⟩ : ByteArray).data.toList = 34 :: (tx.data.toList.flatMap qPart ++ [34]) := by simp [quoted, qHead]
  have e2 : (⟨(quoted tx.data.toList).toArray⟩ : ByteArray).toList = 34 :: (tx.data.toList.flatMap qPart ++ [34]) := by rw [ba_eq e, tl_mk]
  have hlen : ∀ l : List UInt8, l.length ≤ (l.flatMap qPart).length ∧ (l.flatMap qPart).length ≤ 4 * l.length := by
    intro l
    induction l with
    | nil => simp
    | cons c l ih =>
      have hp : 1 ≤ (qPart c).length ∧ (qPart c).length ≤ 4 := by unfold qPart; split <;> (try split) <;> simp
      rw [List.flatMap_cons, List.length_append, List.length_cons]
      omega
  have hl := hlen tx.data.toList
  have hts : tx.data.toList.length = tx.size := rfl
  have hs : (⟨(quoted tx.data.toList).toArray⟩ : ByteArray).size = (34 :: (tx.data.toList.flatMap qPart ++ [34])).length := by rw [← e]; rfl
  simp only [List.length_cons, List.length_append, List.length_nil] at hs
  refine vread_text _ w hG tx (by rw [e2]; exact ne_list (by decide)) (by rw [e2]; exact ne_list (by decide)) (by rw [e]; exact pre_yes _ _) fun W => ?_
  refine (wunquote_any _ W (by omega) (by omega)).mono ?_
  rintro q w' ⟨rfl, hb⟩
  refine ⟨?_, hb⟩
  rw [e]
  show Ending.returned (.string ⟨(vunqF _ (tx.data.toList.flatMap qPart ++ [34])).toArray⟩) = _
  rw [vunq_quoted _ _ (by omega)]
theorem int_read (v : Int) (h0 : -9223372036854775808 ≤ v) (h1 : v ≤ 9223372036854775807) (w : World) (hG : Glob w) : Calls Tryz.prog 18 #[.string ⟨(Lib.itoa v).toArray⟩] w fun e w' => e = .returned (valV 1 v 0 0 0 ⟨#[]⟩) ∧ Below w.heap.size w w' := by
  obtain ⟨c, l, e, hc⟩ : ∃ c l, Lib.itoa v = c :: l ∧ (c = 45 ∨ (48 ≤ c.toNat ∧ c.toNat ≤ 57)) := by
    unfold Lib.itoa
    split
    · exact ⟨45, _, rfl, .inl rfl⟩
    · cases hx : Lib.decDigits v.toNat with
      | nil => exact absurd hx (dd_ne _)
      | cons c r => exact ⟨c, r, rfl, .inr (dd_digit v.toNat c (by rw [hx]; simp))⟩
  have hl := itoa_len v h0 h1
  have e2 : (⟨(Lib.itoa v).toArray⟩ : ByteArray).toList = c :: l := by rw [tl_mk, e]
  have nn : ∀ q : UInt8, q ≠ 45 → (q.toNat < 48 ∨ 57 < q.toNat) → c ≠ q := by
    rintro q q2 q4 rfl
    rcases hc with h | h
    · exact q2 h
    · omega
  have e3 : (⟨(Lib.itoa v).toArray⟩ : ByteArray).data.toList = c :: l := e
  exact vread_int _ w hG v (by rw [sz_mk]; omega) (by rw [e2]; exact ne_list (nn 102 (by decide) (by decide))) (by rw [e2]; exact ne_list (nn 116 (by decide) (by decide))) (by rw [e3]; exact pre_no (nn 34 (by decide) (by decide))) (by rw [e3]; exact pre_no (nn 40 (by decide) (by decide))) (parse_itoa v h0 h1)
end Go.Proofs.YtofjbakepneilaaGreatDoor
