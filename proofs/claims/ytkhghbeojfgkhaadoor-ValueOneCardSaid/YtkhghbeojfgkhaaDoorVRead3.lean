/- read: some value. -/
import Derived.Test.YtkhghbeojfgkhaaDoorVRead2
namespace Go.Proofs.YtkhghbeojfgkhaaDoor
open Go.RowKit Go.Shelf
set_option maxRecDepth 100000

theorem pre_len {l : List UInt8} {c : UInt8} (h : Lib.hasPrefix l [c] = true) : 1 ≤ l.length := by
  cases l with
  | nil => simp [Lib.hasPrefix] at h
  | cons a t => simp
set_option maxHeartbeats 8000000 in
theorem read_any (s : ByteArray) (w : World) (hm : s.size ≤ 140737488355328) (hG : Glob w) : Calls Tryd.prog 27 #[.string s] w (Vl w) := by
  have sf : ∀ (p : Addr) (b : Nat) (mo : Mode) (w' : World), (store p (.float .f64 b) mo).run Tryd.prog w' = stored Tryd.prog w' p (.float .f64 b) mo := fun p b mo w' => run_store _ w' p _ mo rfl
  have sc : ∀ (p : Addr) (b c : Nat) (mo : Mode) (w' : World), (store p (.complex .f64 b c) mo).run Tryd.prog w' = stored Tryd.prog w' p (.complex .f64 b c) mo := fun p b c mo w' => run_store _ w' p _ mo rfl
  obtain ⟨W0, hW0⟩ : ∃ W0, W0 = w.alloc (.cells #[.int .i64 0, .int .i64 0, .float .f64 0, .complex .f64 0 0, .string ⟨#[]⟩] 47) := ⟨_, rfl⟩
  have hB0 : Below w.heap.size w W0 := by rw [hW0]; exact (Below.refl w.heap.size w).alloc (Nat.le_refl _) _
  have hb0 : Box5 W0 w.heap.size (.int .i64 0) (.int .i64 0) (.float .f64 0) (.complex .f64 0 0) (.string ⟨#[]⟩) := by rw [hW0]; exact heap_alloc_new _ _
  have HW0 := Lib.hid hW0
  have HB0 := Lib.hid hB0
  have HX0 := Lib.hid hb0
  have HG0 := Lib.hid (hG.below hB0 (Nat.le_refl _))
  have hz : w.heap.size < W0.heap.size := hb0.lt
  have hsz : s.data.toList.length = s.size := rfl
  clear hW0 hB0 hb0 hG
  cases t1 : (s.toList == [102, 97, 108, 115, 101]) with
  | true =>
    have HX := HX0
    have f0 := HX.out.fz 0
    have f1 := HX.out.fz 1
    have f2 := HX.out.fz 2
    have f3 := HX.out.fz 3
    have f4 := HX.out.fz 4
    have c0 := HX.out.c0
    have c1 := HX.out.c1
    have c2 := HX.out.c2
    have c3 := HX.out.c3
    have c4 := HX.out.c4
    have hlt := HX.out.lt
    go_enter Tryd.func27, Tryd.ntmps27
    go_upto_region 1 with (fail)
    rw [← HW0.out]
    go_wp2_with fail
    have Z := HX.out.put (.int .i64 5) (.int .i64 0) (.float .f64 0) (.complex .f64 0 0) (.string ⟨#[]⟩)
    unfold put5 at Z
    have z0 := Z.c0
    have z1 := Z.c1
    have z2 := Z.c2
    have z3 := Z.c3
    have z4 := Z.c4
    exact bodyPost_ret (v := valV 5 0 0 0 0 ⟨#[]⟩) (by simp [results, Tryd.results27, go_sem, z0, z1, z2, z3, z4, valV]) rfl ⟨⟨_, _, _, _, _, _, wf0, rfl⟩, below_put5 HB0.out (Nat.le_refl _) _ _ _ _ _⟩
  | false =>
  cases t2 : (s.toList == [116, 114, 117, 101]) with
  | true =>
    have HX := HX0
    have f0 := HX.out.fz 0
    have f1 := HX.out.fz 1
    have f2 := HX.out.fz 2
    have f3 := HX.out.fz 3
    have f4 := HX.out.fz 4
    have c0 := HX.out.c0
    have c1 := HX.out.c1
    have c2 := HX.out.c2
    have c3 := HX.out.c3
    have c4 := HX.out.c4
    have hlt := HX.out.lt
    go_enter Tryd.func27, Tryd.ntmps27
    go_upto_region 1 with (fail)
    rw [← HW0.out]
    go_wp2_with fail
    have Z := HX.out.put (.int .i64 5) (.int .i64 1) (.float .f64 0) (.complex .f64 0 0) (.string ⟨#[]⟩)
    unfold put5 at Z
    have z0 := Z.c0
    have z1 := Z.c1
    have z2 := Z.c2
    have z3 := Z.c3
    have z4 := Z.c4
    exact bodyPost_ret (v := valV 5 1 0 0 0 ⟨#[]⟩) (by simp [results, Tryd.results27, go_sem, z0, z1, z2, z3, z4, valV]) rfl ⟨⟨_, _, _, _, _, _, ⟨⟨by decide, by decide⟩, by decide, by decide, by decide⟩, rfl⟩, below_put5 HB0.out (Nat.le_refl _) _ _ _ _ _⟩
  | false =>
  cases t3 : Lib.hasPrefix s.data.toList [34] with
  | true =>
    have hs1 : 1 ≤ s.size := by have := pre_len t3; omega
    have HU := Lib.hid (vunquote_any s W0 hs1 hm)
    have HQ1 : Hid (∀ W, Calls Tryd.prog 46 #[.string s, .string ⟨#[34]⟩] W fun e w' => e = .returned (.bool true) ∧ w' = W) := Lib.hid fun W => by have := Tryd.strings_HasPrefix s ⟨#[34]⟩ W; rw [show (⟨#[34]⟩ : ByteArray).data.toList = [34] from rfl, t3] at this; exact this
    clear t3
    go_enter Tryd.func27, Tryd.ntmps27
    go_upto_region 1 with (fail)
    rw [← HW0.out]
    go_wp2_with (first | (go_at_call 46; with_reducible refine (HQ1.out _).mono ?_; rintro e w' ⟨rfl, rfl⟩) | (go_at_call 47; refine HU.out.mono ?_; rintro e w1 ⟨⟨tx, rfl⟩, hb1⟩; have HB := Lib.hid (HB0.out.trans (hb1.mono HB0.out.size)); have HX := Lib.hid (HX0.out.keep hb1 hz); have f0 := HX.out.fz 0; have f1 := HX.out.fz 1; have f2 := HX.out.fz 2; have f3 := HX.out.fz 3; have f4 := HX.out.fz 4; have c0 := HX.out.c0; have c1 := HX.out.c1; have c2 := HX.out.c2; have c3 := HX.out.c3; have c4 := HX.out.c4; have hlt := HX.out.lt; clear hb1))
    have Z := HX.out.put (.int .i64 4) (.int .i64 0) (.float .f64 0) (.complex .f64 0 0) (.string tx)
    unfold put5 at Z
    have z0 := Z.c0
    have z1 := Z.c1
    have z2 := Z.c2
    have z3 := Z.c3
    have z4 := Z.c4
    exact bodyPost_ret (v := valV 4 0 0 0 0 tx) (by simp [results, Tryd.results27, go_sem, z0, z1, z2, z3, z4, valV]) rfl ⟨⟨_, _, _, _, _, _, wf0, rfl⟩, below_put5 HB.out (Nat.le_refl _) _ _ _ _ _⟩
  | false =>
  have HQ1 : Hid (∀ W, Calls Tryd.prog 46 #[.string s, .string ⟨#[34]⟩] W fun e w' => e = .returned (.bool false) ∧ w' = W) := Lib.hid fun W => by have := Tryd.strings_HasPrefix s ⟨#[34]⟩ W; rw [show (⟨#[34]⟩ : ByteArray).data.toList = [34] from rfl, t3] at this; exact this
  cases t4 : Lib.hasPrefix s.data.toList [40] with
  | true =>
    have hs1 : 1 ≤ s.size := by have := pre_len t4; omega
    have HU := Lib.hid (readComp_any s W0 hs1 hm HG0.out)
    have HQ2 : Hid (∀ W, Calls Tryd.prog 46 #[.string s, .string ⟨#[40]⟩] W fun e w' => e = .returned (.bool true) ∧ w' = W) := Lib.hid fun W => by have := Tryd.strings_HasPrefix s ⟨#[40]⟩ W; rw [show (⟨#[40]⟩ : ByteArray).data.toList = [40] from rfl, t4] at this; exact this
    clear t3 t4
    go_enter Tryd.func27, Tryd.ntmps27
    go_upto_region 1 with (fail)
    rw [← HW0.out]
    go_wp2_with (first | (go_at_call 46; with_reducible refine (HQ1.out _).mono ?_; rintro e w' ⟨rfl, rfl⟩) | (go_at_call 46; with_reducible refine (HQ2.out _).mono ?_; rintro e w' ⟨rfl, rfl⟩) | (go_at_call 48; refine HU.out.mono ?_; rintro e w1 ⟨⟨kd, iv, rl, re, im, tx, hwf, rfl⟩, hb1⟩; have HB := Lib.hid (HB0.out.trans (hb1.mono HB0.out.size)); have HX := Lib.hid (HX0.out.keep hb1 hz); have f0 := HX.out.fz 0; have f1 := HX.out.fz 1; have f2 := HX.out.fz 2; have f3 := HX.out.fz 3; have f4 := HX.out.fz 4; have c0 := HX.out.c0; have c1 := HX.out.c1; have c2 := HX.out.c2; have c3 := HX.out.c3; have c4 := HX.out.c4; have hlt := HX.out.lt; clear hb1; unfold valV))
    have Z := HX.out.put (.int .i64 kd) (.int .i64 iv) (.float .f64 rl) (.complex .f64 re im) (.string tx)
    unfold put5 at Z
    have z0 := Z.c0
    have z1 := Z.c1
    have z2 := Z.c2
    have z3 := Z.c3
    have z4 := Z.c4
    exact bodyPost_ret (v := valV kd iv rl re im tx) (by simp [results, Tryd.results27, go_sem, z0, z1, z2, z3, z4, valV]) rfl ⟨⟨_, _, _, _, _, _, hwf, rfl⟩, below_put5 HB.out (Nat.le_refl _) _ _ _ _ _⟩
  | false =>
  have HQ2 : Hid (∀ W, Calls Tryd.prog 46 #[.string s, .string ⟨#[40]⟩] W fun e w' => e = .returned (.bool false) ∧ w' = W) := Lib.hid fun W => by have := Tryd.strings_HasPrefix s ⟨#[40]⟩ W; rw [show (⟨#[40]⟩ : ByteArray).data.toList = [40] from rfl, t4] at this; exact this
  clear t3 t4
  by_cases hp : ∃ v, Lib.parseIntB 64 s.data.toList = .ok v
  · obtain ⟨v, hv⟩ := hp
    have hvr := parse_range hv
    have HU := Lib.hid (parse_ok s W0 (by omega) v hv)
    clear hv
    go_enter Tryd.func27, Tryd.ntmps27
    go_upto_region 1 with (fail)
    rw [← HW0.out]
    go_wp2_with (first | (go_at_call 46; with_reducible refine (HQ1.out _).mono ?_; rintro e w' ⟨rfl, rfl⟩) | (go_at_call 46; with_reducible refine (HQ2.out _).mono ?_; rintro e w' ⟨rfl, rfl⟩) | (go_at_call 49; refine HU.out.mono ?_; rintro e w1 ⟨rfl, hb1⟩; have HB := Lib.hid (HB0.out.trans (hb1.mono HB0.out.size)); have HX := Lib.hid (HX0.out.keep hb1 hz); have f0 := HX.out.fz 0; have f1 := HX.out.fz 1; have f2 := HX.out.fz 2; have f3 := HX.out.fz 3; have f4 := HX.out.fz 4; have c0 := HX.out.c0; have c1 := HX.out.c1; have c2 := HX.out.c2; have c3 := HX.out.c3; have c4 := HX.out.c4; have hlt := HX.out.lt; clear hb1))
    have Z := HX.out.put (.int .i64 1) (.int .i64 v) (.float .f64 0) (.complex .f64 0 0) (.string ⟨#[]⟩)
    unfold put5 at Z
    have z0 := Z.c0
    have z1 := Z.c1
    have z2 := Z.c2
    have z3 := Z.c3
    have z4 := Z.c4
    exact bodyPost_ret (v := valV 1 v 0 0 0 ⟨#[]⟩) (by simp [results, Tryd.results27, go_sem, z0, z1, z2, z3, z4, valV]) rfl ⟨⟨_, _, _, _, _, _, ⟨hvr, by decide, by decide, by decide⟩, rfl⟩, below_put5 HB.out (Nat.le_refl _) _ _ _ _ _⟩
  · have hp' : ∀ v, Lib.parseIntB 64 s.data.toList ≠ .ok v := fun v hv => hp ⟨v, hv⟩
    have HU := Lib.hid (parse_bad s W0 (by omega) HG0.out hp')
    clear hp hp'
    go_enter Tryd.func27, Tryd.ntmps27
    go_upto_region 1 with (fail)
    rw [← HW0.out]
    go_upto_region 12 with (first | (go_at_call 46; with_reducible refine (HQ1.out _).mono ?_; rintro e w' ⟨rfl, rfl⟩) | (go_at_call 46; with_reducible refine (HQ2.out _).mono ?_; rintro e w' ⟨rfl, rfl⟩) | (go_at_call 49; refine HU.out.mono ?_; rintro e w1 ⟨v1, N1, rfl, hb1⟩))
    have HG1 := Lib.hid (HG0.out.below hb1 (Nat.le_refl _))
    have HB1 := Lib.hid hb1
    clear hb1
    go_upto_region 13 with (go_at_call 50; refine (readReal_any s _ hm HG1.out).mono ?_; rintro e w2 ⟨⟨r, ok, hr, rfl⟩, hb2⟩; have hb1 := HB1.out.trans (hb2.mono HB1.out.size); clear hb2; have HB := Lib.hid (HB0.out.trans (hb1.mono HB0.out.size)); have HX := Lib.hid (HX0.out.keep hb1 hz); have f0 := HX.out.fz 0; have f1 := HX.out.fz 1; have f2 := HX.out.fz 2; have f3 := HX.out.fz 3; have f4 := HX.out.fz 4; have c0 := HX.out.c0; have c1 := HX.out.c1; have c2 := HX.out.c2; have c3 := HX.out.c3; have c4 := HX.out.c4; have hlt := HX.out.lt; clear hb1)
    cases ok
    · go_wp2_with fail
      have Z := HX.out.put (.int .i64 0) (.int .i64 0) (.float .f64 0) (.complex .f64 0 0) (.string ⟨#[]⟩)
      unfold put5 at Z
      have z0 := Z.c0
      have z1 := Z.c1
      have z2 := Z.c2
      have z3 := Z.c3
      have z4 := Z.c4
      exact bodyPost_ret (v := valV 0 0 0 0 0 ⟨#[]⟩) (by simp [results, Tryd.results27, go_sem, z0, z1, z2, z3, z4, valV]) rfl ⟨⟨_, _, _, _, _, _, wf0, rfl⟩, below_put5 HB.out (Nat.le_refl _) _ _ _ _ _⟩
    · go_wp2_with fail
      have Z := HX.out.put (.int .i64 2) (.int .i64 0) (.float .f64 r) (.complex .f64 0 0) (.string ⟨#[]⟩)
      unfold put5 at Z
      have z0 := Z.c0
      have z1 := Z.c1
      have z2 := Z.c2
      have z3 := Z.c3
      have z4 := Z.c4
      exact bodyPost_ret (v := valV 2 0 r 0 0 ⟨#[]⟩) (by simp [results, Tryd.results27, go_sem, z0, z1, z2, z3, z4, valV]) rfl ⟨⟨_, _, _, _, _, _, ⟨⟨by decide, by decide⟩, hr, by decide, by decide⟩, rfl⟩, below_put5 HB.out (Nat.le_refl _) _ _ _ _ _⟩
end Go.Proofs.YtkhghbeojfgkhaaDoor
