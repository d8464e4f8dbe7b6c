/- What LexEach calls: alike and told of whatever tokens; Each. -/
import Derived.Test.YtkhghbeojfgkhaaDoorLexScans
import Derived.BigQuiet
import Derived.Deep.QuietTactic
namespace Go.Proofs.YtkhghbeojfgkhaaDoor
open Go.RowKit Go.Shelf
set_option maxRecDepth 100000

/-- some answer, and yes where it must be -/
def SomeB (p : Prop) (w : World) (e : Ending) (w' : World) : Prop := ∃ b, e = .returned (.bool b) ∧ (p → b = true) ∧ Below w.heap.size w w'
theorem SomeB.no {p : Prop} {w w' : World} {e : Ending} (he : e = .returned (.bool false)) (hp : ¬ p) (hb : Below w.heap.size w w') : SomeB p w e w' := ⟨false, he, fun h => absurd h hp, hb⟩
def SameAll (kd iv at_ sz : Int) (rl : Nat) (tx : ByteArray) (kd2 iv2 at2 sz2 : Int) (rl2 : Nat) (tx2 : ByteArray) : Prop := kd = kd2 ∧ tx = tx2 ∧ iv = iv2 ∧ rl = rl2 ∧ at_ = at2 ∧ sz = sz2

set_option maxHeartbeats 4000000 in
theorem alike_any (kd iv at_ sz : Int) (rl : Nat) (tx : ByteArray) (kd2 iv2 at2 sz2 : Int) (rl2 : Nat) (tx2 : ByteArray) (w : World) :
    Calls Tryd.prog 23 #[.agg #[.int .i64 kd, .string tx, .int .i64 iv, .float .f64 rl, .int .i64 at_, .int .i64 sz], .agg #[.int .i64 kd2, .string tx2, .int .i64 iv2, .float .f64 rl2, .int .i64 at2, .int .i64 sz2]] w
      (SomeB (SameAll kd iv at_ sz rl tx kd2 iv2 at2 sz2 rl2 tx2) w) := by
  have g1 := f64bits rl
  have g2 := f64bits rl2
  have sf : ∀ (p : Addr) (b : Nat) (mo : Mode) (w' : World), (store p (.float .f64 b) mo).run Tryd.prog w' = stored Tryd.prog w' p (.float .f64 b) mo := fun p b mo w' => run_store _ w' p _ mo rfl
  by_cases h1 : kd = kd2
  · subst h1
    by_cases h2 : tx = tx2
    · subst h2
      by_cases h3 : iv = iv2
      · subst h3
        by_cases h4 : rl = rl2
        · subst h4
          by_cases h5 : at_ = at2
          · subst h5
            by_cases h6 : sz = sz2
            · subst h6
              exact (alike_yes kd iv at_ sz rl tx w).mono fun e w' ⟨he, hb⟩ => ⟨true, he, fun _ => rfl, hb⟩
            · have hn : ¬ SameAll kd iv at_ sz rl tx kd iv at_ sz2 rl tx := fun h => h6 h.2.2.2.2.2
              have t6 : (sz == sz2) = false := by simpa using h6
              have HN := Lib.hid hn
              clear h6 hn
              go_enter Tryd.func23, Tryd.ntmps23
              go_wp2
              go_region
              all_goals go_wp2
              all_goals go_ret
              all_goals exact SomeB.no rfl HN.out (((Below.refl _ w).alloc (Nat.le_refl _) _).alloc (by simp) _).drew
          · have hn : ¬ SameAll kd iv at_ sz rl tx kd iv at2 sz2 rl tx := fun h => h5 h.2.2.2.2.1
            have t6 : (at_ == at2) = false := by simpa using h5
            have HN := Lib.hid hn
            clear h5 hn
            go_enter Tryd.func23, Tryd.ntmps23
            go_wp2
            go_region
            all_goals go_wp2
            all_goals go_ret
            all_goals exact SomeB.no rfl HN.out (((Below.refl _ w).alloc (Nat.le_refl _) _).alloc (by simp) _).drew
        · have hn : ¬ SameAll kd iv at_ sz rl tx kd iv at2 sz2 rl2 tx := fun h => h4 h.2.2.2.1
          have t6 : ((rl : Int) == (rl2 : Int)) = false := by rw [beq_eq_false_iff_ne]; omega
          have t7 : (rl == rl2) = false := by simpa using h4
          have HN := Lib.hid hn
          clear h4 hn
          go_enter Tryd.func23, Tryd.ntmps23
          go_wp2
          go_region
          all_goals go_wp2
          all_goals go_ret
          all_goals exact SomeB.no rfl HN.out (((Below.refl _ w).alloc (Nat.le_refl _) _).alloc (by simp) _).drew
      · have hn : ¬ SameAll kd iv at_ sz rl tx kd iv2 at2 sz2 rl2 tx := fun h => h3 h.2.2.1
        have t6 : (iv == iv2) = false := by simpa using h3
        have HN := Lib.hid hn
        clear h3 hn
        go_enter Tryd.func23, Tryd.ntmps23
        go_wp2
        go_region
        all_goals go_wp2
        all_goals go_ret
        all_goals exact SomeB.no rfl HN.out (((Below.refl _ w).alloc (Nat.le_refl _) _).alloc (by simp) _).drew
    · have hn : ¬ SameAll kd iv at_ sz rl tx kd iv2 at2 sz2 rl2 tx2 := fun h => h2 h.2.1
      have t6 : (tx.toList == tx2.toList) = false := by
        rw [beq_eq_false_iff_ne, ByteArray.toList_eq, ByteArray.toList_eq]
        exact fun h => h2 (ByteArray.ext (Array.toList_inj.1 h))
      have HN := Lib.hid hn
      clear hn h2
      go_enter Tryd.func23, Tryd.ntmps23
      go_wp2
      go_region
      all_goals go_wp2
      all_goals go_ret
      all_goals exact SomeB.no rfl HN.out (((Below.refl _ w).alloc (Nat.le_refl _) _).alloc (by simp) _).drew
  · have hn : ¬ SameAll kd iv at_ sz rl tx kd2 iv2 at2 sz2 rl2 tx2 := fun h => h1 h.1
    have t6 : (kd == kd2) = false := by simpa using h1
    have HN := Lib.hid hn
    clear h1 hn
    go_enter Tryd.func23, Tryd.ntmps23
    go_wp2
    go_region
    all_goals go_wp2
    all_goals go_ret
    all_goals exact SomeB.no rfl HN.out (((Below.refl _ w).alloc (Nat.le_refl _) _).alloc (by simp) _).drew

theorem told_at {xs : List Tok} {P E k : Nat} (hk : k < xs.length) {t : Tok} {er : Nat} (h : (toldR (xs, P, E))[k]? = some (t, er)) : t = xs[k] ∧ er = 0 := by
  unfold toldR at h
  rw [List.getElem?_append_left (by simpa using hk), List.getElem?_map, List.getElem?_eq_getElem hk] at h
  simp at h
  exact ⟨h.1.symm, h.2.symm⟩
theorem told_last {xs : List Tok} {P E : Nat} {t : Tok} {er : Nat} (h : (toldR (xs, P, E))[xs.length]? = some (t, er)) : E ≠ 0 ∧ t = ⟨0, [], 0, 0, P, 0⟩ ∧ er = E := by
  unfold toldR at h
  rw [List.getElem?_append_right (by simp)] at h
  simp only [List.length_map, Nat.sub_self] at h
  by_cases h0 : E = 0
  · rw [if_pos h0] at h; simp at h
  · rw [if_neg h0] at h
    simp at h
    exact ⟨h0, h.1.symm, h.2.symm⟩

set_option maxHeartbeats 4000000 in
theorem told_any (t : Tok) (er k N P E ca B : Nat) (va : Option Addr) (xs : List Tok) (w : World) (hN : xs.length = N) (hN2 : N ≤ 32769) (hk : k ≤ N) (hrow : RowIs w B va xs) :
    Calls Tryd.prog 14 #[tokVal t, .int .i64 er, .int .i64 k, .slice va N ca, .int .i64 P, .int .i64 E] w (SomeB ((toldR (xs, P, E))[k]? = some (t, er)) w) := by
  have sf : ∀ (p : Addr) (b : Nat) (mo : Mode) (w' : World), (store p (.float .f64 b) mo).run Tryd.prog w' = stored Tryd.prog w' p (.float .f64 b) mo := fun p b mo w' => run_store _ w' p _ mo rfl
  obtain ⟨p, hp⟩ : ∃ p, p = ((toldR (xs, P, E))[k]? = some (t, er)) := ⟨_, rfl⟩
  rcases Nat.lt_or_ge k N with hlt | hge
  · have hlt' : k < xs.length := by omega
    obtain ⟨x, hx⟩ : ∃ x, xs[k]? = some x := ⟨_, List.getElem?_eq_getElem hlt'⟩
    obtain ⟨g, rfl, _, cx⟩ := hrow k x hx
    have hpp : p → t = x ∧ er = 0 := fun h => by
      rw [hp] at h
      have := told_at hlt' h
      rw [List.getElem?_eq_getElem hlt'] at hx
      cases hx
      exact this
    obtain ⟨kd, tx, iv, rl, at_, sz⟩ := x
    obtain ⟨kd2, tx2, iv2, rl2, at2, sz2⟩ := t
    rw [← hp]
    have y0 : w.cell? ⟨g, k * 6, none⟩ = some (.int .i64 kd) := cx 0 _ (by decide) rfl
    have y1 := cx 1 _ (by decide) rfl
    have y2 := cx 2 _ (by decide) rfl
    have y3 := cx 3 _ (by decide) rfl
    have y4 := cx 4 _ (by decide) rfl
    have y5 := cx 5 _ (by decide) rfl
    have hgl := World.block_lt_of_cell? w _ y0
    simp only [tokVal]
    obtain ⟨w1, hw1⟩ : ∃ w1, w1 = w.alloc (.cells #[.int .i64 kd2, .string ⟨tx2.toArray⟩, .int .i64 iv2, .float .f64 rl2, .int .i64 at2, .int .i64 sz2] 40) := ⟨_, rfl⟩
    have hb1 : Below w.heap.size w w1 := by rw [hw1]; exact (Below.refl _ w).alloc (Nat.le_refl _) _
    have hblk : w1.heap[w.heap.size]? = some (.cells #[.int .i64 kd2, .string ⟨tx2.toArray⟩, .int .i64 iv2, .float .f64 rl2, .int .i64 at2, .int .i64 sz2] 40 (0, 0)) := by rw [hw1]; exact heap_alloc_new w _
    have cz : ∀ j, w1.cell? ⟨g, j, none⟩ = w.cell? ⟨g, j, none⟩ := fun j => hb1.cell (p := ⟨g, j, none⟩) hgl
    have z0 : w1.cell? ⟨g, k * 6, none⟩ = some (.int .i64 kd) := (cz _).trans y0
    have z1 := (cz _).trans y1
    have z2 := (cz _).trans y2
    have z3 := (cz _).trans y3
    have z4 := (cz _).trans y4
    have z5 := (cz _).trans y5
    have x0 : w1.cell? ⟨w.heap.size, 0, none⟩ = some (.int .i64 kd2) := by simp [World.cell?, hblk]
    have x1 : w1.cell? ⟨w.heap.size, 1, none⟩ = some (.string ⟨tx2.toArray⟩) := by simp [World.cell?, hblk]
    have x2 : w1.cell? ⟨w.heap.size, 2, none⟩ = some (.int .i64 iv2) := by simp [World.cell?, hblk]
    have x3 : w1.cell? ⟨w.heap.size, 3, none⟩ = some (.float .f64 rl2) := by simp [World.cell?, hblk]
    have x4 : w1.cell? ⟨w.heap.size, 4, none⟩ = some (.int .i64 at2) := by simp [World.cell?, hblk]
    have x5 : w1.cell? ⟨w.heap.size, 5, none⟩ = some (.int .i64 sz2) := by simp [World.cell?, hblk]
    have HW1 := Lib.hid hw1
    have HB1 := Lib.hid hb1
    have HP := Lib.hid hpp
    clear hw1 hb1 hpp hp hx cx hblk cz hrow y0 y1 y2 y3 y4 y5 hN hlt'
    by_cases her : er = 0
    · subst her
      go_enter Tryd.func14, Tryd.ntmps14
      go_upto_region 1 with (fail)
      rw [← HW1.out]
      go_wp2_with fail
      go_still_tail 8, (by kernel_rfl)
      change wpList _ _ _ _ _ w1.drew
      have hbd : Below w.heap.size w w1.drew := HB1.out.drew
      have hzd : w.heap.size ≤ w1.drew.heap.size := hbd.size
      generalize w1.drew = wd at hbd hzd ⊢
      have HBD := Lib.hid hbd
      clear hbd x0 x1 x2 x3 x4 x5 z0 z1 z2 z3 z4 z5
      go_wp2_with fail
      refine (alike_any _ _ _ _ _ _ _ _ _ _ _ _ wd).mono ?_
      rintro e w9 ⟨b, rfl, hb, hb9⟩
      have HB9 := Lib.hid (HBD.out.trans (hb9.mono hzd))
      have HQ : Hid (p → b = true) := Lib.hid fun h => hb (by
        obtain ⟨h1, _⟩ := HP.out h
        cases h1
        exact ⟨rfl, rfl, rfl, rfl, rfl, rfl⟩)
      clear hb hb9
      go_wp2_with fail
      go_ret
      exact ⟨b, rfl, HQ.out, HB9.out⟩
    · have HQ : Hid (¬ p) := Lib.hid fun h => her (HP.out h).2
      have t1 : ((er : Int) == 0) = false := by rw [beq_eq_false_iff_ne]; omega
      clear her
      go_enter Tryd.func14, Tryd.ntmps14
      go_upto_region 1 with (fail)
      rw [← HW1.out]
      go_wp2_with fail
      go_region
      all_goals go_wp2
      all_goals go_ret
      all_goals exact SomeB.no rfl HQ.out HB1.out.drew
  · obtain rfl : k = N := by omega
    have hpp : p → E ≠ 0 ∧ t = ⟨0, [], 0, 0, P, 0⟩ ∧ er = E := fun h => by
      rw [hp, ← hN] at h
      exact told_last h
    rw [← hp]
    obtain ⟨kd2, tx2, iv2, rl2, at2, sz2⟩ := t
    simp only [tokVal]
    have HP := Lib.hid hpp
    clear hpp hp hrow hN
    have hb1 : Below w.heap.size w (w.alloc (.cells #[.int .i64 kd2, .string ⟨tx2.toArray⟩, .int .i64 iv2, .float .f64 rl2, .int .i64 at2, .int .i64 sz2] 40)) := (Below.refl _ w).alloc (Nat.le_refl _) _
    have HB1 := Lib.hid hb1
    clear hb1
    by_cases hE : E = 0
    · have HQ : Hid (¬ p) := Lib.hid fun h => (HP.out h).1 hE
      have t1 : ((E : Int) != 0) = false := by rw [hE]; rfl
      clear hE
      go_enter Tryd.func14, Tryd.ntmps14
      go_wp2_with fail
      go_ret
      exact SomeB.no rfl HQ.out HB1.out
    · have t1 : ((E : Int) != 0) = true := by rw [bne_iff_ne]; omega
      by_cases her : er = E
      · subst her
        clear hE
        go_enter Tryd.func14, Tryd.ntmps14
        go_wp2_with fail
        refine (alike_any _ _ _ _ _ _ _ _ _ _ _ _ _).mono ?_
        rintro e w9 ⟨b, rfl, hb, hb9⟩
        have HB9 := Lib.hid (HB1.out.trans (hb9.mono HB1.out.size))
        have HQ : Hid (p → b = true) := Lib.hid fun h => hb (by
          obtain ⟨_, h1, _⟩ := HP.out h
          cases h1
          exact ⟨rfl, rfl, rfl, rfl, rfl, rfl⟩)
        clear hb hb9
        go_wp2_with fail
        go_ret
        exact ⟨b, rfl, HQ.out, HB9.out⟩
      · have HQ : Hid (¬ p) := Lib.hid fun h => her (HP.out h).2.2
        have t2 : ((er : Int) == (E : Int)) = false := by rw [beq_eq_false_iff_ne]; omega
        have t3 : (er == E) = false := by rw [beq_eq_false_iff_ne]; exact her
        clear her hE
        go_enter Tryd.func14, Tryd.ntmps14
        go_wp2_with fail
        go_ret
        exact SomeB.no rfl HQ.out HB1.out
end Go.Proofs.YtkhghbeojfgkhaaDoor
