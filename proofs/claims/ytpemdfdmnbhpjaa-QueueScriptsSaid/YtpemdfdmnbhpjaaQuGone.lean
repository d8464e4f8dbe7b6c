/- Queue: gone: the sequence's items are what the reference tells, up to where it is left. -/
import Derived.Test.YtpemdfdmnbhpjaaQuSeq
set_option linter.all false
namespace Go.Proofs.Ytpemdfdmnbhpjaa
open Go.RowKit Go.Shelf
set_option maxRecDepth 100000
theorem items_len (o : Option Qs) : (itemsO o).length = lenO o := by cases o <;> rfl
theorem items_at {o : Option Qs} {k : Nat} {x : It} (h : (itemsO o)[k]? = some x) : atF o (k : Int) = (x, true) := by
  cases o with
  | none => cases h
  | some s => exact atF_yes (by omega) h
/-- the boxes that the closure speaks of -/
structure Gx (rb nb fb mb : Nat) (pr : Option Addr) (most : Int) (k : Nat) (W : World) : Prop where
  r : Boxed W rb 27 (.pointer pr)
  n : Boxed W nb 3 (.int .i64 (k : Int))
  f : Boxed W fb 4 (.bool true)
  m : Boxed W mb 3 (.int .i64 most)
theorem Gx.below {rb nb fb mb : Nat} {pr : Option Addr} {most : Int} {k : Nat} {W W' : World} {B : Nat} (h : Gx rb nb fb mb pr most k W) (hb : Below B W W') (hB : rb < B ∧ nb < B ∧ fb < B ∧ mb < B) : Gx rb nb fb mb pr most k W' :=
  ⟨(hb.block _ hB.1).trans h.r, (hb.block _ hB.2.1).trans h.n, (hb.block _ hB.2.2.1).trans h.f, (hb.block _ hB.2.2.2).trans h.m⟩
theorem boxed_other {W : World} {B x : Nat} {t : TypeId} {v : Value} (h : Boxed W B t v) (hx : B ≠ x) (u : Value) : Boxed (W.setCell ⟨x, 0, none⟩ u) B t v := (heap_setCell_other W ⟨x, 0, none⟩ B u hx).trans h
theorem Gx.out {rb nb fb mb : Nat} {pr : Option Addr} {most : Int} {k : Nat} {W : World} (h : Gx rb nb fb mb pr most k W) (hn : rb ≠ nb ∧ rb ≠ fb ∧ nb ≠ fb ∧ nb ≠ mb ∧ fb ≠ mb) (j : Nat) : Gx rb nb fb mb pr most j ((W.setCell ⟨fb, 0, none⟩ (.bool true)).setCell ⟨nb, 0, none⟩ (.int .i64 (j : Int))) :=
  ⟨boxed_other (boxed_other h.r hn.2.1 _) hn.1 _, (boxed_other h.n hn.2.2.1 _).set _, boxed_other (h.f.set _) (Ne.symm hn.2.2.1) _, boxed_other (boxed_other h.m (Ne.symm hn.2.2.2.2) _) (Ne.symm hn.2.2.2.1) _⟩
set_option maxHeartbeats 4000000 in
theorem gone1_any {rb nb fb mb : Nat} {pr : Option Addr} {most : Int} {k : Nat} {W : World} {B : Nat} {Fr : List Nat} {o : Option Qs} {x : It} (hr : RO W B pr Fr o) (hf : lenO o ≤ 8796093022207) (hx : (itemsO o)[k]? = some x) (hG : Gx rb nb fb mb pr most k W) (hn : rb ≠ nb ∧ rb ≠ fb ∧ nb ≠ fb ∧ nb ≠ mb ∧ fb ≠ mb) :
    Calls Try.prog 34 #[.int .i64 x.1, .int .i64 x.2, .pointer (some ⟨rb, 0, none⟩), .pointer (some ⟨nb, 0, none⟩), .pointer (some ⟨fb, 0, none⟩), .pointer (some ⟨mb, 0, none⟩)] W
      fun e W' => e = .returned (.bool (!(((k + 1 : Nat) : Int) == most))) ∧ Out [nb, fb] W W' ∧ Gx rb nb fb mb pr most (k + 1) W' := by
  have HAT := Lib.hid (rat hr (k : Int) (by omega))
  rw [items_at hx] at HAT
  have hk := get_lt hx
  rw [items_len] at hk
  have hk1 : IntKind.i64.wrap ((k : Int) + 1) = (k : Int) + 1 := by rw [IntKind.wrap_i64]; omega
  have c0 := hG.r.cell
  have c1 := hG.n.cell
  have c2 := hG.f.cell
  have c3 := hG.m.cell
  have HG := Lib.hid hG
  clear hG hr hx
  go_enter Try.func34, Try.ntmps34
  go_upto_region 2 with (go_at_call 19; refine HAT.out.mono ?_; rintro e w1 ⟨rfl, hb1⟩; have HB1 := Lib.hid hb1; clear hb1)
  have hG1 := HG.out.below HB1.out ⟨HG.out.r.lt, HG.out.n.lt, HG.out.f.lt, HG.out.m.lt⟩
  have HG1 := Lib.hid hG1
  have hgo := hG1.out hn (k + 1)
  have HGO := Lib.hid hgo
  have HO := Lib.hid (((Out.of_below (F := [nb, fb]) HB1.out).setCell (g := fb) (.inl (by simp)) 0 (.bool true)).setCell (g := nb) (.inl (by simp)) 0 (.int .i64 ((k + 1 : Nat) : Int)))
  have d0 := hG1.n.cell
  have d1 := hG1.f.cell
  have d2 := hG1.m.cell
  have f0 := hG1.n.frozen
  have f1 := hG1.f.frozen
  have e0 := (boxed_other hG1.n hn.2.2.1 (.bool true)).cell
  have e1 := (boxed_other hG1.n hn.2.2.1 (.bool true)).frozen
  have g0 := hgo.n.cell
  have g1 := hgo.m.cell
  clear c0 c1 c2 c3 hG1 hgo
  have t1 : (x.1 == x.1) = true := by simp
  have t2 : (x.2 == x.2) = true := by simp
  have ek : ((k + 1 : Nat) : Int) = (k : Int) + 1 := by omega
  rw [ek] at g0 g1
  go_wp2_with fail
  rw [ek] at HO HGO
  go_ret
  refine ⟨by rw [ek]; rfl, HO.out, HGO.out⟩
theorem prefix_at {L pre : List It} {x : It} (h : pre ++ [x] <+: L) : L[pre.length]? = some x := by
  obtain ⟨t, rfl⟩ := h
  simp
set_option maxHeartbeats 8000000 in
theorem gone_any {w : World} {B : Nat} {p pr : Option Addr} {F Fr : List Nat} {o : Option Qs} (h : QO w B p F o) (k : RO w B pr Fr o) (hf : lenO o ≤ 8796093022207) (most : Int) :
    Calls Try.prog 20 #[.pointer p, .pointer pr, .int .i64 most] w (LkP (.bool true) w) := by
  obtain ⟨b, hb⟩ : ∃ b, b = w.heap.size := ⟨_, rfl⟩
  obtain ⟨w1, hw1⟩ : ∃ w1, w1 = (((((w.alloc (.cells #[.pointer pr] 27)).alloc (.cells #[.int .i64 most] 3)).alloc (.cells #[.pointer p] 23)).alloc (.cells #[.int .i64 0] 3)).alloc (.cells #[.bool true] 4)) := ⟨_, rfl⟩
  have hz1 : w1.heap.size = b + 5 := by rw [hw1, hb]; simp
  have hb1 : Below w.heap.size w w1 := by rw [hw1]; exact ((((((Below.refl _ w).alloc (Nat.le_refl _) _).alloc (by simp) _).alloc (by simp; omega) _).alloc (by simp; omega) _).alloc (by simp; omega) _)
  have hg1 : Gx b (b + 3) (b + 4) (b + 1) pr most 0 w1 := by
    rw [hw1, hb]
    refine ⟨((((Boxed.new w _ _).alloc _).alloc _).alloc _).alloc _, ?_, ?_, ?_⟩
    · have := Boxed.new (((w.alloc (.cells #[.pointer pr] 27)).alloc (.cells #[.int .i64 most] 3)).alloc (.cells #[.pointer p] 23)) 3 (.int .i64 0)
      rw [World.size_alloc, World.size_alloc, World.size_alloc] at this
      exact this.alloc _
    · have := Boxed.new ((((w.alloc (.cells #[.pointer pr] 27)).alloc (.cells #[.int .i64 most] 3)).alloc (.cells #[.pointer p] 23)).alloc (.cells #[.int .i64 0] 3)) 4 (.bool true)
      rw [World.size_alloc, World.size_alloc, World.size_alloc, World.size_alloc] at this
      exact this
    · have := Boxed.new (w.alloc (.cells #[.pointer pr] 27)) 3 (.int .i64 most)
      rw [World.size_alloc] at this
      exact ((this.alloc _).alloc _).alloc _
  have hqb1 : Boxed w1 (b + 2) 23 (.pointer p) := by
    rw [hw1, hb]
    have := Boxed.new ((w.alloc (.cells #[.pointer pr] 27)).alloc (.cells #[.int .i64 most] 3)) 23 (.pointer p)
    rw [World.size_alloc, World.size_alloc] at this
    exact (this.alloc _).alloc _
  have HE := Lib.hid (each1q_any (caps := #[.pointer (some ⟨b, 0, none⟩), .pointer (some ⟨b + 3, 0, none⟩), .pointer (some ⟨b + 4, 0, none⟩), .pointer (some ⟨b + 1, 0, none⟩)]) (h.below hb1) hf hqb1
    (fun pre W => Gx b (b + 3) (b + 4) (b + 1) pr most pre.length W ∧ Below w.heap.size w W ∧ w1.heap.size ≤ W.heap.size ∧ (most ≤ 0 ∨ (pre.length : Int) < most))
    (fun pre W => Gx b (b + 3) (b + 4) (b + 1) pr most pre.length W ∧ Below w.heap.size w W ∧ 0 < most ∧ (pre.length : Int) = most)
    [b + 3, b + 4] (fun x hx => by simp at hx; omega)
    (fun pre A A' ⟨a1, a2, a3, a4⟩ hA => ⟨a1.below hA (by omega), a2.trans (hA.mono (by omega)), Nat.le_trans a3 hA.size, a4⟩)
    (fun pre A A' ⟨a1, a2, a4⟩ hA => ⟨a1.below hA (by omega), a2.trans (hA.mono (by omega)), a4⟩)
    (fun pre x W hp ⟨a1, a2, a3, a4⟩ => by
      refine (gone1_any (k.below a2) hf (prefix_at hp) a1 (by omega)).mono ?_
      rintro e W' ⟨rfl, ho, hg⟩
      refine ⟨_, rfl, ho, ?_⟩
      have hbl : Below w.heap.size w W' := a2.trans (ho.toBelow (by omega) (fun x hx => by simp at hx; omega))
      by_cases hm : ((pre.length + 1 : Nat) : Int) = most
      · rw [if_neg (by simpa using hm)]
        exact ⟨by rw [List.length_append]; exact hg, hbl, by omega, by rw [List.length_append]; exact hm⟩
      · rw [if_pos (by simpa using hm)]
        exact ⟨by rw [List.length_append]; exact hg, hbl, Nat.le_trans a3 ho.size, by rw [List.length_append]; simp; omega⟩)
    ⟨hg1, hb1, Nat.le_refl _, by simp; omega⟩)
  have HK := Lib.hid (fun (W : World) (hW : Below w.heap.size w W) => rlen (k.below hW))
  have HW1 := Lib.hid hw1.symm
  have HB := Lib.hid hb
  clear h k hz1 hb1 hg1 hqb1 hw1 hb
  go_enter Try.func20, Try.ntmps20
  have hnil : ∀ (bs : Array Value) (w' : World), (binOp BinOp.eql 71 (.func (.func 40) #[] bs) .nilFunc).run Try.prog w' = .ok (.bool false) w' := fun _ _ => rfl
  go_upto_region 6 with (go_at_call 33; refine qeach.mono ?_; rintro e w2 ⟨rfl, rfl⟩)
  simp only [Nat.add_assoc, Nat.reduceAdd]
  rw [HW1.out, ← HB.out]
  go_upto_region 7 with (go_at_call 40; refine HE.out.mono ?_; rintro e w3 ⟨⟨v, rfl⟩, hj⟩; have HJ := Lib.hid hj; clear hj)
  have hx : ∃ n : Nat, Gx b (b + 3) (b + 4) (b + 1) pr most n w3 ∧ Below w.heap.size w w3 ∧ (n : Int) = (if 0 < most ∧ most < (lenO o : Int) then most else (lenO o : Int)) := by
    rcases HJ.out with ⟨j1, j2, _, j4⟩ | ⟨pre, j0, j1, j2, j3, j4⟩
    · rw [items_len] at j1 j4
      exact ⟨_, j1, j2, by split <;> omega⟩
    · have := j0.length_le
      rw [items_len] at this
      exact ⟨_, j1, j2, by split <;> omega⟩
  obtain ⟨n, hx, hbw, hn⟩ := hx
  have HKL := Lib.hid (HK.out _ hbw)
  have c0 := hx.r.cell
  have HX := Lib.hid hx
  have HBW := Lib.hid hbw
  have HN := Lib.hid hn
  clear hx hbw hn HJ HE HK HW1 hnil
  go_upto_region 8 with (go_at_call 35; refine HKL.out.mono ?_; rintro e w4 ⟨rfl, hb4⟩; have HB4 := Lib.hid hb4; clear hb4)
  have hz := HBW.out.size
  have hx4 := HX.out.below HB4.out ⟨HX.out.r.lt, HX.out.n.lt, HX.out.f.lt, HX.out.m.lt⟩
  have c1 := hx4.n.cell
  have c2 := hx4.f.cell
  have c3 := hx4.m.cell
  have HBE := Lib.hid (HBW.out.trans (HB4.out.mono hz))
  clear hx4 c0 HKL hz
  have hn := HN.out
  by_cases h1 : 0 < most
  · have t1 : decide (0 < most) = true := decide_eq_true h1
    by_cases h2 : most < (lenO o : Int)
    · have t2 : decide (most < (lenO o : Int)) = true := decide_eq_true h2
      rw [if_pos ⟨h1, h2⟩] at hn
      have t3 : ((n : Int) == most) = true := by simpa using hn
      clear h1 h2 hn
      go_wp2_with fail
      go_ret
      exact ⟨rfl, HBE.out⟩
    · have t2 : decide (most < (lenO o : Int)) = false := decide_eq_false h2
      rw [if_neg (fun h => h2 h.2)] at hn
      have t3 : ((n : Int) == (lenO o : Int)) = true := by simpa using hn
      clear h1 h2 hn
      go_wp2_with fail
      go_ret
      exact ⟨rfl, HBE.out⟩
  · have t1 : decide (0 < most) = false := decide_eq_false h1
    rw [if_neg (fun h => h1 h.1)] at hn
    have t3 : ((n : Int) == (lenO o : Int)) = true := by simpa using hn
    clear h1 hn
    go_wp2_with fail
    go_ret
    exact ⟨rfl, HBE.out⟩
end Go.Proofs.Ytpemdfdmnbhpjaa
