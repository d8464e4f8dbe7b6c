/- QueueScripts: two queues and their references in memory, all four apart. -/
import Derived.Test.YtpemdfdmnbhpjaaQuTold
import Derived.Test.YtpemdfdmnbhpjaaQuGone
import Derived.Test.YtpemdfdmnbhpjaaQuSteps
set_option linter.all false
namespace Go.Proofs.Ytpemdfdmnbhpjaa
open Go.RowKit Go.Shelf
set_option maxRecDepth 100000
/-- what says something of the blocks F alone -/
structure Ft (P : World → List Nat → Prop) : Prop where
  keep : ∀ {W W' : World} {F : List Nat}, P W F → SameB F W W' → P W' F
  lt : ∀ {W : World} {F : List Nat}, P W F → ∀ b ∈ F, b < W.heap.size
theorem ft_q (B : Nat) (p : Option Addr) (o : Option Qs) : Ft (fun W F => QO W B p F o) := ⟨fun h hs => h.keep hs, fun h b hb => (h.lt b hb).2⟩
theorem ft_r (B : Nat) (p : Option Addr) (o : Option Qs) : Ft (fun W F => RO W B p F o) := ⟨fun h hs => h.keep hs, fun h b hb => (h.lt b hb).2⟩
/-- four of these, apart -/
structure A4 (P1 P2 P3 P4 : World → List Nat → Prop) (W : World) (F1 F2 F3 F4 : List Nat) : Prop where
  p1 : P1 W F1
  p2 : P2 W F2
  p3 : P3 W F3
  p4 : P4 W F4
  d12 : ∀ b ∈ F1, b ∉ F2
  d13 : ∀ b ∈ F1, b ∉ F3
  d14 : ∀ b ∈ F1, b ∉ F4
  d23 : ∀ b ∈ F2, b ∉ F3
  d24 : ∀ b ∈ F2, b ∉ F4
  d34 : ∀ b ∈ F3, b ∉ F4
section
variable {P1 P2 P3 P4 P1' : World → List Nat → Prop} {W W' : World} {F1 F2 F3 F4 F1' : List Nat}
theorem A4.flip (h : A4 P1 P2 P3 P4 W F1 F2 F3 F4) : A4 P2 P1 P3 P4 W F2 F1 F3 F4 := ⟨h.p2, h.p1, h.p3, h.p4, fun b hb e => h.d12 b e hb, h.d23, h.d24, h.d13, h.d14, h.d34⟩
theorem A4.half (h : A4 P1 P2 P3 P4 W F1 F2 F3 F4) : A4 P3 P4 P1 P2 W F3 F4 F1 F2 := ⟨h.p3, h.p4, h.p1, h.p2, h.d34, fun b hb e => h.d13 b e hb, fun b hb e => h.d23 b e hb, fun b hb e => h.d14 b e hb, fun b hb e => h.d24 b e hb, h.d12⟩
theorem A4.step (f2 : Ft P2) (f3 : Ft P3) (f4 : Ft P4) (h : A4 P1 P2 P3 P4 W F1 F2 F3 F4) (h1 : P1' W' F1') (ho : Out F1 W W') (hn : ∀ b ∈ F1', b ∈ F1 ∨ W.heap.size ≤ b) : A4 P1' P2 P3 P4 W' F1' F2 F3 F4 := by
  refine ⟨h1, f2.keep h.p2 (ho.same fun x hx => ⟨f2.lt h.p2 x hx, fun e => h.d12 x e hx⟩), f3.keep h.p3 (ho.same fun x hx => ⟨f3.lt h.p3 x hx, fun e => h.d13 x e hx⟩), f4.keep h.p4 (ho.same fun x hx => ⟨f4.lt h.p4 x hx, fun e => h.d14 x e hx⟩), fun b hb e => ?_, fun b hb e => ?_, fun b hb e => ?_, h.d23, h.d24, h.d34⟩
  · rcases hn b hb with h9 | h9
    · exact h.d12 b h9 e
    · have := f2.lt h.p2 b e
      omega
  · rcases hn b hb with h9 | h9
    · exact h.d13 b h9 e
    · have := f3.lt h.p3 b e
      omega
  · rcases hn b hb with h9 | h9
    · exact h.d14 b h9 e
    · have := f4.lt h.p4 b e
      omega
theorem A4.below (f1 : Ft P1) (f2 : Ft P2) (f3 : Ft P3) (f4 : Ft P4) (h : A4 P1 P2 P3 P4 W F1 F2 F3 F4) (hb : Below W.heap.size W W') : A4 P1 P2 P3 P4 W' F1 F2 F3 F4 :=
  h.step f2 f3 f4 (f1.keep h.p1 (SameB.of_below hb (f1.lt h.p1))) (Out.of_below hb) (fun b hb => .inl hb)
end
/-- the queue and its reference; the copy and its reference -/
structure Sc (w : World) (oq or oc od : Option Qs) (pq pr pc pd : Option Addr) (F1 F2 F3 F4 : List Nat) (W : World) : Prop where
  a : A4 (fun W F => QO W w.heap.size pq F oq) (fun W F => RO W w.heap.size pr F or) (fun W F => QO W w.heap.size pc F oc) (fun W F => RO W w.heap.size pd F od) W F1 F2 F3 F4
  bel : Below w.heap.size w W
section
variable {w : World} {oq or oc od oq' or' : Option Qs} {pq pr pc pd pc' pd' : Option Addr} {F1 F2 F3 F4 F1' F2' F3' F4' : List Nat} {W W' : World}
theorem Sc.q (h : Sc w oq or oc od pq pr pc pd F1 F2 F3 F4 W) : QO W w.heap.size pq F1 oq := h.a.p1
theorem Sc.r (h : Sc w oq or oc od pq pr pc pd F1 F2 F3 F4 W) : RO W w.heap.size pr F2 or := h.a.p2
theorem Sc.c (h : Sc w oq or oc od pq pr pc pd F1 F2 F3 F4 W) : QO W w.heap.size pc F3 oc := h.a.p3
theorem Sc.d (h : Sc w oq or oc od pq pr pc pd F1 F2 F3 F4 W) : RO W w.heap.size pd F4 od := h.a.p4
theorem Sc.swap (h : Sc w oq or oc od pq pr pc pd F1 F2 F3 F4 W) : Sc w oc od oq or pc pd pq pr F3 F4 F1 F2 W := ⟨h.a.half, h.bel⟩
theorem Sc.below (h : Sc w oq or oc od pq pr pc pd F1 F2 F3 F4 W) (hb : Below W.heap.size W W') : Sc w oq or oc od pq pr pc pd F1 F2 F3 F4 W' :=
  ⟨h.a.below (ft_q _ _ _) (ft_r _ _ _) (ft_q _ _ _) (ft_r _ _ _) hb, h.bel.trans (hb.mono h.bel.size)⟩
theorem Sc.putq (h : Sc w oq or oc od pq pr pc pd F1 F2 F3 F4 W) (h1 : QO W' w.heap.size pq F1' oq') (ho : Out F1 W W') (hn : ∀ b ∈ F1', b ∈ F1 ∨ W.heap.size ≤ b) : Sc w oq' or oc od pq pr pc pd F1' F2 F3 F4 W' :=
  ⟨h.a.step (ft_r _ _ _) (ft_q _ _ _) (ft_r _ _ _) h1 ho hn, h.bel.trans (ho.toBelow h.bel.size fun x hx => (h.q.lt x hx).1)⟩
theorem Sc.putr (h : Sc w oq or oc od pq pr pc pd F1 F2 F3 F4 W) (h1 : RO W' w.heap.size pr F2' or') (ho : Out F2 W W') (hn : ∀ b ∈ F2', b ∈ F2 ∨ W.heap.size ≤ b) : Sc w oq or' oc od pq pr pc pd F1 F2' F3 F4 W' :=
  ⟨(h.a.flip.step (P1' := fun W F => RO W w.heap.size pr F or') (ft_q _ _ _) (ft_q _ _ _) (ft_r _ _ _) h1 ho hn).flip, h.bel.trans (ho.toBelow h.bel.size fun x hx => (h.r.lt x hx).1)⟩
theorem Sc.newc (h : Sc w oq or oc od pq pr pc pd F1 F2 F3 F4 W) (h1 : QO W' w.heap.size pc' F3' oq') (hb : Below W.heap.size W W') (hn : ∀ b ∈ F3', W.heap.size ≤ b) : Sc w oq or oq' od pq pr pc' pd F1 F2 F3' F4 W' :=
  ⟨(h.a.half.step (P1' := fun W F => QO W w.heap.size pc' F oq') (ft_r _ _ _) (ft_q _ _ _) (ft_r _ _ _) h1 (Out.of_below hb) (fun b hb => .inr (hn b hb))).half, h.bel.trans (hb.mono h.bel.size)⟩
theorem Sc.newd (h : Sc w oq or oc od pq pr pc pd F1 F2 F3 F4 W) (h1 : RO W' w.heap.size pd' F4' or') (hb : Below W.heap.size W W') (hn : ∀ b ∈ F4', W.heap.size ≤ b) : Sc w oq or oc or' pq pr pc pd' F1 F2 F3 F4' W' :=
  ⟨(h.a.half.flip.step (P1' := fun W F => RO W w.heap.size pd' F or') (ft_q _ _ _) (ft_q _ _ _) (ft_r _ _ _) h1 (Out.of_below hb) (fun b hb => .inr (hn b hb))).flip.half, h.bel.trans (hb.mono h.bel.size)⟩
end
/-- the lengths -/
theorem lenO_put (o : Option Qs) (id x : Int) : lenO (putSO o id x) ≤ lenO o + 1 := by
  cases o with
  | none => exact Nat.zero_le _
  | some s =>
    show (putS s id x).l.length ≤ s.l.length + 1
    unfold putS
    split <;> simp
theorem lenO_take (o : Option Qs) (id : Int) : lenO (takeSO o id) ≤ lenO o := by
  cases o with
  | none => exact Nat.zero_le _
  | some s =>
    show (takeS s id).l.length ≤ s.l.length
    cases hf : fnd id s.l with
    | none => rw [takeS_none hf]; exact Nat.le_refl _
    | some k => rw [takeS_some hf]; exact List.length_eraseIdx_le s.l k
theorem putEO_in (o : Option Qs) (id : Int) : IntKind.i64.wrap (putEO o id) = putEO o id := by
  have : 0 ≤ putEO o id ∧ putEO o id ≤ 1000 := by
    cases o with
    | none => exact (by decide : (0 : Int) ≤ 1 ∧ (1 : Int) ≤ 1000)
    | some s =>
      show 0 ≤ putE s id ∧ putE s id ≤ 1000
      unfold putE
      split
      · decide
      · split <;> decide
  rw [IntKind.wrap_i64]; omega
theorem takeEO_in (o : Option Qs) (id : Int) : IntKind.i64.wrap (takeEO o id) = takeEO o id := by
  have : 0 ≤ takeEO o id ∧ takeEO o id ≤ 1000 := by
    cases o with
    | none => exact (by decide : (0 : Int) ≤ 1 ∧ (1 : Int) ≤ 1000)
    | some s =>
      show 0 ≤ takeE s id ∧ takeE s id ≤ 1000
      unfold takeE
      split <;> decide
  rw [IntKind.wrap_i64]; omega
theorem num_any (v : Int) (w : World) (hv : IntKind.i64.wrap v = v) : Calls Try.prog 9 #[.int .i64 v] w fun e w' => e = .returned (.int .i64 v) ∧ w = w' := by
  go_enter Try.func9, Try.ntmps9
  go_wp2
  go_ret
  exact ⟨rfl, rfl⟩
/-- a queue made, or none -/
def newO (most : Int) : Option Qs := if most < 1 then none else some (newQ most)
def newE (most : Int) : Int := if most < 1 then 2 else 0
theorem qnew (most : Int) (B : Nat) (w : World) (hB : B ≤ w.heap.size) (hm : In most) : Calls Try.prog 7 #[.int .i64 most] w fun e w' => ∃ p F, e = .returned (.tuple #[.pointer p, .int .i64 (newE most)]) ∧ QO w' B p F (newO most) ∧ Below w.heap.size w w' ∧ (p = none ↔ newO most = none) ∧ ∀ b ∈ F, w.heap.size ≤ b := by
  by_cases h : most < 1
  · refine (new_no most w h).mono ?_
    rintro e w' ⟨rfl, rfl⟩
    refine ⟨none, [], by rw [newE, if_pos h], .inl ⟨rfl, by rw [newO, if_pos h], rfl⟩, Below.refl _ _, by rw [newO, if_pos h]; simp, fun b hb => by cases hb⟩
  · refine (new_any most w ⟨by omega, hm.2⟩).mono ?_
    rintro e w' ⟨rfl, hq, hb⟩
    refine ⟨_, [w.heap.size], by rw [newE, if_neg h], .inr ⟨_, [], newQ most, rfl, by rw [newO, if_neg h], rfl, hq, fun b hb => by rcases List.mem_cons.1 hb with rfl | hb <;> first | exact hB | cases hb⟩, hb, by rw [newO, if_neg h]; simp, fun b hb => by rcases List.mem_cons.1 hb with rfl | hb <;> first | exact Nat.le_refl _ | cases hb⟩
theorem rnew (most : Int) (B : Nat) (w : World) (hB : B ≤ w.heap.size) (hm : In most) : Calls Try.prog 8 #[.int .i64 most] w fun e w' => ∃ p F, e = .returned (.tuple #[.pointer p, .int .i64 (newE most)]) ∧ RO w' B p F (newO most) ∧ Below w.heap.size w w' ∧ (p = none ↔ newO most = none) ∧ ∀ b ∈ F, w.heap.size ≤ b := by
  by_cases h : most < 1
  · refine (rnew_no most w h).mono ?_
    rintro e w' ⟨rfl, rfl⟩
    refine ⟨none, [], by rw [newE, if_pos h], .inl ⟨rfl, by rw [newO, if_pos h], rfl⟩, Below.refl _ _, by rw [newO, if_pos h]; simp, fun b hb => by cases hb⟩
  · refine (rnew_any most B w hB ⟨by omega, hm.2⟩).mono ?_
    rintro e w' ⟨rfl, hq, hb⟩
    refine ⟨_, [w.heap.size], by rw [newE, if_neg h], .inr ⟨_, [], newQ most, rfl, by rw [newO, if_neg h], rfl, hq⟩, hb, by rw [newO, if_neg h]; simp, fun b hb => by rcases List.mem_cons.1 hb with rfl | hb <;> first | exact Nat.le_refl _ | cases hb⟩
theorem newE_in (most : Int) : IntKind.i64.wrap (newE most) = newE most := by
  unfold newE
  split <;> rfl
theorem newO_len (most : Int) : lenO (newO most) = 0 := by
  unfold newO
  split <;> rfl
end Go.Proofs.Ytpemdfdmnbhpjaa
