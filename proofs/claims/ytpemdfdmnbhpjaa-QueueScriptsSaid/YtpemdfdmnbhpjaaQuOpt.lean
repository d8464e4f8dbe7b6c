/- Queue: both queues, nil or not. -/
import Derived.Test.YtpemdfdmnbhpjaaQuRef3
set_option linter.all false
namespace Go.Proofs.Ytpemdfdmnbhpjaa
open Go.RowKit Go.Shelf
set_option maxRecDepth 100000
/-- the program's queue, or nil -/
def QO (w : World) (B : Nat) (p : Option Addr) (F : List Nat) (o : Option Qs) : Prop :=
  (p = none ∧ o = none ∧ F = []) ∨ ∃ g G s, p = some ⟨g, 0, none⟩ ∧ o = some s ∧ F = g :: G ∧ Own w B g G s
/-- the reference's queue, or nil -/
def RO (w : World) (B : Nat) (p : Option Addr) (F : List Nat) (o : Option Qs) : Prop :=
  (p = none ∧ o = none ∧ F = []) ∨ ∃ r G s, p = some ⟨r, 0, none⟩ ∧ o = some s ∧ F = r :: G ∧ Rm w B r G s
theorem QO.lt {w : World} {B : Nat} {p : Option Addr} {F : List Nat} {o : Option Qs} (h : QO w B p F o) : ∀ b ∈ F, B ≤ b ∧ b < w.heap.size := by
  rcases h with ⟨_, _, rfl⟩ | ⟨g, G, s, _, _, rfl, h⟩
  · intro b hb; cases hb
  · exact fun b hb => ⟨h.new b hb, h.q.lt b hb⟩
theorem RO.lt {w : World} {B : Nat} {p : Option Addr} {F : List Nat} {o : Option Qs} (h : RO w B p F o) : ∀ b ∈ F, B ≤ b ∧ b < w.heap.size := by
  rcases h with ⟨_, _, rfl⟩ | ⟨r, G, s, _, _, rfl, h⟩
  · intro b hb; cases hb
  · exact fun b hb => ⟨h.new b hb, h.lt b hb⟩
theorem QO.keep {w w' : World} {B : Nat} {p : Option Addr} {F : List Nat} {o : Option Qs} (h : QO w B p F o) (hs : SameB F w w') : QO w' B p F o := by
  rcases h with h | ⟨g, G, s, rfl, rfl, rfl, h⟩
  · exact .inl h
  · exact .inr ⟨g, G, s, rfl, rfl, rfl, h.q.keep hs, h.new⟩
theorem RO.keep {w w' : World} {B : Nat} {p : Option Addr} {F : List Nat} {o : Option Qs} (h : RO w B p F o) (hs : SameB F w w') : RO w' B p F o := by
  rcases h with h | ⟨r, G, s, rfl, rfl, rfl, h⟩
  · exact .inl h
  · exact .inr ⟨r, G, s, rfl, rfl, rfl, h.keep hs⟩
theorem QO.below {w w' : World} {B : Nat} {p : Option Addr} {F : List Nat} {o : Option Qs} (h : QO w B p F o) (hb : Below w.heap.size w w') : QO w' B p F o := h.keep (SameB.of_below hb fun x hx => (h.lt x hx).2)
theorem RO.below {w w' : World} {B : Nat} {p : Option Addr} {F : List Nat} {o : Option Qs} (h : RO w B p F o) (hb : Below w.heap.size w w') : RO w' B p F o := h.keep (SameB.of_below hb fun x hx => (h.lt x hx).2)
def lenO : Option Qs → Nat
  | none => 0
  | some s => s.l.length
def roomO : Option Qs → Int
  | none => 0
  | some s => s.most - s.l.length
def lastO : Option Qs → Int
  | none => -1
  | some s => s.last
def atF : Option Qs → Int → It × Bool
  | none, _ => ((0, 0), false)
  | some s, i => match (if 0 ≤ i then s.l[i.toNat]? else none) with
    | some x => (x, true)
    | none => ((0, 0), false)
def fndO : Option Qs → Int → Option Nat
  | none, _ => none
  | some s, id => fnd id s.l
def putEO : Option Qs → Int → Int
  | none, _ => 1
  | some s, id => putE s id
def putSO : Option Qs → Int → Int → Option Qs
  | none, _, _ => none
  | some s, id, x => some (putS s id x)
def takeXO : Option Qs → Int → Int
  | none, _ => 0
  | some s, id => takeX s id
def takeEO : Option Qs → Int → Int
  | none, _ => 1
  | some s, id => takeE s id
def takeSO : Option Qs → Int → Option Qs
  | none, _ => none
  | some s, id => some (takeS s id)
theorem atF_yes {s : Qs} {i : Int} {x : It} (h0 : 0 ≤ i) (h : s.l[i.toNat]? = some x) : atF (some s) i = (x, true) := by
  show (match (if 0 ≤ i then s.l[i.toNat]? else none) with
    | some x => (x, true)
    | none => ((0, 0), false)) = (x, true)
  rw [if_pos h0, h]
theorem atF_no {s : Qs} {i : Int} (h : i < 0 ∨ (s.l.length : Int) ≤ i) : atF (some s) i = ((0, 0), false) := by
  show (match (if 0 ≤ i then s.l[i.toNat]? else none) with
    | some x => (x, true)
    | none => ((0, 0), false)) = ((0, 0), false)
  by_cases h0 : 0 ≤ i
  · rw [if_pos h0, List.getElem?_eq_none (by omega)]
  · rw [if_neg h0]
/-- a call that only looks -/
def LkP (v : Value) (w : World) (e : Ending) (w' : World) : Prop := e = .returned v ∧ Below w.heap.size w w'
/-- a call that turns what lies at F -/
def TuP (v : Value) (J : World → List Nat → Prop) (F : List Nat) (w : World) (e : Ending) (w' : World) : Prop :=
  e = .returned v ∧ ∃ F', J w' F' ∧ Out F w w' ∧ (∀ b ∈ F', b ∈ F ∨ w.heap.size ≤ b)
theorem qlen {w : World} {B : Nat} {p : Option Addr} {F : List Nat} {o : Option Qs} (h : QO w B p F o) : Calls Try.prog 23 #[.pointer p] w (LkP (.int .i64 ((lenO o : Nat) : Int)) w) := by
  rcases h with ⟨rfl, rfl, rfl⟩ | ⟨g, G, s, rfl, rfl, rfl, h⟩
  · go_enter Try.func23, Try.ntmps23
    go_wp2
    go_ret
    exact ⟨rfl, Below.refl _ _⟩
  · refine (len_any h.q).mono ?_
    rintro e w' ⟨rfl, rfl⟩
    exact ⟨rfl, Below.refl _ _⟩
theorem qroom {w : World} {B : Nat} {p : Option Addr} {F : List Nat} {o : Option Qs} (h : QO w B p F o) : Calls Try.prog 24 #[.pointer p] w (LkP (.int .i64 (roomO o)) w) := by
  rcases h with ⟨rfl, rfl, rfl⟩ | ⟨g, G, s, rfl, rfl, rfl, h⟩
  · go_enter Try.func24, Try.ntmps24
    go_wp2
    go_ret
    exact ⟨rfl, Below.refl _ _⟩
  · refine (room_any h.q).mono ?_
    rintro e w' ⟨rfl, q, rfl⟩
    exact ⟨rfl, below_drewN (Below.refl _ _) q⟩
theorem qlast {w : World} {B : Nat} {p : Option Addr} {F : List Nat} {o : Option Qs} (h : QO w B p F o) : Calls Try.prog 25 #[.pointer p] w (LkP (.int .i64 (lastO o)) w) := by
  rcases h with ⟨rfl, rfl, rfl⟩ | ⟨g, G, s, rfl, rfl, rfl, h⟩
  · go_enter Try.func25, Try.ntmps25
    go_wp2
    go_ret
    exact ⟨rfl, Below.refl _ _⟩
  · refine (last_any h.q).mono ?_
    rintro e w' ⟨rfl, rfl⟩
    exact ⟨rfl, Below.refl _ _⟩
theorem rlen {w : World} {B : Nat} {p : Option Addr} {F : List Nat} {o : Option Qs} (h : RO w B p F o) : Calls Try.prog 35 #[.pointer p] w (LkP (.int .i64 ((lenO o : Nat) : Int)) w) := by
  rcases h with ⟨rfl, rfl, rfl⟩ | ⟨g, G, s, rfl, rfl, rfl, h⟩
  · go_enter Try.func35, Try.ntmps35
    go_wp2
    go_ret
    exact ⟨rfl, Below.refl _ _⟩
  · refine (rlen_any h).mono ?_
    rintro e w' ⟨rfl, rfl⟩
    exact ⟨rfl, Below.refl _ _⟩
theorem rroom {w : World} {B : Nat} {p : Option Addr} {F : List Nat} {o : Option Qs} (h : RO w B p F o) : Calls Try.prog 36 #[.pointer p] w (LkP (.int .i64 (roomO o)) w) := by
  rcases h with ⟨rfl, rfl, rfl⟩ | ⟨g, G, s, rfl, rfl, rfl, h⟩
  · go_enter Try.func36, Try.ntmps36
    go_wp2
    go_ret
    exact ⟨rfl, Below.refl _ _⟩
  · refine (rroom_any h).mono ?_
    rintro e w' ⟨rfl, q, rfl⟩
    exact ⟨rfl, below_drewN (Below.refl _ _) q⟩
theorem rlast {w : World} {B : Nat} {p : Option Addr} {F : List Nat} {o : Option Qs} (h : RO w B p F o) : Calls Try.prog 37 #[.pointer p] w (LkP (.int .i64 (lastO o)) w) := by
  rcases h with ⟨rfl, rfl, rfl⟩ | ⟨g, G, s, rfl, rfl, rfl, h⟩
  · go_enter Try.func37, Try.ntmps37
    go_wp2
    go_ret
    exact ⟨rfl, Below.refl _ _⟩
  · refine (rlast_any h).mono ?_
    rintro e w' ⟨rfl, rfl⟩
    exact ⟨rfl, Below.refl _ _⟩
theorem qat {w : World} {B : Nat} {p : Option Addr} {F : List Nat} {o : Option Qs} (h : QO w B p F o) (i : Int) : Calls Try.prog 18 #[.pointer p, .int .i64 i] w (LkP (.tuple #[.int .i64 (atF o i).1.1, .int .i64 (atF o i).1.2, .bool (atF o i).2]) w) := by
  rcases h with ⟨rfl, rfl, rfl⟩ | ⟨g, G, s, rfl, rfl, rfl, h⟩
  · have HL : Hid (Calls Try.prog 23 #[.pointer none] w fun e w' => e = .returned (.int .i64 0) ∧ w = w') := Lib.hid (by
      go_enter Try.func23, Try.ntmps23
      go_wp2
      go_ret
      exact ⟨rfl, rfl⟩)
    have e1 : atF none i = ((0, 0), false) := rfl
    rw [e1]
    by_cases hn : i < 0
    · go_enter Try.func18, Try.ntmps18
      go_wp2
      go_ret3
      exact ⟨rfl, Below.refl _ _⟩
    · go_enter Try.func18, Try.ntmps18
      go_wp2_with (go_at_call 23; (refine HL.out.mono ?_); rintro e w' ⟨rfl, rfl⟩)
      go_ret3
      exact ⟨rfl, Below.refl _ _⟩
  · by_cases hi : i < 0 ∨ (s.l.length : Int) ≤ i
    · rw [atF_no hi]
      refine (at_no h.q hi).mono ?_
      rintro e w' ⟨rfl, rfl⟩
      exact ⟨rfl, Below.refl _ _⟩
    · obtain ⟨k, rfl⟩ : ∃ k : Nat, i = (k : Int) := ⟨i.toNat, by omega⟩
      obtain ⟨x, hx⟩ : ∃ x, s.l[k]? = some x := ⟨_, List.getElem?_eq_getElem (by omega)⟩
      rw [atF_yes (by omega) (show s.l[(k : Int).toNat]? = some x from hx)]
      refine (at_yes h.q hx).mono ?_
      rintro e w' ⟨rfl, q, rfl⟩
      exact ⟨rfl, below_drewN (Below.refl _ _) q⟩
theorem rat {w : World} {B : Nat} {p : Option Addr} {F : List Nat} {o : Option Qs} (h : RO w B p F o) (i : Int) (hf : lenO o ≤ 4611686018427387904) : Calls Try.prog 19 #[.pointer p, .int .i64 i] w (LkP (.tuple #[.int .i64 (atF o i).1.1, .int .i64 (atF o i).1.2, .bool (atF o i).2]) w) := by
  rcases h with ⟨rfl, rfl, rfl⟩ | ⟨g, G, s, rfl, rfl, rfl, h⟩
  · have e1 : atF none i = ((0, 0), false) := rfl
    rw [e1]
    clear hf
    go_enter Try.func19, Try.ntmps19
    go_wp2
    go_ret3
    exact ⟨rfl, Below.refl _ _⟩
  · by_cases hi : i < 0 ∨ (s.l.length : Int) ≤ i
    · rw [atF_no hi]
      refine (rat_no h hi).mono ?_
      rintro e w' ⟨rfl, rfl⟩
      exact ⟨rfl, Below.refl _ _⟩
    · obtain ⟨k, rfl⟩ : ∃ k : Nat, i = (k : Int) := ⟨i.toNat, by omega⟩
      obtain ⟨x, hx⟩ : ∃ x, s.l[k]? = some x := ⟨_, List.getElem?_eq_getElem (by omega)⟩
      rw [atF_yes (by omega) (show s.l[(k : Int).toNat]? = some x from hx)]
      refine (rat_yes h hx (by have : s.l.length ≤ 4611686018427387904 := hf; omega)).mono ?_
      rintro e w' ⟨rfl, q, rfl⟩
      exact ⟨rfl, below_drewN (Below.refl _ _) q⟩
def fndV : Option Nat → Value
  | some k => .tuple #[.int .i64 (k : Int), .bool true]
  | none => .tuple #[.int .i64 0, .bool false]
theorem sfind_none (f : Value) (w : World) : Calls Try.prog 30 #[.int .i64 0, f] w fun e w' => e = .returned (.tuple #[.int .i64 0, .bool false]) ∧ w = w' := by
  go_enter Try.func30, Try.ntmps30
  go_wp2
  refine wp_loop_rounds 1 ?_
  rw [rounds_succ]
  go_wp2
  go_ret2
  exact ⟨rfl, rfl⟩
theorem qfind {w : World} {B : Nat} {p : Option Addr} {F : List Nat} {o : Option Qs} (h : QO w B p F o) (id : Int) : Calls Try.prog 16 #[.pointer p, .int .i64 id] w (LkP (fndV (fndO o id)) w) := by
  rcases h with ⟨rfl, rfl, rfl⟩ | ⟨g, G, s, rfl, rfl, rfl, h⟩
  · have HL : Hid (∀ W, Calls Try.prog 23 #[.pointer none] W fun e w' => e = .returned (.int .i64 0) ∧ W = w') := Lib.hid (fun W => by
      go_enter Try.func23, Try.ntmps23
      go_wp2
      go_ret
      exact ⟨rfl, rfl⟩)
    have e1 : fndV (fndO none id) = .tuple #[.int .i64 0, .bool false] := rfl
    rw [e1]
    clear e1
    obtain ⟨w1, hw1⟩ : ∃ w1, w1 = (w.alloc (.cells #[.pointer none] 23)).alloc (.cells #[.int .i64 id] 3) := ⟨_, rfl⟩
    have hb : Below w.heap.size w w1 := by rw [hw1]; exact ((Below.refl _ w).alloc (Nat.le_refl _) _).alloc (by simp) _
    have hq : Boxed w1 w.heap.size 23 (.pointer none) := by rw [hw1]; exact (Boxed.new w _ _).alloc _
    have d0 := hq.cell
    have HE := Lib.hid hw1.symm
    have HB := Lib.hid hb
    clear hw1 hb hq
    go_enter Try.func16, Try.ntmps16
    go_upto_region 1 with (fail)
    rw [HE.out]
    go_wp2_with (first
      | (go_at_call 23; (refine (HL.out _).mono ?_); rintro e w' ⟨rfl, rfl⟩)
      | (go_at_call 30; (refine (sfind_none _ _).mono ?_); rintro e w' ⟨rfl, rfl⟩))
    go_ret2
    exact ⟨rfl, HB.out⟩
  · refine (find_any h.q id).mono ?_
    rintro e w' ⟨rfl, hb⟩
    refine ⟨?_, hb⟩
    show _ = Ending.returned (fndV (fnd id s.l))
    unfold fndV
    cases fnd id s.l <;> rfl
theorem rfind {w : World} {B : Nat} {p : Option Addr} {F : List Nat} {o : Option Qs} (h : RO w B p F o) (id : Int) (hf : lenO o ≤ 4611686018427387904) : Calls Try.prog 17 #[.pointer p, .int .i64 id] w (LkP (fndV (fndO o id)) w) := by
  rcases h with ⟨rfl, rfl, rfl⟩ | ⟨g, G, s, rfl, rfl, rfl, h⟩
  · have e1 : fndV (fndO none id) = .tuple #[.int .i64 0, .bool false] := rfl
    rw [e1]
    clear e1 hf
    go_enter Try.func17, Try.ntmps17
    go_wp2
    go_ret2
    exact ⟨rfl, Below.refl _ _⟩
  · refine (rfind_any h (by have : s.l.length ≤ 4611686018427387904 := hf; omega) id).mono ?_
    rintro e w' ⟨rfl, rfl⟩
    refine ⟨?_, Below.refl _ _⟩
    show _ = Ending.returned (fndV (fnd id s.l))
    unfold fndV
    cases fnd id s.l <;> rfl
theorem qput {w : World} {B : Nat} {p : Option Addr} {F : List Nat} {o : Option Qs} (h : QO w B p F o) (hB : B ≤ w.heap.size) (hf : lenO o ≤ 8796093022207) {id x : Int} (hid : In id) (hx : In x) :
    Calls Try.prog 12 #[.pointer p, .int .i64 id, .int .i64 x] w (TuP (.int .i64 (putEO o id)) (fun W G => QO W B p G (putSO o id x)) F w) := by
  rcases h with ⟨rfl, rfl, rfl⟩ | ⟨g, G, s, rfl, rfl, rfl, h⟩
  · clear hf hid hx
    go_enter Try.func12, Try.ntmps12
    go_wp2
    go_ret
    exact ⟨rfl, [], .inl ⟨rfl, rfl, rfl⟩, Out.refl _ _, fun b hb => .inl hb⟩
  · refine (put_any h.q hf hid hx).mono ?_
    intro e w' hq
    obtain ⟨rfl, F', h1, h2, h3, h4⟩ := h.step hB hq
    refine ⟨rfl, g :: F', .inr ⟨g, F', _, rfl, rfl, rfl, h1⟩, h3, fun b hb => ?_⟩
    rcases List.mem_cons.1 hb with rfl | hb
    · exact .inl (List.mem_cons_self ..)
    · exact (h4 b hb).imp (List.mem_cons_of_mem _) _root_.id
theorem rput {w : World} {B : Nat} {p : Option Addr} {F : List Nat} {o : Option Qs} (h : RO w B p F o) (hf : lenO o ≤ 8796093022207) {id x : Int} (hid : In id) (hx : In x) :
    Calls Try.prog 13 #[.pointer p, .int .i64 id, .int .i64 x] w (TuP (.int .i64 (putEO o id)) (fun W G => RO W B p G (putSO o id x)) F w) := by
  rcases h with ⟨rfl, rfl, rfl⟩ | ⟨g, G, s, rfl, rfl, rfl, h⟩
  · clear hf hid hx
    go_enter Try.func13, Try.ntmps13
    go_wp2
    go_ret
    exact ⟨rfl, [], .inl ⟨rfl, rfl, rfl⟩, Out.refl _ _, fun b hb => .inl hb⟩
  · refine (rput_any h hf hid hx).mono ?_
    rintro e w' ⟨rfl, F', h1, h3, h4⟩
    refine ⟨rfl, g :: F', .inr ⟨g, F', _, rfl, rfl, rfl, h1⟩, h3, fun b hb => ?_⟩
    rcases List.mem_cons.1 hb with rfl | hb
    · exact .inl (List.mem_cons_self ..)
    · exact (h4 b hb).imp (List.mem_cons_of_mem _) _root_.id
theorem qtake {w : World} {B : Nat} {p : Option Addr} {F : List Nat} {o : Option Qs} (h : QO w B p F o) (hB : B ≤ w.heap.size) (id : Int) :
    Calls Try.prog 14 #[.pointer p, .int .i64 id] w (TuP (.tuple #[.int .i64 (takeXO o id), .int .i64 (takeEO o id)]) (fun W G => QO W B p G (takeSO o id)) F w) := by
  rcases h with ⟨rfl, rfl, rfl⟩ | ⟨g, G, s, rfl, rfl, rfl, h⟩
  · go_enter Try.func14, Try.ntmps14
    go_wp2
    go_ret2
    exact ⟨rfl, [], .inl ⟨rfl, rfl, rfl⟩, Out.refl _ _, fun b hb => .inl hb⟩
  · refine (take_any h.q id).mono ?_
    intro e w' hq
    obtain ⟨rfl, F', h1, h2, h3, h4⟩ := h.step hB hq
    refine ⟨rfl, g :: F', .inr ⟨g, F', _, rfl, rfl, rfl, h1⟩, h3, fun b hb => ?_⟩
    rcases List.mem_cons.1 hb with rfl | hb
    · exact .inl (List.mem_cons_self ..)
    · exact (h4 b hb).imp (List.mem_cons_of_mem _) _root_.id
theorem rtake {w : World} {B : Nat} {p : Option Addr} {F : List Nat} {o : Option Qs} (h : RO w B p F o) (hf : lenO o ≤ 8796093022207) (id : Int) :
    Calls Try.prog 15 #[.pointer p, .int .i64 id] w (TuP (.tuple #[.int .i64 (takeXO o id), .int .i64 (takeEO o id)]) (fun W G => RO W B p G (takeSO o id)) F w) := by
  rcases h with ⟨rfl, rfl, rfl⟩ | ⟨g, G, s, rfl, rfl, rfl, h⟩
  · clear hf
    go_enter Try.func15, Try.ntmps15
    go_wp2
    go_ret2
    exact ⟨rfl, [], .inl ⟨rfl, rfl, rfl⟩, Out.refl _ _, fun b hb => .inl hb⟩
  · refine (rtake_any h hf id).mono ?_
    rintro e w' ⟨rfl, F', h1, h3, h4⟩
    refine ⟨rfl, g :: F', .inr ⟨g, F', _, rfl, rfl, rfl, h1⟩, h3, fun b hb => ?_⟩
    rcases List.mem_cons.1 hb with rfl | hb
    · exact .inl (List.mem_cons_self ..)
    · exact (h4 b hb).imp (List.mem_cons_of_mem _) _root_.id
theorem qcopy {w : World} {B : Nat} {p : Option Addr} {F : List Nat} {o : Option Qs} (h : QO w B p F o) (hB : B ≤ w.heap.size) (hf : lenO o ≤ 8796093022207) :
    Calls Try.prog 10 #[.pointer p] w fun e w' => ∃ p' F', e = .returned (.pointer p') ∧ QO w' B p' F' o ∧ Below w.heap.size w w' ∧ (p' = none ↔ o = none) ∧ ∀ b ∈ F', w.heap.size ≤ b := by
  rcases h with ⟨rfl, rfl, rfl⟩ | ⟨g, G, s, rfl, rfl, rfl, h⟩
  · clear hf
    go_enter Try.func10, Try.ntmps10
    go_wp2
    go_ret
    exact ⟨none, [], rfl, .inl ⟨rfl, rfl, rfl⟩, Below.refl _ _, by simp, fun b hb => by cases hb⟩
  · refine (copy_any h.q (by have : s.l.length ≤ 8796093022207 := hf; omega)).mono ?_
    rintro e w' ⟨g', F', rfl, h1, h2, h3⟩
    exact ⟨some ⟨g', 0, none⟩, g' :: F', rfl, .inr ⟨g', F', s, rfl, rfl, rfl, h1, fun b hb => Nat.le_trans hB (h3 b hb)⟩, h2, by simp, h3⟩
theorem rcopy {w : World} {B : Nat} {p : Option Addr} {F : List Nat} {o : Option Qs} (h : RO w B p F o) (hf : lenO o ≤ 8796093022207) :
    Calls Try.prog 11 #[.pointer p] w fun e w' => ∃ p' F', e = .returned (.pointer p') ∧ RO w' B p' F' o ∧ Below w.heap.size w w' ∧ (p' = none ↔ o = none) ∧ ∀ b ∈ F', w.heap.size ≤ b := by
  rcases h with ⟨rfl, rfl, rfl⟩ | ⟨g, G, s, rfl, rfl, rfl, h⟩
  · clear hf
    go_enter Try.func11, Try.ntmps11
    go_wp2
    go_ret
    exact ⟨none, [], rfl, .inl ⟨rfl, rfl, rfl⟩, Below.refl _ _, by simp, fun b hb => by cases hb⟩
  · refine (rcopy_any h hf).mono ?_
    rintro e w' ⟨g', F', rfl, h1, h2, h3⟩
    exact ⟨some ⟨g', 0, none⟩, g' :: F', rfl, .inr ⟨g', F', s, rfl, rfl, rfl, h1⟩, h2, by simp, h3⟩
end Go.Proofs.Ytpemdfdmnbhpjaa
