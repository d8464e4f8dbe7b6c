/- Queue, plain: places that go round; a queue as a list of numbers and things. -/
import Derived.Test.YtpemdfdmnbhpjaaQuKit
set_option linter.all false
namespace Go.Proofs.Ytpemdfdmnbhpjaa
/-- a thing behind its number -/
abbrev It := Int × Int
/-- two cells, stored at a slot -/
def put2 (cs : List Value) (s : Nat) (v0 v1 : Value) : List Value := (cs.set (s * 2) v0).set (s * 2 + 1) v1
theorem put2_len (cs : List Value) (s : Nat) (v0 v1 : Value) : (put2 cs s v0 v1).length = cs.length := by simp [put2]
theorem put2_other (cs : List Value) (s t : Nat) (v0 v1 : Value) (h : t ≠ s) : (put2 cs s v0 v1)[t * 2]? = cs[t * 2]? ∧ (put2 cs s v0 v1)[t * 2 + 1]? = cs[t * 2 + 1]? := by
  unfold put2
  constructor
  · rw [List.getElem?_set_ne (by omega), List.getElem?_set_ne (by omega)]
  · rw [List.getElem?_set_ne (by omega), List.getElem?_set_ne (by omega)]
theorem put2_same (cs : List Value) (s : Nat) (v0 v1 : Value) (h : s * 2 + 1 < cs.length) : (put2 cs s v0 v1)[s * 2]? = some v0 ∧ (put2 cs s v0 v1)[s * 2 + 1]? = some v1 := by
  unfold put2
  constructor
  · rw [List.getElem?_set_ne (by omega), List.getElem?_set_self (by omega)]
  · rw [List.getElem?_set_self (by simp; omega)]
/-- the slot that has k others ahead of it -/
def slot (n first k : Nat) : Nat := (first + k) % n
theorem slot_lt {n first k : Nat} (h : 0 < n) : slot n first k < n := Nat.mod_lt _ h
theorem slot_eq {n first k : Nat} (h1 : first < n) (h2 : k < n) : slot n first k = if first + k < n then first + k else first + k - n := by
  unfold slot
  split
  · exact Nat.mod_eq_of_lt (by assumption)
  · rw [Nat.mod_eq_sub_mod (by omega), Nat.mod_eq_of_lt (by omega)]
theorem slot_inj {n first k j : Nat} (h1 : first < n) (h2 : k < n) (h3 : j < n) (h : slot n first k = slot n first j) : k = j := by
  rw [slot_eq h1 h2, slot_eq h1 h3] at h
  split at h <;> split at h <;> omega
theorem slot_next {n first k : Nat} (h1 : first < n) : slot n (slot n first 1) k = slot n first (k + 1) := by
  unfold slot
  rw [Nat.mod_add_mod]
  congr 1
  omega
theorem slot_zero {n first : Nat} (h1 : first < n) : slot n first 0 = first := by
  unfold slot
  exact Nat.mod_eq_of_lt h1
/-- what stands in the places, from the first on -/
structure Rg (cs : List Value) (n first : Nat) (L : List It) : Prop where
  pos : first < n
  few : L.length ≤ n
  room : n * 2 ≤ cs.length
  at0 : ∀ k it, L[k]? = some it → cs[slot n first k * 2]? = some (.int .i64 it.1)
  at1 : ∀ k it, L[k]? = some it → cs[slot n first k * 2 + 1]? = some (.int .i64 it.2)
theorem get_lt {α : Type} {L : List α} {k : Nat} {x : α} (h : L[k]? = some x) : k < L.length := (List.getElem?_eq_some_iff.1 h).1
/-- a slot is written: what stands elsewhere stays -/
theorem Rg.put {cs : List Value} {n first : Nat} {L L' : List It} (h : Rg cs n first L) {k : Nat} (hk : k < n) (it : It) (hl : L'.length ≤ n) (ho : ∀ j x, j ≠ k → L'[j]? = some x → L[j]? = some x) (hs : ∀ x, L'[k]? = some x → x = it) :
    Rg (put2 cs (slot n first k) (.int .i64 it.1) (.int .i64 it.2)) n first L' := by
  have hsl := slot_lt (first := first) (k := k) (show 0 < n by omega)
  have hb : slot n first k * 2 + 1 < cs.length := by have := h.room; omega
  obtain ⟨s0, s1⟩ := put2_same cs (slot n first k) (.int .i64 it.1) (.int .i64 it.2) hb
  refine ⟨h.pos, hl, by rw [put2_len]; exact h.room, fun j x hj => ?_, fun j x hj => ?_⟩
  · by_cases e : j = k
    · subst e
      rw [hs x hj]; exact s0
    · have hjn : j < n := by have := get_lt hj; omega
      rw [(put2_other cs _ _ _ _ (fun e2 => e (slot_inj h.pos hjn hk e2))).1]
      exact h.at0 j x (ho j x e hj)
  · by_cases e : j = k
    · subst e
      rw [hs x hj]; exact s1
    · have hjn : j < n := by have := get_lt hj; omega
      rw [(put2_other cs _ _ _ _ (fun e2 => e (slot_inj h.pos hjn hk e2))).2]
      exact h.at1 j x (ho j x e hj)
theorem Rg.set {cs : List Value} {n first : Nat} {L : List It} (h : Rg cs n first L) {k : Nat} (hk : k < L.length) (it : It) : Rg (put2 cs (slot n first k) (.int .i64 it.1) (.int .i64 it.2)) n first (L.set k it) := by
  refine h.put (by have := h.few; omega) it (by simpa using h.few) (fun j x hj hx => ?_) (fun x hx => ?_)
  · rwa [List.getElem?_set_ne (Ne.symm hj)] at hx
  · rw [List.getElem?_set_self hk] at hx
    exact (Option.some.inj hx).symm
theorem Rg.add {cs : List Value} {n first : Nat} {L : List It} (h : Rg cs n first L) (hk : L.length < n) (it : It) : Rg (put2 cs (slot n first L.length) (.int .i64 it.1) (.int .i64 it.2)) n first (L ++ [it]) := by
  refine h.put hk it (by simp; omega) (fun j x hj hx => ?_) (fun x hx => ?_)
  · have := get_lt hx
    simp at this
    rwa [List.getElem?_append_left (by omega)] at hx
  · simp at hx
    exact hx.symm
theorem Rg.first {cs : List Value} {n first : Nat} {L : List It} (h : Rg cs n first L) (it : It) : Rg (put2 cs (slot n first 0) (.int .i64 it.1) (.int .i64 it.2)) n (slot n first 1) (L.drop 1) := by
  have hn : 0 < n := by have := h.pos; omega
  have hsl := slot_lt (first := first) (k := 0) hn
  have hb : slot n first 0 * 2 + 1 < cs.length := by have := h.room; omega
  refine ⟨slot_lt hn, by have := h.few; simp; omega, by rw [put2_len]; exact h.room, fun j x hj => ?_, fun j x hj => ?_⟩
  · rw [List.getElem?_drop, Nat.add_comm] at hj
    have hjn : j + 1 < n := by have := get_lt hj; have := h.few; omega
    rw [slot_next h.pos, (put2_other cs _ _ _ _ (fun e2 => by have := slot_inj h.pos hjn (by omega) e2; omega)).1]
    exact h.at0 _ x hj
  · rw [List.getElem?_drop, Nat.add_comm] at hj
    have hjn : j + 1 < n := by have := get_lt hj; have := h.few; omega
    rw [slot_next h.pos, (put2_other cs _ _ _ _ (fun e2 => by have := slot_inj h.pos hjn (by omega) e2; omega)).2]
    exact h.at1 _ x hj
theorem Rg.last {cs : List Value} {n first : Nat} {L : List It} (h : Rg cs n first L) {m : Nat} (hm : L.length = m + 1) (it : It) : Rg (put2 cs (slot n first m) (.int .i64 it.1) (.int .i64 it.2)) n first (L.take m) := by
  refine h.put (by have := h.few; omega) it (by have := h.few; simp; omega) (fun j x hj hx => ?_) (fun x hx => ?_)
  · have := get_lt hx
    simp at this
    rwa [List.getElem?_take_of_lt (by omega)] at hx
  · have := get_lt hx
    simp at this
    omega
/-- the items as cells -/
def cellsQ (L : List It) : List Value := L.flatMap fun x => [.int .i64 x.1, .int .i64 x.2]
theorem cellsQ_len : ∀ L : List It, (cellsQ L).length = L.length * 2
  | [] => rfl
  | x :: L => by
    have := cellsQ_len L
    unfold cellsQ at this ⊢
    rw [List.flatMap_cons, List.length_append, this, List.length_cons, List.length_cons, List.length_cons, List.length_nil]
    omega
theorem cellsQ_snoc (L : List It) (x : It) : cellsQ (L ++ [x]) = cellsQ L ++ [.int .i64 x.1, .int .i64 x.2] := by simp [cellsQ]
theorem cellsQ_one (L : List It) : ∀ u ∈ cellsQ L, u.oneCell' = true := by
  intro u hu
  unfold cellsQ at hu
  rw [List.mem_flatMap] at hu
  obtain ⟨v, _, hv⟩ := hu
  simp only [List.mem_cons, List.mem_nil_iff, or_false] at hv
  rcases hv with rfl | rfl <;> rfl
theorem cellsQ_at : ∀ {L : List It} {k : Nat} {x : It}, L[k]? = some x → (cellsQ L)[k * 2]? = some (.int .i64 x.1) ∧ (cellsQ L)[k * 2 + 1]? = some (.int .i64 x.2)
  | [], k, x, h => by simp at h
  | v :: L, 0, x, h => by
    simp at h
    subst h
    exact ⟨rfl, rfl⟩
  | v :: L, k + 1, x, h => by
    have := cellsQ_at (L := L) (k := k) (x := x) (by simpa using h)
    unfold cellsQ at this ⊢
    rw [List.flatMap_cons, List.getElem?_append_right (by simp; omega), List.getElem?_append_right (by simp; omega)]
    rw [show (k + 1) * 2 - List.length [Value.int IntKind.i64 v.1, .int .i64 v.2] = k * 2 by simp; omega, show (k + 1) * 2 + 1 - List.length [Value.int IntKind.i64 v.1, .int .i64 v.2] = k * 2 + 1 by simp; omega]
    exact this
/-- laid from the beginning on -/
theorem Rg.laid {cs : List Value} {n : Nat} {L : List It} (hn : 0 < n) (hl : L.length ≤ n) (hr : n * 2 ≤ cs.length) (ht : cs.take (L.length * 2) = cellsQ L) : Rg cs n 0 L := by
  have h0 : ∀ k, k < L.length → slot n 0 k = k := fun k hk => by unfold slot; rw [Nat.zero_add]; exact Nat.mod_eq_of_lt (by omega)
  have hc : ∀ j u, (cellsQ L)[j]? = some u → cs[j]? = some u := fun j u hu => by
    have hj := get_lt hu
    rw [cellsQ_len] at hj
    rw [← ht, List.getElem?_take_of_lt hj] at hu
    exact hu
  refine ⟨hn, hl, hr, fun k it hk => ?_, fun k it hk => ?_⟩
  · rw [h0 k (get_lt hk)]; exact hc _ _ (cellsQ_at hk).1
  · rw [h0 k (get_lt hk)]; exact hc _ _ (cellsQ_at hk).2

/-- a queue: what it holds at most, the last number, the items -/
structure Qs where
  most : Int
  last : Int
  l : List It
/-- the place of a number -/
def fnd (id : Int) : List It → Option Nat
  | [] => none
  | x :: r => if x.1 = id then some 0 else (fnd id r).map (· + 1)
theorem fnd_some {id : Int} : ∀ {l : List It} {k : Nat}, fnd id l = some k → ∃ x, l[k]? = some (id, x) ∧ ∀ (j : Nat) (y : It), j < k → l[j]? = some y → y.1 ≠ id
  | [], k, h => by simp [fnd] at h
  | v :: l, k, h => by
    unfold fnd at h
    split at h
    · simp at h
      subst h
      rename_i he
      exact ⟨v.2, by subst he; rfl, fun j y hj => by omega⟩
    · rename_i he
      obtain ⟨k', hk', rfl⟩ := Option.map_eq_some_iff.1 h
      obtain ⟨x, h1, h2⟩ := fnd_some hk'
      refine ⟨x, by simpa using h1, fun j y hj hy => ?_⟩
      cases j with
      | zero => simp at hy; subst hy; exact he
      | succ j => exact h2 j y (by omega) (by simpa using hy)
theorem fnd_none {id : Int} : ∀ {l : List It}, fnd id l = none → ∀ (j : Nat) (y : It), l[j]? = some y → y.1 ≠ id
  | [], _, j, y, hy => by simp at hy
  | v :: l, h, j, y, hy => by
    unfold fnd at h
    split at h
    · simp at h
    · rename_i he
      cases j with
      | zero => simp at hy; subst hy; exact he
      | succ j => exact fnd_none (by simpa using h) j y (by simpa using hy)
theorem fnd_at {id x : Int} : ∀ {l : List It} {k : Nat}, l[k]? = some (id, x) → (∀ (j : Nat) (y : It), j < k → l[j]? = some y → y.1 ≠ id) → fnd id l = some k
  | [], k, h, _ => by simp at h
  | v :: l, 0, h, _ => by
    simp at h
    subst h
    simp [fnd]
  | v :: l, k + 1, h, h2 => by
    have := fnd_at (l := l) (k := k) (by simpa using h) (fun j y hj hy => h2 (j + 1) y (by omega) (by simpa using hy))
    unfold fnd
    rw [if_neg (h2 0 v (by omega) rfl), this]
    rfl
theorem fnd_no {id : Int} {l : List It} (h : ∀ (j : Nat) (y : It), l[j]? = some y → y.1 ≠ id) : fnd id l = none := by
  cases hf : fnd id l with
  | none => rfl
  | some k =>
    obtain ⟨x, h1, _⟩ := fnd_some hf
    exact absurd rfl (h k _ h1)
/-- numbers rise -/
abbrev Rise (l : List It) : Prop := ∀ (i j : Nat) (x y : It), i < j → l[i]? = some x → l[j]? = some y → x.1 < y.1
/-- a queue as calls leave it -/
structure Wf (s : Qs) : Prop where
  most : 1 ≤ s.most ∧ s.most ≤ 9223372036854775807
  last : -1 ≤ s.last ∧ s.last ≤ 9223372036854775807
  few : (s.l.length : Int) ≤ s.most
  rise : Rise s.l
  top : ∀ (k : Nat) (x : It), s.l[k]? = some x → x.1 ≤ s.last
  ins : ∀ (k : Nat) (x : It), s.l[k]? = some x → In x.1 ∧ In x.2
def newQ (most : Int) : Qs := ⟨most, -1, []⟩
theorem wf_new {most : Int} (h : 1 ≤ most) (h2 : most ≤ 9223372036854775807) : Wf (newQ most) :=
  ⟨⟨h, h2⟩, ⟨by simp [newQ], by simp [newQ]⟩, by simp [newQ]; omega, fun i j x y _ h => (by cases h), fun k x h => (by cases h), fun k x h => (by cases h)⟩
/-- what Put answers, and what there is then -/
def putE (s : Qs) (id : Int) : Int := if id ≤ s.last then 2 else if s.most ≤ s.l.length then 120 else 0
def putS (s : Qs) (id x : Int) : Qs := if putE s id = 0 then ⟨s.most, id, s.l ++ [(id, x)]⟩ else s
theorem wf_put {s : Qs} (h : Wf s) {id x : Int} (h1 : In id) (h2 : In x) : Wf (putS s id x) := by
  unfold putS
  split
  · rename_i he
    unfold putE at he
    split at he
    · simp at he
    split at he
    · simp at he
    rename_i hi hm
    obtain ⟨⟨m1, m2⟩, ⟨l1, l2⟩, f, r, t, i⟩ := h
    unfold In at h1
    have hlast : ∀ (k : Nat) (y : It), (s.l ++ [(id, x)])[k]? = some y → (k < s.l.length ∧ s.l[k]? = some y) ∨ (k = s.l.length ∧ y = (id, x)) := fun k y hy => by
      rcases Nat.lt_or_ge k s.l.length with h | h
      · rw [List.getElem?_append_left h] at hy
        exact .inl ⟨h, hy⟩
      · rw [List.getElem?_append_right h] at hy
        have := get_lt hy
        simp at this
        have e : k = s.l.length := by omega
        subst e
        simp at hy
        exact .inr ⟨rfl, hy.symm⟩
    refine ⟨⟨m1, m2⟩, ⟨(by show -1 ≤ id; omega), (by show id ≤ 9223372036854775807; omega)⟩, by simp; omega, fun a b u v hab ha hb => ?_, fun k y hy => ?_, fun k y hy => ?_⟩
    · rcases hlast b v hb with ⟨hb1, hb2⟩ | ⟨rfl, rfl⟩
      · rcases hlast a u ha with ⟨ha1, ha2⟩ | ⟨rfl, rfl⟩
        · exact r a b u v hab ha2 hb2
        · omega
      · rcases hlast a u ha with ⟨ha1, ha2⟩ | ⟨rfl, rfl⟩
        · have := t a u ha2
          show u.1 < id
          omega
        · omega
    · rcases hlast k y hy with ⟨_, h⟩ | ⟨_, rfl⟩
      · have := t k y h
        show y.1 ≤ id
        omega
      · exact Int.le_refl id
    · rcases hlast k y hy with ⟨_, h⟩ | ⟨_, rfl⟩
      · exact i k y h
      · exact ⟨h1, h2⟩
  · exact h
/-- what Take answers, and what there is then -/
def takeX (s : Qs) (id : Int) : Int := match fnd id s.l with
  | none => 0
  | some k => (s.l.getD k (0, 0)).2
def takeE (s : Qs) (id : Int) : Int := match fnd id s.l with
  | none => 121
  | some _ => 0
def takeS (s : Qs) (id : Int) : Qs := match fnd id s.l with
  | none => s
  | some k => ⟨s.most, s.last, s.l.eraseIdx k⟩
theorem erase_at {l : List It} {k j : Nat} {y : It} (h : (l.eraseIdx k)[j]? = some y) : l[if j < k then j else j + 1]? = some y := by
  rw [List.getElem?_eraseIdx] at h
  split at h <;> rename_i hj
  · rw [if_pos hj]; exact h
  · rw [if_neg hj]; exact h
theorem wf_take {s : Qs} (h : Wf s) (id : Int) : Wf (takeS s id) := by
  unfold takeS
  split
  · exact h
  · obtain ⟨m, la, f, r, t, i⟩ := h
    refine ⟨m, la, ?_, fun a b u v hab ha hb => ?_, fun k y hy => t _ _ (erase_at hy), fun k y hy => i _ _ (erase_at hy)⟩
    · have := List.length_eraseIdx_le s.l ‹Nat›
      show ((s.l.eraseIdx _).length : Int) ≤ s.most
      omega
    · refine r _ _ u v ?_ (erase_at ha) (erase_at hb)
      split <;> split <;> omega
end Go.Proofs.Ytpemdfdmnbhpjaa
