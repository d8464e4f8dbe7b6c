/- Payloads and messages, plain: what bytes begin with, forms; a row of messages. -/
import Derived.Test.YtloofajopgbfmaaWiPlain
namespace Go.Proofs.Ytloofajopgbfmaa
set_option linter.all false

def sizeV (v : V9) : Nat := if v.kd = 4 then v.tx.length else if v.kd = 3 then 16 else 8
def sizeP (l : List V9) : Nat := (l.map sizeV).sum
def formVs (l : List V9) : List UInt8 := l.flatMap formV
def formP (l : List V9) : List UInt8 := UInt8.ofNat l.length :: formVs l
def rdVs : Nat → List UInt8 → Option (List V9 × Nat)
  | 0, _ => some ([], 0)
  | n + 1, l => (rdV l).bind fun a => (rdVs n (l.drop a.2)).bind fun b => some (a.1 :: b.1, a.2 + b.2)
def rdP (l : List UInt8) : Option (List V9 × Nat) :=
  match l with
  | [] => none
  | c :: r => if 6 < c.toNat then none else (rdVs c.toNat r).bind fun a => if 1024 < sizeP a.1 then none else some (a.1, 1 + a.2)
structure M9 where
  id : Nat
  tag : List UInt8
  vs : List V9
def formM (m : M9) : List UInt8 := beW 4 m.id ++ (UInt8.ofNat m.tag.length :: (m.tag ++ formP m.vs))
def rdM (l : List UInt8) : Option (M9 × Nat) :=
  if l.length < 5 then none
  else if 1048575 < numW (l.take 4) then none
  else if (l.getD 4 0).toNat < 1 ∨ 32 < (l.getD 4 0).toNat then none
  else if l.length - 5 < (l.getD 4 0).toNat then none
  else (rdP (l.drop (5 + (l.getD 4 0).toNat))).bind fun a => some (⟨numW (l.take 4), (l.drop 5).take (l.getD 4 0).toNat, a.1⟩, 5 + (l.getD 4 0).toNat + a.2)
theorem rdVs_form : ∀ (n : Nat) (l : List UInt8) (vs : List V9) (k : Nat), rdVs n l = some (vs, k) → k ≤ l.length ∧ formVs vs = l.take k ∧ (∀ v ∈ vs, Plain9 v) ∧ vs.length = n := by
  intro n
  induction n with
  | zero =>
    intro l vs k h
    simp only [rdVs, Option.some.injEq, Prod.mk.injEq] at h
    obtain ⟨rfl, rfl⟩ := h
    exact ⟨Nat.zero_le _, by simp [formVs], fun v hv => (by cases hv), rfl⟩
  | succ n ih =>
    intro l vs k h
    simp only [rdVs, Option.bind_eq_some_iff] at h
    obtain ⟨⟨v, a⟩, hv, ⟨xs, b⟩, hx, he⟩ := h
    simp only [Option.some.injEq, Prod.mk.injEq] at he
    obtain ⟨rfl, rfl⟩ := he
    obtain ⟨h1, h2, h3, _⟩ := rdV_form hv
    obtain ⟨g1, g2, g3, g4⟩ := ih _ _ _ hx
    simp only [List.length_drop] at g1
    refine ⟨by omega, ?_, ?_, by simp [g4]⟩
    · rw [List.take_add, ← h2, ← g2]
      simp [formVs]
    · intro y hy
      rcases List.mem_cons.1 hy with rfl | hy
      · exact h3
      · exact g3 y hy
/-- a payload that may be, its values plain -/
structure PlainP (l : List V9) : Prop where
  all : ∀ v ∈ l, Plain9 v
  few : l.length ≤ 6
  size : sizeP l ≤ 1024
theorem rdP_form {l : List UInt8} {vs : List V9} {k : Nat} (h : rdP l = some (vs, k)) : k ≤ l.length ∧ formP vs = l.take k ∧ PlainP vs ∧ 0 < k := by
  unfold rdP at h
  cases l with
  | nil => cases h
  | cons c r =>
    simp only at h
    by_cases h6 : 6 < c.toNat
    · rw [if_pos h6] at h; cases h
    · rw [if_neg h6, Option.bind_eq_some_iff] at h
      obtain ⟨⟨xs, a⟩, hx, he⟩ := h
      simp only at he
      by_cases hs : 1024 < sizeP xs
      · rw [if_pos hs] at he; cases he
      · rw [if_neg hs] at he
        simp only [Option.some.injEq, Prod.mk.injEq] at he
        obtain ⟨rfl, rfl⟩ := he
        obtain ⟨h1, h2, h3, h4⟩ := rdVs_form _ _ _ _ hx
        refine ⟨by simp; omega, ?_, ⟨h3, by omega, by omega⟩, by omega⟩
        rw [Nat.add_comm 1 a, List.take_succ_cons, formP, h2, h4]
        congr 1
        exact UInt8.ofNat_toNat
structure PlainM (m : M9) : Prop where
  id : m.id ≤ 1048575
  tag : 1 ≤ m.tag.length ∧ m.tag.length ≤ 32
  vs : PlainP m.vs
theorem rdM_form {l : List UInt8} {m : M9} {k : Nat} (h : rdM l = some (m, k)) : k ≤ l.length ∧ formM m = l.take k ∧ PlainM m ∧ 0 < k := by
  unfold rdM at h
  by_cases h5 : l.length < 5
  · rw [if_pos h5] at h; cases h
  rw [if_neg h5] at h
  by_cases hid : 1048575 < numW (l.take 4)
  · rw [if_pos hid] at h; cases h
  rw [if_neg hid] at h
  by_cases ht : (l.getD 4 0).toNat < 1 ∨ 32 < (l.getD 4 0).toNat
  · rw [if_pos ht] at h; cases h
  rw [if_neg ht] at h
  by_cases hl : l.length - 5 < (l.getD 4 0).toNat
  · rw [if_pos hl] at h; cases h
  rw [if_neg hl, Option.bind_eq_some_iff] at h
  obtain ⟨⟨xs, a⟩, hx, he⟩ := h
  simp only [Option.some.injEq, Prod.mk.injEq] at he
  obtain ⟨rfl, rfl⟩ := he
  obtain ⟨h1, h2, h3, h4⟩ := rdP_form hx
  simp only [List.length_drop] at h1
  have hn : (l.getD 4 0) = l[4]'(by omega) := by
    rw [List.getD_eq_getElem?_getD, List.getElem?_eq_getElem (by omega)]
    rfl
  have ht4 : (l.take 4).length = 4 := take_len (by omega)
  generalize hc : l.getD 4 0 = c at *
  have htl : ((l.drop 5).take c.toNat).length = c.toNat := take_len (by simp; omega)
  refine ⟨by omega, ?_, ⟨by show numW (l.take 4) ≤ 1048575; omega, by show 1 ≤ ((l.drop 5).take c.toNat).length ∧ _; rw [htl]; exact ⟨by omega, by omega⟩, h3⟩, by omega⟩
  have e := beW_num (l.take 4)
  rw [ht4] at e
  show beW 4 (numW (l.take 4)) ++ (UInt8.ofNat ((l.drop 5).take c.toNat).length :: ((l.drop 5).take c.toNat ++ formP xs)) = _
  rw [e, h2, htl, show UInt8.ofNat c.toNat = c from UInt8.ofNat_toNat]
  rw [show 5 + c.toNat + a = 4 + (1 + (c.toNat + a)) by omega, List.take_add, List.take_add (l := l.drop 4), List.take_add (l := (l.drop 4).drop 1)]
  have h41 : (l.drop 4).take 1 = [c] := by
    rw [List.drop_eq_getElem_cons (by omega : 4 < l.length), hn]
    rfl
  rw [h41]
  simp only [List.drop_drop]
  rw [show 4 + 1 = 5 from rfl]
  rfl
/-- a row of messages, each with the place behind it (fuel: as many as there may be) -/
def rdR : Nat → Nat → List UInt8 → List (M9 × Nat)
  | 0, _, _ => []
  | f + 1, at9, l => match rdM l with
    | none => []
    | some (m, k) => (m, at9 + k) :: rdR f (at9 + k) (l.drop k)
end Go.Proofs.Ytloofajopgbfmaa
