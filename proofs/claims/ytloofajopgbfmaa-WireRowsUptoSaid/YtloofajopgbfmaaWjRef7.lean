/- Wire, the reference's reading of a value, whatever stands there. -/
import Derived.Test.YtloofajopgbfmaaWjRef5
import Derived.Test.YtloofajopgbfmaaWjRef6
namespace Go.Proofs.Ytloofajopgbfmaa
set_option linter.all false
open Go.RowKit
set_option maxRecDepth 100000
/-- what a value's reading answers, from a place on -/
def valR (l : List UInt8) (k : Nat) : V9 × Option Nat :=
  match rdV (l.drop k) with
  | some (v, m) => (v, some (k + m))
  | none => (zero9, none)
theorem valR_some {l : List UInt8} {k m : Nat} {v : V9} (h : rdV (l.drop k) = some (v, m)) : valR l k = (v, some (k + m)) := by unfold valR; rw [h]
theorem valR_none {l : List UInt8} {k : Nat} (h : rdV (l.drop k) = none) : valR l k = (zero9, none) := by unfold valR; rw [h]
theorem nuR_yes {l : List UInt8} {n k z : Nat} (h : k + z ≤ n) : nuR l n (some k) z = (numW ((l.drop k).take z), some (k + z)) := by unfold nuR; simp only; rw [if_pos h]
theorem nuR_no {l : List UInt8} {n k z : Nat} (h : n < k + z) : nuR l n (some k) z = (0, none) := by unfold nuR; simp only; rw [if_neg (by omega)]
theorem nuR_none (l : List UInt8) (n z : Nat) : nuR l n none z = (0, none) := rfl
theorem reR_none (l : List UInt8) (n : Nat) : reR l n none = (0, none) := by unfold reR; rw [nuR_none]; simp
theorem reR_no {l : List UInt8} {n k : Nat} (h : n < k + 8) : reR l n (some k) = (0, none) := by unfold reR; rw [nuR_no h]; simp
theorem reR_yes {l : List UInt8} {n k : Nat} (h : k + 8 ≤ n) : reR l n (some k) = (numW ((l.drop k).take 8), if okR (numW ((l.drop k).take 8)) then some (k + 8) else none) := by unfold reR; rw [nuR_yes h]
theorem refValue_any (p k : Nat) (a : Option Addr) (n cap : Nat) (l : List UInt8) (w : World) (h : RSt w p a n cap l (some k)) : Calls Try.prog 10 #[.pointer (some ⟨p, 0, none⟩)] w (VaA w p a n cap l (valR l k)) := by
  have hln := h.txt.1
  have hk := h.at.2
  rcases Nat.lt_or_ge n (k + 1) with h1 | h1
  · have hd : l.drop k = [] := List.drop_eq_nil_of_le (by omega)
    rw [valR_none (by rw [hd]; rfl)]
    exact refValue_else p k a n cap l w h 0 none (nuR_no h1) (.inl rfl) (by omega)
  · have hd : l.drop k = l[k]'(by omega) :: l.drop (k + 1) := List.drop_eq_getElem_cons (by omega)
    have hrl : (l.drop (k + 1)).length = n - (k + 1) := by rw [List.length_drop, hln]
    generalize hc : l[k]'(by omega) = c at *
    have hq : nuR l n (some k) 1 = (c.toNat, some (k + 1)) := by rw [nuR_yes h1, hd]; simp [numW]
    have hr8 : 8 ≤ (l.drop (k + 1)).length → nuR l n (some (k + 1)) 8 = (numW ((l.drop (k + 1)).take 8), some (k + 1 + 8)) := fun h8 => nuR_yes (by omega)
    by_cases c1 : c = 1
    · subst c1
      rcases Nat.lt_or_ge (l.drop (k + 1)).length 8 with h8 | h8
      · rw [valR_none (show rdV (l.drop k) = none by rw [hd]; simp only [rdV]; simp only [if_pos h8]; rfl)]
        exact refValue_int p k a n cap l w h 0 none hq (nuR_no (by omega)) (by decide) (fun e => absurd rfl e)
      · have hrd : rdV (l.drop k) = some (⟨1, intW (numW ((l.drop (k + 1)).take 8)), 0, 0, 0, []⟩, 9) := by rw [hd]; simp only [rdV]; simp only [if_neg (show ¬ (l.drop (k + 1)).length < 8 by omega)]; rfl
        rw [valR_some hrd]
        exact refValue_int p k a n cap l w h _ _ hq (hr8 h8) (numW_lt8 (by rw [List.length_take]; omega)) (fun _ => (rdV_form hrd).2.2.1)
    by_cases c2 : c = 2
    · subst c2
      rcases Nat.lt_or_ge (l.drop (k + 1)).length 8 with h8 | h8
      · rw [valR_none (show rdV (l.drop k) = none by rw [hd]; simp only [rdV]; simp only [if_pos h8]; rfl)]
        exact refValue_real p k a n cap l w h 0 none hq (reR_no (by omega)) (fun e => absurd rfl e)
      · cases ho : okR (numW ((l.drop (k + 1)).take 8)) with
        | false =>
          rw [valR_none (show rdV (l.drop k) = none by rw [hd]; simp only [rdV]; simp only [if_neg (show ¬ (l.drop (k + 1)).length < 8 by omega), ho]; rfl)]
          exact refValue_real p k a n cap l w h _ none hq (by rw [reR_yes (by omega), ho]; rfl) (fun e => absurd rfl e)
        | true =>
          have hrd : rdV (l.drop k) = some (⟨2, 0, numW ((l.drop (k + 1)).take 8), 0, 0, []⟩, 9) := by rw [hd]; simp only [rdV]; simp only [if_neg (show ¬ (l.drop (k + 1)).length < 8 by omega), ho]; rfl
          rw [valR_some hrd]
          exact refValue_real p k a n cap l w h _ (some (k + 9)) hq (by rw [reR_yes (by omega), ho]; rfl) (fun _ => (rdV_form hrd).2.2.1)
    by_cases c3 : c = 3
    · subst c3
      rcases Nat.lt_or_ge (l.drop (k + 1)).length 16 with h16 | h16
      · rw [valR_none (show rdV (l.drop k) = none by rw [hd]; simp only [rdV]; simp only [if_pos h16]; rfl)]
        rcases Nat.lt_or_ge (l.drop (k + 1)).length 8 with h8 | h8
        · exact refValue_comp p k a n cap l w h 0 0 none none hq (reR_no (by omega)) (reR_none l n) (fun e => absurd rfl e)
        · cases ho : okR (numW ((l.drop (k + 1)).take 8)) with
          | false => exact refValue_comp p k a n cap l w h _ 0 none none hq (by rw [reR_yes (by omega), ho]; rfl) (reR_none l n) (fun e => absurd rfl e)
          | true => exact refValue_comp p k a n cap l w h _ 0 (some (k + 9)) none hq (by rw [reR_yes (by omega), ho]; rfl) (reR_no (by omega)) (fun e => absurd rfl e)
      · have hdd : (l.drop (k + 1)).drop 8 = l.drop (k + 9) := by rw [List.drop_drop]
        cases ho : okR (numW ((l.drop (k + 1)).take 8)) with
        | false =>
          rw [valR_none (show rdV (l.drop k) = none by rw [hd]; simp only [rdV]; simp only [if_neg (show ¬ (l.drop (k + 1)).length < 16 by omega), ho]; rfl)]
          exact refValue_comp p k a n cap l w h _ 0 none none hq (by rw [reR_yes (by omega), ho]; rfl) (reR_none l n) (fun e => absurd rfl e)
        | true =>
          cases ho2 : okR (numW (((l.drop (k + 1)).drop 8).take 8)) with
          | false =>
            rw [valR_none (show rdV (l.drop k) = none by rw [hd]; simp only [rdV]; simp only [if_neg (show ¬ (l.drop (k + 1)).length < 16 by omega), ho, ho2]; rfl)]
            exact refValue_comp p k a n cap l w h _ _ (some (k + 9)) none hq (by rw [reR_yes (by omega), ho]; rfl) (by rw [reR_yes (by omega), ← hdd, ho2]; rfl) (fun e => absurd rfl e)
          | true =>
            have hrd : rdV (l.drop k) = some (⟨3, 0, 0, numW ((l.drop (k + 1)).take 8), numW (((l.drop (k + 1)).drop 8).take 8), []⟩, 17) := by rw [hd]; simp only [rdV]; simp only [if_neg (show ¬ (l.drop (k + 1)).length < 16 by omega), ho, ho2]; rfl
            rw [valR_some hrd]
            exact refValue_comp p k a n cap l w h _ _ (some (k + 9)) (some (k + 17)) hq (by rw [reR_yes (by omega), ho]; rfl) (by rw [reR_yes (by omega), ← hdd, ho2]; rfl) (fun _ => (rdV_form hrd).2.2.1)
    by_cases c4 : c = 4
    · subst c4
      rcases Nat.lt_or_ge (l.drop (k + 1)).length 2 with h8 | h8
      · rw [valR_none (show rdV (l.drop k) = none by rw [hd]; simp only [rdV]; simp only [if_pos h8]; rfl)]
        exact refValue_text p k a n cap l w h 0 [] none none hq (nuR_no (by omega)) (by decide) rfl (fun e => absurd rfl e)
      · have hlt := numW_lt ((l.drop (k + 1)).take 2)
        have hl9 : ((l.drop (k + 1)).take 2).length = 2 := by rw [List.length_take]; omega
        rw [hl9] at hlt
        have hlt2 : numW ((l.drop (k + 1)).take 2) < 65536 := hlt
        have hn2 : nuR l n (some (k + 1)) 2 = (numW ((l.drop (k + 1)).take 2), some (k + 3)) := nuR_yes (by omega)
        have hdd : (l.drop (k + 1)).drop 2 = l.drop (k + 3) := by rw [List.drop_drop]
        have hrd0 : rdV (l.drop k) = if 256 < numW ((l.drop (k + 1)).take 2) then none else if (l.drop (k + 1)).length - 2 < numW ((l.drop (k + 1)).take 2) then none else some (⟨4, 0, 0, 0, 0, ((l.drop (k + 1)).drop 2).take (numW ((l.drop (k + 1)).take 2))⟩, 3 + numW ((l.drop (k + 1)).take 2)) := by
          rw [hd]; simp only [rdV]; simp only [if_neg (show ¬ (l.drop (k + 1)).length < 2 by omega)]; rfl
        generalize numW ((l.drop (k + 1)).take 2) = m at *
        by_cases h6 : 256 < m
        · rw [if_pos h6] at hrd0
          rw [valR_none hrd0]
          exact refValue_text p k a n cap l w h m [] _ none hq hn2 hlt2 (by rw [if_pos h6]; rfl) (fun e => absurd rfl e)
        · rw [if_neg h6] at hrd0
          by_cases h7 : (l.drop (k + 1)).length - 2 < m
          · rw [if_pos h7] at hrd0
            rw [valR_none hrd0]
            exact refValue_text p k a n cap l w h m [] _ none hq hn2 hlt2 (by rw [if_neg h6]; unfold txR; simp only; rw [if_neg (by omega)]) (fun e => absurd rfl e)
          · rw [if_neg h7] at hrd0
            rw [valR_some hrd0]
            have hq2 := refValue_text p k a n cap l w h m (((l.drop (k + 1)).drop 2).take m) _ (some (k + (3 + m))) hq hn2 hlt2 (by rw [if_neg h6, hdd]; unfold txR; simp only; rw [if_pos (by omega), Nat.add_assoc]) (fun _ => (rdV_form hrd0).2.2.1)
            exact hq2
    · have hcv : c.toNat = 0 ∨ 5 ≤ c.toNat := by
        have e1 : c.toNat ≠ 1 := fun e => c1 (UInt8.toNat_inj.1 (by rw [e]; rfl))
        have e2 : c.toNat ≠ 2 := fun e => c2 (UInt8.toNat_inj.1 (by rw [e]; rfl))
        have e3 : c.toNat ≠ 3 := fun e => c3 (UInt8.toNat_inj.1 (by rw [e]; rfl))
        have e4 : c.toNat ≠ 4 := fun e => c4 (UInt8.toNat_inj.1 (by rw [e]; rfl))
        omega
      rw [valR_none (show rdV (l.drop k) = none by rw [hd]; simp [rdV, c1, c2, c3, c4])]
      exact refValue_else p k a n cap l w h c.toNat _ hq hcv (by have := c.toNat_lt; omega)
end Go.Proofs.Ytloofajopgbfmaa
