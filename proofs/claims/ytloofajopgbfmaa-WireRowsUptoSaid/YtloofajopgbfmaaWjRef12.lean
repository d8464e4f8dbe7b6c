/- Wire, the reference's reading of a message, whatever stands there. -/
import Derived.Test.YtloofajopgbfmaaWjRef11
namespace Go.Proofs.Ytloofajopgbfmaa
set_option linter.all false
open Go.RowKit
set_option maxRecDepth 100000
/-- what a message's reading answers, from a place on -/
def mxR (l : List UInt8) (k : Nat) : M9 × Option Nat :=
  match rdM (l.drop k) with
  | some (m, j) => (m, some (k + j))
  | none => (zeroM9, none)
theorem mxR_none {l : List UInt8} {k : Nat} (h : rdM (l.drop k) = none) : mxR l k = (zeroM9, none) := by unfold mxR; rw [h]
theorem num1 (c : UInt8) (r : List UInt8) : numW ((c :: r).take 1) = c.toNat := by simp [numW]
theorem txR_none (l : List UInt8) (n z : Nat) : txR l n none z = ([], none) := rfl
theorem plR_none (l : List UInt8) : plR l none = ([], none) := rfl
theorem refMessage_any (p k : Nat) (a : Option Addr) (n cap : Nat) (l : List UInt8) (w : World) (h : RSt w p a n cap l (some k)) : Calls Try.prog 12 #[.pointer (some ⟨p, 0, none⟩)] w (MeA w p a n cap l (mxR l k)) := by
  have hln := h.txt.1
  have hk := h.at.2
  have hL : (l.drop k).length = n - k := by rw [List.length_drop, hln]
  rcases Nat.lt_or_ge n (k + 4) with h4 | h4
  · rw [mxR_none (show rdM (l.drop k) = none by unfold rdM; rw [if_pos (by omega)])]
    exact refMessage_in p k 0 0 [] [] a n cap l none none none none none w h (nuR_no h4) (nuR_none l n 1) (fun _ => rfl) (fun hh => by omega) (txR_none l n 0) (plR_none l) (by omega) (by omega)
  have hid : numW ((l.drop k).take 4) < 4294967296 := by
    have h1 := numW_lt ((l.drop k).take 4)
    have h2 : ((l.drop k).take 4).length = 4 := by rw [List.length_take]; omega
    rw [h2] at h1
    exact h1
  rcases Nat.lt_or_ge n (k + 5) with h5 | h5
  · rw [mxR_none (show rdM (l.drop k) = none by unfold rdM; rw [if_pos (by omega)])]
    exact refMessage_in p k _ 0 [] [] a n cap l _ none none none none w h (nuR_yes h4) (nuR_no (by omega)) (fun _ => rfl) (fun hh => by omega) (txR_none l n 0) (plR_none l) hid (by omega)
  have hd : l.drop (k + 4) = l[k + 4]'(by omega) :: l.drop (k + 5) := List.drop_eq_getElem_cons (by omega)
  have hc : (l.drop k).getD 4 0 = l[k + 4]'(by omega) := by
    rw [List.getD_eq_getElem?_getD, List.getElem?_drop, List.getElem?_eq_getElem (by omega)]
    rfl
  have ht : nuR l n (some (k + 4)) 1 = (((l.drop k).getD 4 0).toNat, some (k + 5)) := by rw [nuR_yes (by omega), hd, hc, num1]
  have ht9 : ((l.drop k).getD 4 0).toNat ≤ 255 := by have := ((l.drop k).getD 4 0).toNat_lt; omega
  have hrd : rdM (l.drop k) = if 1048575 < numW ((l.drop k).take 4) then none else if ((l.drop k).getD 4 0).toNat < 1 ∨ 32 < ((l.drop k).getD 4 0).toNat then none else if (l.drop k).length - 5 < ((l.drop k).getD 4 0).toNat then none else (rdP ((l.drop k).drop (5 + ((l.drop k).getD 4 0).toNat))).bind fun a => some (⟨numW ((l.drop k).take 4), ((l.drop k).drop 5).take ((l.drop k).getD 4 0).toNat, a.1⟩, 5 + ((l.drop k).getD 4 0).toNat + a.2) := by
    conv => lhs; unfold rdM
    rw [if_neg (by omega)]
  rw [List.drop_drop, List.drop_drop] at hrd
  have hn4 : nuR l n (some k) 4 = (numW ((l.drop k).take 4), some (k + 4)) := nuR_yes h4
  generalize numW ((l.drop k).take 4) = id at *
  generalize ((l.drop k).getD 4 0).toNat = t at *
  by_cases hok : id ≤ 1048575 ∧ 1 ≤ t ∧ t ≤ 32
  · rw [if_neg (by omega), if_neg (by omega)] at hrd
    rcases Nat.lt_or_ge n (k + 5 + t) with h6 | h6
    · rw [if_pos (by omega)] at hrd
      rw [mxR_none hrd]
      exact refMessage_in p k id t [] [] a n cap l _ _ (some (k + 5)) none none w h hn4 ht (fun hh => by omega) (fun _ => rfl) (by unfold txR; simp only; rw [if_neg (by omega)]) (plR_none l) hid ht9
    · rw [if_neg (by omega)] at hrd
      have htx : txR l n (some (k + 5)) t = ((l.drop (k + 5)).take t, some (k + 5 + t)) := by unfold txR; simp only; rw [if_pos (by omega)]
      cases hp : rdP (l.drop (k + (5 + t))) with
      | none =>
        rw [hp] at hrd
        rw [mxR_none hrd]
        exact refMessage_in p k id t _ [] a n cap l _ _ (some (k + 5)) _ none w h hn4 ht (fun hh => by omega) (fun _ => rfl) htx (by unfold plR; simp only; rw [Nat.add_assoc, hp]) hid ht9
      | some q =>
        obtain ⟨vs, m⟩ := q
        rw [hp] at hrd
        simp only [Option.bind_some] at hrd
        have hm : mxR l k = pickM ⟨id, (l.drop (k + 5)).take t, vs⟩ (some (k + (5 + t) + m)) := by unfold mxR; rw [hrd]; simp only [pickM, Nat.add_assoc]
        rw [hm]
        exact refMessage_in p k id t _ vs a n cap l _ _ (some (k + 5)) _ (some (k + (5 + t) + m)) w h hn4 ht (fun hh => by omega) (fun _ => rfl) htx (by unfold plR; simp only; rw [Nat.add_assoc, hp]) hid ht9
  · have hrn : rdM (l.drop k) = none := by
      rw [hrd]
      by_cases g1 : 1048575 < id
      · rw [if_pos g1]
      · rw [if_neg g1, if_pos (by omega)]
    rw [mxR_none hrn]
    exact refMessage_in p k id t [] [] a n cap l _ _ none none none w h hn4 ht (fun _ => rfl) (fun hh => absurd hh hok) (txR_none l n t) (plR_none l) hid ht9
end Go.Proofs.Ytloofajopgbfmaa
