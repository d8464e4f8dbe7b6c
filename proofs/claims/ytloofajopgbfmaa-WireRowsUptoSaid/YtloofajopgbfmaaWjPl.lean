/- Payloads, plain: one value more. -/
import Derived.Test.YtloofajopgbfmaaWiRead
namespace Go.Proofs.Ytloofajopgbfmaa
set_option linter.all false
theorem rdVs_snoc : ∀ {i : Nat} {r : List UInt8} {acc : List V9} {k : Nat} {v : V9} {n : Nat}, rdVs i r = some (acc, k) → rdV (r.drop k) = some (v, n) → rdVs (i + 1) r = some (acc ++ [v], k + n)
  | 0, r, acc, k, v, n, h, hv => by
    simp only [rdVs, Option.some.injEq, Prod.mk.injEq] at h
    obtain ⟨rfl, rfl⟩ := h
    simp only [List.drop_zero] at hv
    simp [rdVs, hv]
  | i + 1, r, acc, k, v, n, h, hv => by
    rw [rdVs, Option.bind_eq_some_iff] at h
    obtain ⟨⟨x, a⟩, hx, h2⟩ := h
    rw [Option.bind_eq_some_iff] at h2
    obtain ⟨⟨xs, b⟩, hxs, he⟩ := h2
    simp only [Option.some.injEq, Prod.mk.injEq] at he hxs
    obtain ⟨rfl, rfl⟩ := he
    have := rdVs_snoc hxs (v := v) (n := n) (by rw [List.drop_drop]; exact hv)
    rw [rdVs, hx]
    simp only [Option.bind_some]
    rw [this]
    simp [Nat.add_assoc]
theorem rdVs_stop : ∀ {i : Nat} {r : List UInt8} {acc : List V9} {k : Nat}, rdVs i r = some (acc, k) → rdV (r.drop k) = none → ∀ c, i < c → rdVs c r = none
  | 0, r, acc, k, h, hv, c, hc => by
    simp only [rdVs, Option.some.injEq, Prod.mk.injEq] at h
    obtain ⟨rfl, rfl⟩ := h
    obtain ⟨c, rfl⟩ : ∃ d, c = d + 1 := ⟨c - 1, by omega⟩
    simp only [List.drop_zero] at hv
    simp [rdVs, hv]
  | i + 1, r, acc, k, h, hv, c, hc => by
    rw [rdVs, Option.bind_eq_some_iff] at h
    obtain ⟨⟨x, a⟩, hx, h2⟩ := h
    rw [Option.bind_eq_some_iff] at h2
    obtain ⟨⟨xs, b⟩, hxs, he⟩ := h2
    simp only [Option.some.injEq, Prod.mk.injEq] at he hxs
    obtain ⟨rfl, rfl⟩ := he
    obtain ⟨c, rfl⟩ : ∃ d, c = d + 1 := ⟨c - 1, by omega⟩
    have := rdVs_stop hxs (by rw [List.drop_drop]; exact hv) c (by omega)
    rw [rdVs, hx]
    simp only [Option.bind_some]
    rw [this]
    rfl
/-- a payload in two steps: its values, and whether it may be -/
theorem rdP_cons (c : UInt8) (r : List UInt8) : rdP (c :: r) = (rdVs c.toNat r).bind fun a => if 6 < a.1.length ∨ 1024 < sizeP a.1 then none else some (a.1, 1 + a.2) := by
  unfold rdP
  simp only
  by_cases h6 : 6 < c.toNat
  · rw [if_pos h6]
    cases hv : rdVs c.toNat r with
    | none => rfl
    | some a =>
      obtain ⟨vs, k⟩ := a
      have := (rdVs_form _ _ _ _ hv).2.2.2
      simp only [Option.bind_some]
      rw [if_pos (by left; omega)]
  · rw [if_neg h6]
    cases hv : rdVs c.toNat r with
    | none => rfl
    | some a =>
      obtain ⟨vs, k⟩ := a
      have := (rdVs_form _ _ _ _ hv).2.2.2
      simp only [Option.bind_some]
      by_cases hs : 1024 < sizeP vs
      · rw [if_pos hs, if_pos (.inr hs)]
      · rw [if_neg hs, if_neg (by omega)]
end Go.Proofs.Ytloofajopgbfmaa
