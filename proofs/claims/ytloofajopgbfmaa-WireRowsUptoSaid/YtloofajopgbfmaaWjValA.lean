/- Wire: ReadValue. -/
import Derived.Test.YtloofajopgbfmaaWjVal1
import Derived.Test.YtloofajopgbfmaaWjVal2
import Derived.Test.YtloofajopgbfmaaWjVal3
import Derived.Test.YtloofajopgbfmaaWjVal4
namespace Go.Proofs.Ytloofajopgbfmaa
set_option linter.all false
open Go.RowKit
set_option maxRecDepth 100000
theorem eight {r : List UInt8} (h : 8 ≤ r.length) : ∃ b0 b1 b2 b3 b4 b5 b6 b7 r', r = b0 :: b1 :: b2 :: b3 :: b4 :: b5 :: b6 :: b7 :: r' := by
  match r, h with
  | b0 :: b1 :: b2 :: b3 :: b4 :: b5 :: b6 :: b7 :: r', _ => exact ⟨_, _, _, _, _, _, _, _, _, rfl⟩
theorem readValue_any (a : Option Addr) (n cap : Nat) (l : List UInt8) (w : World) (ht : Txt w a n cap l) : Calls Try.prog 7 #[.slice a n cap] w fun e w' => e = .returned (ansV (rdV l)) ∧ Below w.heap.size w w' := by
  have hl := ht.1
  obtain ⟨W0, h⟩ := rdSt a n cap l w ht
  cases l with
  | nil => exact readValue_few a n cap [] w W0 1 h (by simp at hl; omega) (by omega)
  | cons k r =>
    have hl2 : r.length + 1 = n := by simpa using hl
    by_cases h1 : k = 1
    · subst h1
      rcases Nat.lt_or_ge n 9 with h9 | h9
      · rw [show rdV (1 :: r) = none by simp [rdV, show r.length < 8 by omega]]
        exact readValue_few a n cap _ w W0 9 h h9 (by omega)
      · rw [show rdV (1 :: r) = some (⟨1, intW (numW (r.take 8)), 0, 0, 0, []⟩, 9) by simp [rdV, show ¬ r.length < 8 by omega]]
        exact readValue_int a n cap r w W0 h h9
    by_cases h2 : k = 2
    · subst h2
      rcases Nat.lt_or_ge n 9 with h9 | h9
      · rw [show rdV (2 :: r) = none by simp [rdV, show r.length < 8 by omega]]
        exact readValue_few a n cap _ w W0 9 h h9 (by omega)
      · obtain ⟨b0, b1, b2, b3, b4, b5, b6, b7, r', rfl⟩ := eight (r := r) (by omega)
        rw [show rdV (2 :: b0 :: b1 :: b2 :: b3 :: b4 :: b5 :: b6 :: b7 :: r') = if okR (numW [b0, b1, b2, b3, b4, b5, b6, b7]) = true then some (⟨2, 0, numW [b0, b1, b2, b3, b4, b5, b6, b7], 0, 0, []⟩, 9) else none by simp [rdV, show ¬ r'.length + 1 + 1 + 1 + 1 + 1 + 1 + 1 + 1 < 8 by omega]; rfl]
        exact readValue_real a n cap b0 b1 b2 b3 b4 b5 b6 b7 r' w W0 h h9
    by_cases h3 : k = 3
    · subst h3
      rcases Nat.lt_or_ge n 17 with h9 | h9
      · rw [show rdV (3 :: r) = none by simp [rdV, show r.length < 16 by omega]]
        exact readValue_few a n cap _ w W0 17 h h9 (by omega)
      · obtain ⟨b0, b1, b2, b3, b4, b5, b6, b7, r1, rfl⟩ := eight (r := r) (by omega)
        obtain ⟨c0, c1, c2, c3, c4, c5, c6, c7, r', rfl⟩ := eight (r := r1) (by simp at hl2; omega)
        rw [show rdV (3 :: b0 :: b1 :: b2 :: b3 :: b4 :: b5 :: b6 :: b7 :: c0 :: c1 :: c2 :: c3 :: c4 :: c5 :: c6 :: c7 :: r') = if (okR (numW [b0, b1, b2, b3, b4, b5, b6, b7]) && okR (numW [c0, c1, c2, c3, c4, c5, c6, c7])) = true then some (⟨3, 0, 0, numW [b0, b1, b2, b3, b4, b5, b6, b7], numW [c0, c1, c2, c3, c4, c5, c6, c7], []⟩, 17) else none by simp [rdV]; intro h; omega]
        exact readValue_comp a n cap b0 b1 b2 b3 b4 b5 b6 b7 c0 c1 c2 c3 c4 c5 c6 c7 r' w W0 h h9
    by_cases h4 : k = 4
    · subst h4
      rcases Nat.lt_or_ge r.length 2 with h8 | h8
      · rw [show rdV (4 :: r) = none by simp [rdV, h8]]
        have hv : vsz (4 :: r) = 3 := by simp [vsz, h8]
        rw [hv] at h
        exact readValue_few a n cap _ w W0 3 h (by omega) (by omega)
      · have hv : vsz (4 :: r) = 3 + numW (r.take 2) := by simp [vsz, show ¬ r.length < 2 by omega]
        have hlt := numW_lt (r.take 2)
        have hl9 : (r.take 2).length = 2 := by simp; omega
        rw [hl9] at hlt
        have hlt2 : numW (r.take 2) < 65536 := hlt
        rw [hv] at h
        rw [show rdV (4 :: r) = if 256 < numW (r.take 2) then none else if r.length - 2 < numW (r.take 2) then none else some (⟨4, 0, 0, 0, 0, (r.drop 2).take (numW (r.take 2))⟩, 3 + numW (r.take 2)) by simp [rdV, show ¬ r.length < 2 by omega]]
        generalize numW (r.take 2) = m at *
        rcases Nat.lt_or_ge n (3 + m) with h9 | h9
        · rw [if_pos (show r.length - 2 < m by omega), ite_self]
          exact readValue_few a n cap _ w W0 _ h h9 (by omega)
        · rw [if_neg (show ¬ r.length - 2 < m by omega)]
          have hq := readValue_text a n cap m r w W0 h h9 hlt2
          by_cases h6 : m ≤ 256
          · rw [if_pos h6] at hq
            rw [if_neg (by omega)]
            exact hq
          · rw [if_neg h6] at hq
            rw [if_pos (by omega)]
            exact hq
    · have hv : vsz (k :: r) = 1 := by simp [vsz, h1, h2, h3, h4]
      rw [hv] at h
      rw [show rdV (k :: r) = none by simp [rdV, h1, h2, h3, h4]]
      exact readValue_else a n cap k r w W0 h h1 h2 h3 h4
end Go.Proofs.Ytloofajopgbfmaa
