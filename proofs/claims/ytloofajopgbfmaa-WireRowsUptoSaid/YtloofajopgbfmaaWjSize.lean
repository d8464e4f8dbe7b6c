/- Wire: how many bytes are wanted: valueSize. -/
import Derived.Test.YtloofajopgbfmaaWjMay
namespace Go.Proofs.Ytloofajopgbfmaa
set_option linter.all false
open Go.RowKit
set_option maxRecDepth 100000
/-- how many bytes are wanted for a value's form -/
def vsz (l : List UInt8) : Nat :=
  match l with
  | [] => 1
  | k :: r => if k = 1 ∨ k = 2 then 9 else if k = 3 then 17 else if k = 4 then (if r.length < 2 then 3 else 3 + numW (r.take 2)) else 1
theorem txt_cells {w : World} {a : Option Addr} {n cap : Nat} {l : List UInt8} (ht : Txt w a n cap l) (h0 : 0 < n) : ∃ b o, a = some ⟨b, o, none⟩ ∧ ∀ i (h : i < l.length), w.cell? ⟨b, o + i, none⟩ = some (.int .u8 (l[i].toNat : Int)) := by
  obtain ⟨hl, hnc, hm, h4⟩ := ht
  rcases h4 with ⟨_, h1, _⟩ | ⟨⟨b, o, s⟩, rfl, hx⟩
  · omega
  · obtain ⟨rfl, hc⟩ := hx.spot (by omega)
    exact ⟨b, o, rfl, hc⟩
theorem byte_ne {k m : UInt8} (h : k ≠ m) : (k.toNat : Int) ≠ (m.toNat : Int) := fun e => h (UInt8.toNat_inj.1 (by omega))
set_option maxHeartbeats 2000000 in
theorem valueSize_any (a : Option Addr) (n cap : Nat) (l : List UInt8) (w : World) (ht : Txt w a n cap l) : Calls Try.prog 25 #[.slice a n cap] w fun e w' => e = .returned (.int .i64 (vsz l)) ∧ w = w' := by
  have hl := ht.1
  have hnm : n ≤ 9223372036854775807 := by have := ht.2.1; have := ht.2.2.1; unfold maxLen at *; omega
  cases l with
  | nil =>
    obtain rfl : n = 0 := by simpa using hl.symm
    clear hl ht
    go_enter Try.func25, Try.ntmps25
    go_wp2
    go_ret
    exact ⟨rfl, rfl⟩
  | cons k r =>
    have hl2 : r.length + 1 = n := by simpa using hl
    obtain ⟨b, o, rfl, hc⟩ := txt_cells ht (by omega)
    have c0 : w.cell? ⟨b, o, none⟩ = some (.int .u8 (k.toNat : Int)) := hc 0 (by simp)
    have d0 : decide (n = 0) = false := decide_eq_false (by omega)
    have d1 : ((n : Int) == 0) = false := by rw [beq_eq_false_iff_ne]; omega
    have d2 : 0 < n := by omega
    clear hc hl
    obtain ⟨kd, hkd⟩ : ∃ kd : Int, kd = (k.toNat : Int) := ⟨_, rfl⟩
    rw [← hkd] at c0
    by_cases h1 : k = 1
    · obtain rfl : kd = 1 := by rw [hkd, h1]; rfl
      have hv : vsz (k :: r) = 9 := by unfold vsz; simp [h1]
      rw [hv]
      clear hv hkd h1 ht hl2
      go_enter Try.func25, Try.ntmps25
      go_wp2
      go_ret
      exact ⟨rfl, rfl⟩
    by_cases h2 : k = 2
    · obtain rfl : kd = 2 := by rw [hkd, h2]; rfl
      have hv : vsz (k :: r) = 9 := by unfold vsz; simp [h2]
      rw [hv]
      clear hv hkd h1 h2 ht hl2
      go_enter Try.func25, Try.ntmps25
      go_wp2
      go_ret
      exact ⟨rfl, rfl⟩
    by_cases h3 : k = 3
    · obtain rfl : kd = 3 := by rw [hkd, h3]; rfl
      have hv : vsz (k :: r) = 17 := by unfold vsz; simp [h3]
      rw [hv]
      clear hv hkd h1 h2 h3 ht hl2
      go_enter Try.func25, Try.ntmps25
      go_wp2
      go_ret
      exact ⟨rfl, rfl⟩
    by_cases h4 : k = 4
    · obtain rfl : kd = 4 := by rw [hkd, h4]; rfl
      rcases Nat.lt_or_ge r.length 2 with h8 | h8
      · have hv : vsz (k :: r) = 3 := by unfold vsz; simp [h4, h8]
        rw [hv]
        have d3 : decide ((n : Int) < 3) = true := decide_eq_true (by omega)
        clear hv hkd h1 h2 h3 h4 ht hl2
        go_enter Try.func25, Try.ntmps25
        go_wp2
        go_ret
        exact ⟨rfl, rfl⟩
      · have hv : vsz (k :: r) = 3 + numW (r.take 2) := by unfold vsz; simp [h4]; omega
        rw [hv]
        have d3 : decide ((n : Int) < 3) = false := decide_eq_false (by omega)
        obtain ⟨a', hs, ht'⟩ := slice_mid 1 3 ht (by omega) (by omega)
        have hs' : ∀ w', (Instr.slice 22 (.slice (some ⟨b, o, none⟩) n cap) (some (.int .i64 1)) (some (.int .i64 3)) none).run Try.prog w' = .ok (.slice a' 2 (cap - 1)) w' := hs
        have hnum := number_any a' 2 (cap - 1) (r.take 2) w ht' (by omega)
        have hlt := numW_lt (r.take 2)
        have hl9 : (r.take 2).length = 2 := by simp; omega
        rw [hl9] at hlt
        have hlt2 : numW (r.take 2) < 65536 := hlt
        generalize numW (r.take 2) = m at *
        have HN := Lib.hid hnum
        clear hv hkd h1 h2 h3 h4 ht hl2 hs ht' hnum hlt hl9
        go_enter Try.func25, Try.ntmps25
        go_wp2_with (go_at_call 26; (with_reducible refine HN.out.mono ?_); rintro e w' ⟨rfl, rfl⟩)
        go_ret
        exact ⟨by rw [Int.natCast_add]; rfl, rfl⟩
    · have hv : vsz (k :: r) = 1 := by unfold vsz; simp [h1, h2, h3, h4]
      rw [hv]
      have e1 : kd ≠ 1 := by rw [hkd]; exact byte_ne h1
      have e2 : kd ≠ 2 := by rw [hkd]; exact byte_ne h2
      have e3 : kd ≠ 3 := by rw [hkd]; exact byte_ne h3
      have e4 : kd ≠ 4 := by rw [hkd]; exact byte_ne h4
      have t1 : (kd == 1) = false := by simpa using e1
      have t2 : (kd == 2) = false := by simpa using e2
      have t3 : (kd == 3) = false := by simpa using e3
      have t4 : (kd == 4) = false := by simpa using e4
      have b1 : 0 ≤ kd := by omega
      have b2 : kd ≤ 255 := by have := k.toNat_lt; omega
      clear hv hkd h1 h2 h3 h4 ht hl2 e1 e2 e3 e4
      go_enter Try.func25, Try.ntmps25
      go_wp2
      go_ret
      exact ⟨rfl, rfl⟩
end Go.Proofs.Ytloofajopgbfmaa
