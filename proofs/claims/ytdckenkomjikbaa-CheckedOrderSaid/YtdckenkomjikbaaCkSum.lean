/- The sum of a list. -/
import Derived.Test.YtdckenkomjikbaaCkWalks
import Derived.Test.YtdckenkomjikbaaCkSumPlain
import Derived.Laws.Externs
import Derived.LoopTactic
namespace Go.Proofs.Ytdckenkomjikbaa
open Go.RowKit

theorem add64_run (x y c : Int) (hx : 0 ≤ x) (hy : 0 ≤ y) (hc0 : 0 ≤ c) (hc : c ≤ 1) (w : World) : (callFunc 39 #[.int .u64 x, .int .u64 y, .int .u64 c]).run Try.prog w =
    .ok (.value (.tuple #[.int .u64 ((x + y + c) % 18446744073709551616), .int .u64 ((x + y + c) / 18446744073709551616)])) w := by
  rw [run_callFunc_extern Try.func39 (by kernel_rfl) (by kernel_rfl) (by kernel_rfl) (e := add64Entry) (by kernel_rfl), run_add64 x y c hx hy hc0 hc]
  rfl
theorem add64_low (s x : Int) (w : World) : (callFunc 39 #[.int .u64 (loW s), .int .u64 (loW x), .int .u64 0]).run Try.prog w =
    .ok (.value (.tuple #[.int .u64 (loW (s + x)), .int .u64 (cyW s x)])) w := by
  rw [add64_run _ _ _ (loW_in s).1 (loW_in x).1 (by decide) (by decide), lo_step, cy_step]
theorem add64_high (s x : Int) (h : In x) (w : World) : ∃ v, (callFunc 39 #[.int .u64 (hiW s), .int .u64 (upW x), .int .u64 (cyW s x)]).run Try.prog w =
    .ok (.value (.tuple #[.int .u64 (hiW (s + x)), .int .u64 v])) w := by
  rw [add64_run _ _ _ (hiW_in s).1 (upW_in x).1 (cyW_in s x).1 (cyW_in s x).2, hi_step s x h]
  exact ⟨_, rfl⟩

theorem ret1 {k : IntKind} {a b : Int} (h : a = b) : Ending.returned (.int k a) = .returned (.int k b) := by rw [h]
theorem upper_any (x : Int) (w : World) (h : In x) :
    Calls Try.prog 40 #[.int .i64 x] w fun e w' => e = .returned (.int .u64 (upW x)) ∧ w = w' := by
  obtain ⟨h1, h2⟩ := h
  go_enter Try.func40, Try.ntmps40
  go_wp2
  go_ret
  refine ⟨ret1 ?_, rfl⟩
  rw [IntKind.wrap_u64]; unfold upW; split <;> omega

/-- the sum of the list's first k numbers -/
def sumTo (l : List Int) (k : Nat) : Int := (l.take k).sum
theorem sumTo_step (l : List Int) (k : Nat) (h : k < l.length) : sumTo l k + l[k] = sumTo l (k + 1) := (sum_step l k h).symm
theorem sumTo_all (l : List Int) (h : AllIn l) (hm : l.length ≤ 9223372036854775807) : -170141183460469231731687303715884105728 ≤ l.sum ∧ l.sum < 170141183460469231731687303715884105728 := by
  have := sum_bd l h; omega
theorem ne_dec {x y : Int} (h : x = y) : (x != y) = false := by simp [h]
theorem ne_dec2 {x y : Int} (h : x ≠ y) : (x != y) = true := by simp [h]

theorem sum_some (b o n cap : Nat) (l : List Int) (w : World) (hl : l.length = n) (hm : n ≤ maxLen) (ha : AllIn l) (hn : 0 < n) (hc : ∀ i (h : i < l.length), w.cell? ⟨b, o + i, none⟩ = some (.int .i64 l[i])) :
    Calls Try.prog 21 #[.slice (some ⟨b, o, none⟩) n cap] w fun e w' => e = .returned (.tuple #[.int .i64 (fitV l.sum), .int .i64 (fitE l.sum)]) ∧ w = w' := by
  subst hl
  unfold maxLen at hm
  have HB := Lib.hid (sumTo_all l ha hm)
  go_enter Try.func21, Try.ntmps21
  go_wp2
  go_loop [4, 5, 12] (fun h lo i => ∃ k : Nat, k ≤ l.length ∧ h = .int .u64 (hiW (sumTo l k)) ∧ lo = .int .u64 (loW (sumTo l k)) ∧ i = .int .i64 k) (fun _ _ i => l.length - (intOf i).toNat)
  case atStart => exact ⟨0, Nat.zero_le _, rfl, rfl, rfl⟩
  case round =>
    obtain ⟨k, hk, rfl, rfl, rfl⟩ := hrel
    by_cases hlt : k < l.length
    · have hcell := hc k hlt
      have hin := ha.get k hlt
      have hu := u64_lo l[k]
      have kl := add64_low (sumTo l k) l[k]
      obtain ⟨v, kh⟩ := Classical.skolem.1 (add64_high (sumTo l k) l[k] hin)
      have HS := Lib.hid (sumTo_step l k hlt)
      go_wp2_with (first
        | simp only [kl]
        | simp only [kh]
        | (go_at_call 40; refine (upper_any _ _ hin).mono ?_; rintro e w' ⟨rfl, rfl⟩))
      go_round
      case rel => exact ⟨k + 1, by omega, by rw [HS.out], by rw [HS.out], by go_num⟩
      case measure => simp [intOf]; omega
    · have hs : sumTo l k = l.sum := by unfold sumTo; rw [List.take_of_length_le (by omega)]
      rw [hs]
      clear hs
      have hk2 : decide (k < l.length) = false := by simpa using hlt
      have hin : In (wrap64 (loW l.sum)) := num_in l.sum
      have HI := Lib.hid hin
      by_cases e : hiW l.sum = upW (wrap64 (loW l.sum))
      · obtain ⟨V, E⟩ := num_fit l.sum HB.out e
        have V := Lib.hid V
        have E := Lib.hid E
        have t := ne_dec e
        clear e
        go_wp2_with (go_at_call 40; refine (upper_any _ _ HI.out).mono ?_; rintro e w' ⟨rfl, rfl⟩)
        go_ret2
        exact ⟨ret2 V.out.symm E.out.symm, rfl⟩
      · obtain ⟨V, E⟩ := num_unfit l.sum HB.out e
        have V := Lib.hid V
        have E := Lib.hid E
        have t := ne_dec2 e
        clear e
        go_wp2_with (go_at_call 40; refine (upper_any _ _ HI.out).mono ?_; rintro e w' ⟨rfl, rfl⟩)
        go_ret2
        exact ⟨ret2 V.out.symm E.out.symm, rfl⟩

theorem sum_none (a : Option Addr) (cap : Nat) (w : World) :
    Calls Try.prog 21 #[.slice a 0 cap] w fun e w' => e = .returned (.tuple #[.int .i64 (fitV 0), .int .i64 (fitE 0)]) ∧ w = w' := by
  have t : ((0 : Int) != upW 0) = false := by decide
  go_enter Try.func21, Try.ntmps21
  go_wp2
  refine wp_loop_rounds 1 ?_
  rw [rounds_succ]
  go_wp2_with (go_at_call 40; refine (upper_any _ _ (by unfold In; omega)).mono ?_; rintro e w' ⟨rfl, rfl⟩)
  go_ret2
  exact ⟨rfl, rfl⟩

theorem sum_any {w : World} {a : Option Addr} {n cap : Nat} {l : List Int} (h : Ints w a n cap l) :
    Calls Try.prog 21 #[.slice a n cap] w fun e w' => e = .returned (.tuple #[.int .i64 (fitV l.sum), .int .i64 (fitE l.sum)]) ∧ w = w' := by
  obtain ⟨h1, h2, h3, h5, h4⟩ := h
  rcases Nat.eq_zero_or_pos n with rfl | hn
  · obtain rfl : l = [] := List.length_eq_zero_iff.1 h1
    exact sum_none a cap w
  · rcases h4 with ⟨_, h0, _⟩ | ⟨⟨b, o, s⟩, rfl, hx⟩
    · omega
    · obtain ⟨rfl, hc⟩ := hx.spot (by omega)
      exact sum_some b o n cap l w h1 (by omega) h5 hn hc

end Go.Proofs.Ytdckenkomjikbaa
