/- The product of a list. -/
import Derived.Test.YtdckenkomjikbaaCkSum
import Derived.Test.YtdckenkomjikbaaCkMul
namespace Go.Proofs.Ytdckenkomjikbaa
open Go.RowKit

def prd : List Int → Int
  | [] => 1
  | x :: l => x * prd l
theorem prd_append (a b : List Int) : prd (a ++ b) = prd a * prd b := by
  induction a with
  | nil => simp [prd]
  | cons x a ih => simp only [List.cons_append, prd, ih]; rw [Int.mul_assoc]
theorem prd_step (l : List Int) (k : Nat) (h : k < l.length) : prd (l.take (k + 1)) = prd (l.take k) * l[k] := by
  rw [take_step l k h, prd_append]; simp [prd]
theorem prd_zero (l : List Int) (k : Nat) (h : k < l.length) (h0 : l[k] = 0) : prd l = 0 := by
  rw [← List.take_append_drop k l, prd_append, List.drop_eq_getElem_cons h]
  simp [prd, h0]

/-- size, sign and overflow of a product that is not 0 -/
def ProdR (p : Int) (s : Nat) (m o : Bool) : Prop := p ≠ 0 ∧ m = decide (p < 0) ∧ s < 18446744073709551616 ∧ (o = false → s = p.natAbs) ∧ (o = true → 18446744073709551616 ≤ p.natAbs)
theorem ProdR.start : ProdR 1 1 false false := ⟨by decide, by decide, by decide, fun _ => rfl, fun h => by cases h⟩
theorem ProdR.step {p x : Int} {s : Nat} {m o : Bool} (h : ProdR p s m o) (hx : x ≠ 0) : ProdR (p * x) (loF s x.natAbs) (m != unlike 1 x) (o || (hiF s x.natAbs != 0)) := by
  obtain ⟨h1, h2, h3, h4, h5⟩ := h
  have hab : (p * x).natAbs = p.natAbs * x.natAbs := Int.natAbs_mul p x
  have hp : 1 ≤ p.natAbs := by omega
  have hx1 : 1 ≤ x.natAbs := by omega
  refine ⟨Int.mul_ne_zero h1 hx, ?_, lo_lt _ _, ?_, ?_⟩
  · subst h2
    have e := mul_signed p x
    unfold unlike signed at e
    have hpos : 0 < p.natAbs * x.natAbs := Nat.mul_pos hp hx1
    have hu : unlike 1 x = decide (x < 0) := by unfold unlike; simp
    rw [hu]
    have e2 : decide (p * x < 0) = (decide (p < 0) != decide (x < 0)) := by
      rw [e]
      cases decide (p < 0) != decide (x < 0) <;> simp <;> omega
    rw [e2]
  · intro ho
    have ho' : o = false ∧ hiF s x.natAbs = 0 := by
      cases o <;> simp_all
    rw [lo_all ho'.2, h4 ho'.1, hab]
  · intro ho
    rw [hab]
    cases o with
    | true =>
      have := h5 rfl
      have : p.natAbs * 1 ≤ p.natAbs * x.natAbs := Nat.mul_le_mul_left _ hx1
      omega
    | false =>
      have : hiF s x.natAbs ≠ 0 := by simpa using ho
      rw [← h4 rfl]
      unfold hiF at this
      generalize s * x.natAbs = t at *
      omega
theorem ProdR.stop_over {p : Int} {s : Nat} {m : Bool} (h : ProdR p s m true) : fitV p = 0 ∧ fitE p = 30 := by
  have := h.2.2.2.2 rfl
  have : p < -9223372036854775808 ∨ 9223372036854775807 < p := by omega
  exact ⟨fitV_no this, fitE_no this⟩
theorem ProdR.stop {p : Int} {s : Nat} {m : Bool} (h : ProdR p s m false) : signed m s = p := by
  obtain ⟨h1, h2, h3, h4, h5⟩ := h
  rw [h2, h4 rfl]; unfold signed
  by_cases hp : p < 0 <;> simp [hp] <;> omega

set_option maxHeartbeats 2000000 in
theorem prod_some (b o n cap : Nat) (l : List Int) (w : World) (hl : l.length = n) (hm : n ≤ maxLen) (ha : AllIn l) (hc : ∀ i (h : i < l.length), w.cell? ⟨b, o + i, none⟩ = some (.int .i64 l[i])) :
    Calls Try.prog 23 #[.slice (some ⟨b, o, none⟩) n cap] w fun e w' => e = .returned (.tuple #[.int .i64 (fitV (prd l)), .int .i64 (fitE (prd l))]) ∧ w = w' := by
  subst hl
  unfold maxLen at hm
  go_enter Try.func23, Try.ntmps23
  go_wp2_with fail
  go_loop [4, 5, 6, 16] (fun sz mi ov i => ∃ (k s : Nat) (m o : Bool), k ≤ l.length ∧ i = .int .i64 k ∧ sz = .int .u64 s ∧ mi = .bool m ∧ ov = .bool o ∧ Hid (ProdR (prd (l.take k)) s m o)) (fun _ _ _ i => l.length - (intOf i).toNat)
  case atStart => exact ⟨0, 1, false, false, Nat.zero_le _, rfl, rfl, rfl, rfl, Lib.hid ProdR.start⟩
  case round =>
    obtain ⟨k, s, m, o, hk, rfl, rfl, rfl, rfl, HR⟩ := hrel
    by_cases hlt : k < l.length
    · have hcell := hc k hlt
      have hin := Lib.hid (ha.get k hlt)
      by_cases h0 : l[k] = 0
      · have t1 : (l[k] == 0) = true := by simp [h0]
        have V := Lib.hid (prd_zero l k hlt h0)
        clear h0
        go_wp2
        go_ret2
        exact ⟨ret2 (by rw [V.out]; rfl) (by rw [V.out]; rfl), rfl⟩
      · have t1 : (l[k] == 0) = false := by simpa using h0
        have HN := HR.out.step h0
        rw [← prd_step l k hlt] at HN
        have HN := Lib.hid HN
        have hs := Lib.hid HR.out.2.2.1
        have hhi : ((hiF s l[k].natAbs : Int) != 0) = (hiF s l[k].natAbs != 0) := by
          cases h : hiF s l[k].natAbs <;> simp
          omega
        have HH := Lib.hid hhi
        clear h0 hhi
        cases o
        · have HN2 : Hid (ProdR (prd (l.take (k + 1))) (loF s l[k].natAbs) (!(m == unlike 1 l[k])) ((hiF s l[k].natAbs : Int) != 0)) := Lib.hid (by rw [HH.out]; exact (by simpa using HN.out : ProdR (prd (l.take (k + 1))) (loF s l[k].natAbs) (m != unlike 1 l[k]) (hiF s l[k].natAbs != 0)))
          go_wp2_with (first
            | (go_at_call 34; refine (apart_any 1 l[k] _ (by unfold In; omega) hin.out).mono ?_; rintro e w' ⟨rfl, rfl⟩)
            | (go_at_call 35; refine (mul64_any s l[k].natAbs hs.out (natAbs_lt hin.out) _).mono ?_; rintro e w' ⟨rfl, rfl⟩))
          go_round
          case rel => exact ⟨k + 1, _, _, _, by omega, by go_num, rfl, rfl, rfl, HN2⟩
          case measure => simp [intOf]; omega
        · have HN2 : Hid (ProdR (prd (l.take (k + 1))) (loF s l[k].natAbs) (!(m == unlike 1 l[k])) true) := Lib.hid (by exact (by simpa using HN.out : ProdR (prd (l.take (k + 1))) (loF s l[k].natAbs) (m != unlike 1 l[k]) true))
          go_wp2_with (first
            | (go_at_call 34; refine (apart_any 1 l[k] _ (by unfold In; omega) hin.out).mono ?_; rintro e w' ⟨rfl, rfl⟩)
            | (go_at_call 35; refine (mul64_any s l[k].natAbs hs.out (natAbs_lt hin.out) _).mono ?_; rintro e w' ⟨rfl, rfl⟩))
          go_round
          case rel => exact ⟨k + 1, _, _, _, by omega, by go_num, rfl, rfl, rfl, HN2⟩
          case measure => simp [intOf]; omega
    · have hs : prd (l.take k) = prd l := by rw [List.take_of_length_le (by omega)]
      rw [hs] at HR
      clear hs
      have t1 : decide (k < l.length) = false := by simpa using hlt
      have hs := Lib.hid HR.out.2.2.1
      cases o
      · have V := Lib.hid HR.out.stop
        go_wp2_with (go_at_call 36; refine (together_any s m _ hs.out).mono ?_; rintro e w' ⟨rfl, rfl⟩)
        go_ret2
        exact ⟨ret2 (by rw [V.out]) (by rw [V.out]), rfl⟩
      · have V := Lib.hid HR.out.stop_over
        go_wp2
        go_ret2
        exact ⟨ret2 V.out.1.symm V.out.2.symm, rfl⟩

theorem prod_none (a : Option Addr) (cap : Nat) (w : World) :
    Calls Try.prog 23 #[.slice a 0 cap] w fun e w' => e = .returned (.tuple #[.int .i64 (fitV 1), .int .i64 (fitE 1)]) ∧ w = w' := by
  go_enter Try.func23, Try.ntmps23
  go_wp2
  refine wp_loop_rounds 1 ?_
  rw [rounds_succ]
  go_wp2_with (go_at_call 36; refine (together_any 1 false _ (by decide)).mono ?_; rintro e w' ⟨rfl, rfl⟩)
  go_ret2
  exact ⟨rfl, rfl⟩

theorem prod_any {w : World} {a : Option Addr} {n cap : Nat} {l : List Int} (h : Ints w a n cap l) :
    Calls Try.prog 23 #[.slice a n cap] w fun e w' => e = .returned (.tuple #[.int .i64 (fitV (prd l)), .int .i64 (fitE (prd l))]) ∧ w = w' := by
  obtain ⟨h1, h2, h3, h5, h4⟩ := h
  rcases Nat.eq_zero_or_pos n with rfl | hn
  · obtain rfl : l = [] := List.length_eq_zero_iff.1 h1
    exact prod_none a cap w
  · rcases h4 with ⟨_, h0, _⟩ | ⟨⟨b, o, s⟩, rfl, hx⟩
    · omega
    · obtain ⟨rfl, hc⟩ := hx.spot (by omega)
      exact prod_some b o n cap l w h1 (by omega) h5 hc
end Go.Proofs.Ytdckenkomjikbaa
