/- The walks of the two Lines. -/
import Derived.Test.YtabjhpgkahbohaaRows
import Derived.Test.YtabjhpgkahbohaaLinePlain
import Derived.Test.YtabjhpgkahbohaaShelf
import Derived.WalkKit
import Derived.WalkSpells
import Derived.WalkLawsBesides
import Derived.Lib.Hide
namespace Go.Proofs.Ytabjhpgkahbohaa
open Go.RowKit

/-- the search from behind, where there is a byte -/
theorem lastIndex_some (b o k cap : Nat) (l : List UInt8) (w : World) (hk : 0 < k) (hl : k ≤ l.length) (hm : l.length ≤ maxLen) (hc : ∀ i (h : i < l.length), w.cell? ⟨b, o + i, none⟩ = some (.int .u8 (l[i].toNat : Int))) :
    Calls Try.prog 16 #[.slice (some ⟨b, o, none⟩) k cap, .int .u8 10] w fun e w' => e = .returned (.int .i64 (lastTo l k)) ∧ w = w' := by
  unfold maxLen at hm
  go_enter Try.func16, Try.ntmps16
  go_wp2
  go_loop [5] (fun i => ∃ j : Nat, j ≤ k ∧ i = .int .i64 ((j : Int) - 1) ∧ lastTo l k = lastTo l j) (fun i => (intOf i + 1).toNat)
  case atStart => exact ⟨k, Nat.le_refl _, rfl, rfl⟩
  case round =>
    obtain ⟨j, hj, rfl, he⟩ := hrel
    have HE := Lib.hid he
    clear he
    by_cases h0 : j = 0
    · subst h0
      go_wp2
      go_ret
      exact ⟨by rw [HE.out]; rfl, rfl⟩
    · obtain ⟨m, rfl⟩ : ∃ m, j = m + 1 := ⟨j - 1, by omega⟩
      have hcell := hc m (by omega)
      by_cases hb : l[m]'(by omega) = 10
      · have hz : (((l[m]'(by omega)).toNat : Int) == 10) = true := by rw [hb]; rfl
        have HY := Lib.hid (lastTo_yes l m (by omega) hb)
        clear hb
        go_wp2
        go_ret
        exact ⟨by rw [HE.out, HY.out]; go_num, rfl⟩
      · have hz : (((l[m]'(by omega)).toNat : Int) == 10) = false := by
          simp only [beq_eq_false_iff_ne, ne_eq]
          intro e
          exact hb (UInt8.toNat_inj.1 (by simpa using Int.ofNat.inj e))
        have HN := Lib.hid (lastTo_no l m (by omega) hb)
        clear hb
        go_wp2
        go_round
        case rel => exact ⟨m, by omega, by go_num, by rw [HE.out, HN.out]⟩
        case measure => simp [intOf]

theorem lastIndex_none (a : Option Addr) (cap : Nat) (w : World) :
    Calls Try.prog 16 #[.slice a 0 cap, .int .u8 10] w fun e w' => e = .returned (.int .i64 (-1)) ∧ w = w' := by
  go_enter Try.func16, Try.ntmps16
  go_wp2
  refine wp_loop_rounds 1 ?_
  rw [rounds_succ]
  go_wp2
  go_ret
  exact ⟨rfl, rfl⟩

theorem lastIndex_any (b o k cap : Nat) (l : List UInt8) (w : World) (hl : k ≤ l.length) (hm : l.length ≤ maxLen) (hc : ∀ i (h : i < l.length), w.cell? ⟨b, o + i, none⟩ = some (.int .u8 (l[i].toNat : Int))) :
    Calls Try.prog 16 #[.slice (some ⟨b, o, none⟩) k cap, .int .u8 10] w fun e w' => e = .returned (.int .i64 (lastTo l k)) ∧ w = w' := by
  rcases Nat.eq_zero_or_pos k with rfl | hk
  · exact lastIndex_none _ _ _
  · exact lastIndex_some b o k cap l w hk hl hm hc

theorem lastByte_any (b o k cap : Nat) (l : List UInt8) (w : World) (hl : k ≤ l.length) (hm : l.length ≤ maxLen) (hc : ∀ i (h : i < l.length), w.cell? ⟨b, o + i, none⟩ = some (.int .u8 (l[i].toNat : Int))) :
    Calls Try.prog 11 #[.slice (some ⟨b, o, none⟩) k cap, .int .u8 10] w fun e w' => e = .returned (.int .i64 (lastTo l k)) ∧ w = w' := by
  have H := lastIndex_any b o k cap l w hl hm hc
  have HH := Lib.hid H
  clear H hc
  go_enter Try.func11, Try.ntmps11
  go_wp2_with (go_at_call 16; refine HH.out.mono ?_; rintro e w' ⟨rfl, rfl⟩)
  go_ret
  exact ⟨rfl, rfl⟩

theorem bytesOf_nums (l : List UInt8) : Lib.bytesOf (l.map fun b => (b.toNat : Int)) = l := by
  simp only [Lib.bytesOf, List.map_map]
  conv => rhs; rw [← List.map_id l]
  apply List.map_congr_left
  intro x _
  simp

/-- bytes.Count of 0a -/
theorem count_any (b o k cap c d : Nat) (l : List UInt8) (w : World) (hl : k ≤ l.length) (hc : ∀ i (h : i < l.length), w.cell? ⟨b, o + i, none⟩ = some (.int .u8 (l[i].toNat : Int))) (hn : w.cell? ⟨c, 0, none⟩ = some (.int .u8 10)) :
    Calls Try.prog 10 #[.slice (some ⟨b, o, none⟩) k cap, .slice (some ⟨c, 0, none⟩) 1 d] w fun e w' => e = .returned (.int .i64 (countTo l k)) ∧ w = w' := by
  refine (Try.bytes_Count_one b o k cap c 0 d ((l.take k).map fun b => (b.toNat : Int)) 10 w (by simp; omega) ?_ hn).mono ?_
  · intro i hi
    rw [hc i (by omega)]
    simp [List.getD, List.getElem?_take_of_lt hi, List.getElem?_eq_getElem (show i < l.length by omega)]
  · rintro e w' ⟨rfl, h⟩
    refine ⟨?_, h.symm⟩
    rw [bytesOf_nums]
    rfl

theorem lexLine_out (a : Option Addr) (n cap : Nat) (at_ : Int) (w : World) (h : at_ < 0 ∨ (n : Int) < at_) :
    Calls Try.prog 5 #[.slice a n cap, .int .i64 at_] w fun e w' => e = .returned (.tuple #[.int .i64 0, .int .i64 0]) ∧ w = w' := by
  by_cases h0 : at_ < 0
  · have hd : decide (at_ < 0) = true := by simpa using h0
    clear h h0
    go_enter Try.func5, Try.ntmps5
    go_wp2
    go_ret2
    exact ⟨rfl, rfl⟩
  · have hd : decide (at_ < 0) = false := by simpa using h0
    have h1 : (n : Int) < at_ := by omega
    have hd1 : decide ((n : Int) < at_) = true := by simpa using h1
    clear h h0 h1
    go_enter Try.func5, Try.ntmps5
    go_wp2
    go_ret2
    exact ⟨rfl, rfl⟩

theorem lexLine_in (b n cap k : Nat) (l : List UInt8) (w : World) (hk : k ≤ n) (hl : l.length = n) (hnc : n ≤ cap) (hm : cap ≤ maxLen) (hr : n ≤ 140737488351232) (hc : ∀ i (h : i < l.length), w.cell? ⟨b, 0 + i, none⟩ = some (.int .u8 (l[i].toNat : Int))) :
    Calls Try.prog 5 #[.slice (some ⟨b, 0, none⟩) n cap, .int .i64 k] w fun e w' => e = .returned (.tuple #[.int .i64 (1 + countTo l k), .int .i64 (k - lastTo l k)]) ∧ Below w.heap.size w w' := by
  have hd : decide ((k : Int) < 0) = false := by simp
  have hd1 : decide ((n : Int) < k) = false := by simp; omega
  have b1 := lastTo_lt l k
  have b2 := countTo_le l k
  have HC := Lib.hid hc
  have HCN : Hid (∀ i (h : i < l.length), (w.alloc (.cells #[.int .u8 10] 5)).cell? ⟨b, 0 + i, none⟩ = some (.int .u8 (l[i].toNat : Int))) := fun i h => cell_keep _ (hc i h)
  clear hc
  subst hl
  unfold maxLen at hm
  go_enter Try.func5, Try.ntmps5
  go_wp2_with (first | (go_at_call 10; refine (count_any b 0 k cap w.heap.size 1 l _ hk HCN.out (by simp)).mono ?_; rintro e w' ⟨rfl, rfl⟩) | (go_at_call 11; refine (lastByte_any b 0 k cap l _ hk (by unfold maxLen; omega) HCN.out).mono ?_; rintro e w' ⟨rfl, rfl⟩))
  go_ret2
  exact ⟨rfl, (Below.refl _ _).alloc (Nat.le_refl _) _⟩

theorem refLine_out (a : Option Addr) (n cap : Nat) (at_ : Int) (w : World) (h : at_ < 0 ∨ (n : Int) < at_) :
    Calls Try.prog 6 #[.slice a n cap, .int .i64 at_] w fun e w' => e = .returned (.tuple #[.int .i64 0, .int .i64 0]) ∧ w = w' := by
  by_cases h0 : at_ < 0
  · have hd : decide (at_ < 0) = true := by simpa using h0
    clear h h0
    go_enter Try.func6, Try.ntmps6
    go_wp2
    go_ret2
    exact ⟨rfl, rfl⟩
  · have hd : decide (at_ < 0) = false := by simpa using h0
    have h1 : (n : Int) < at_ := by omega
    have hd1 : decide ((n : Int) < at_) = true := by simpa using h1
    clear h h0 h1
    go_enter Try.func6, Try.ntmps6
    go_wp2
    go_ret2
    exact ⟨rfl, rfl⟩

theorem refLine_zero (a : Option Addr) (n cap : Nat) (w : World) :
    Calls Try.prog 6 #[.slice a n cap, .int .i64 0] w fun e w' => e = .returned (.tuple #[.int .i64 1, .int .i64 1]) ∧ w = w' := by
  have hd : decide ((n : Int) < 0) = false := by simp
  go_enter Try.func6, Try.ntmps6
  go_wp2
  refine wp_loop_rounds 1 ?_
  rw [rounds_succ]
  go_wp2
  go_ret2
  exact ⟨rfl, rfl⟩

set_option maxHeartbeats 400000 in
theorem refLine_in (b o n cap k : Nat) (l : List UInt8) (w : World) (hk : k ≤ n) (hl : l.length = n) (hr : n ≤ 140737488351232) (hc : ∀ i (h : i < l.length), w.cell? ⟨b, o + i, none⟩ = some (.int .u8 (l[i].toNat : Int))) :
    Calls Try.prog 6 #[.slice (some ⟨b, o, none⟩) n cap, .int .i64 k] w fun e w' => e = .returned (.tuple #[.int .i64 (1 + countTo l k), .int .i64 (k - lastTo l k)]) ∧ w = w' := by
  have hd : decide ((k : Int) < 0) = false := by simp
  have hd1 : decide ((n : Int) < k) = false := by simp; omega
  subst hl
  have HC := Lib.hid hc
  clear hc
  go_enter Try.func6, Try.ntmps6
  go_wp2
  go_loop [6, 7, 8] (fun ln fr i => ∃ j : Nat, j ≤ k ∧ i = .int .i64 j ∧ ln = .int .i64 (1 + countTo l j) ∧ fr = .int .i64 (lastTo l j + 1)) (fun _ _ i => k - (intOf i).toNat)
  case atStart => exact ⟨0, Nat.zero_le _, rfl, by rw [countTo_zero]; rfl, rfl⟩
  case round =>
    obtain ⟨j, hj, rfl, rfl, rfl⟩ := hrel
    have b1 := lastTo_lt l j
    have b2 := countTo_le l j
    by_cases hlt : j < k
    · have hcell := HC.out j (by omega)
      by_cases hb : l[j]'(by omega) = 10
      · have hz : (((l[j]'(by omega)).toNat : Int) == 10) = true := by rw [hb]; rfl
        have HY := Lib.hid (lastTo_yes l j (by omega) hb)
        have HY2 := Lib.hid (countTo_yes l j (by omega) hb)
        clear hb
        go_wp2
        go_round
        case rel => exact ⟨j + 1, by omega, by go_num, by rw [HY2.out]; go_num, by rw [HY.out]⟩
        case measure => simp [intOf]; omega
      · have hz : (((l[j]'(by omega)).toNat : Int) == 10) = false := by
          simp only [beq_eq_false_iff_ne, ne_eq]
          intro e
          exact hb (UInt8.toNat_inj.1 (by simpa using Int.ofNat.inj e))
        have HN := Lib.hid (lastTo_no l j (by omega) hb)
        have HN2 := Lib.hid (countTo_no l j (by omega) hb)
        clear hb
        go_wp2
        go_round
        case rel => exact ⟨j + 1, by omega, by go_num, by rw [HN2.out], by rw [HN.out]⟩
        case measure => simp [intOf]; omega
    · have hjk : k = j := by omega
      subst hjk
      go_wp2
      go_ret2
      exact ⟨ret_two rfl (by omega), rfl⟩
end Go.Proofs.Ytabjhpgkahbohaa
