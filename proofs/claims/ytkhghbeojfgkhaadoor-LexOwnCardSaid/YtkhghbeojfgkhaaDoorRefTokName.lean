/- The reference's token: a name. -/
import Derived.Test.YtkhghbeojfgkhaaDoorRefText
import Derived.Test.YtkhghbeojfgkhaaDoorRefMark
namespace Go.Proofs.YtkhghbeojfgkhaaDoor
open Go.RowKit
set_option maxRecDepth 100000

/-- the reference's name at a place -/
def refName (l : List UInt8) (A : Nat) : Tok × Nat :=
  if 32 < 1 + tw wordB l (A + 1) then (zeroTok, 13) else (⟨1, (l.drop A).take (1 + tw wordB l (A + 1)), 0, 0, A, 1 + tw wordB l (A + 1)⟩, 0)
/-- a byte of a word, as the reference asks -/
theorem word_ways (c : UInt8) : (wordB c = true ∧ (letterB c = true ∨ (letterB c = false ∧ digitB c = true) ∨ (letterB c = false ∧ digitB c = false ∧ ((c.toNat : Int) == 95) = true))) ∨ (wordB c = false ∧ letterB c = false ∧ digitB c = false ∧ ((c.toNat : Int) == 95) = false) := by
  have f95 : (c == 95) = ((c.toNat : Int) == 95) := by
    obtain ⟨j1, j2⟩ := u8_is (c := c) (k := 95) (by decide)
    by_cases h95 : c = 95
    · have := (j1 h95).1; rw [show ((95 : Nat) : Int) = 95 from rfl] at this; rw [this, h95]; rfl
    · have := (j2 h95).1; rw [show ((95 : Nat) : Int) = 95 from rfl] at this; rw [this, beq_eq_false_iff_ne]; exact h95
  unfold wordB
  rw [f95]
  cases letterB c <;> cases digitB c <;> cases ((c.toNat : Int) == 95) <;> simp

set_option maxHeartbeats 4000000 in
theorem refTok_name (a : Option Addr) (n cap A : Nat) (l : List UInt8) (w : World) (hT : Txt w a n cap l) (hr : n ≤ 140737488351232) (hA : A < n) (hc : letterB (bAt l A) = true) :
    Calls Tryd.prog 22 #[.slice a n cap, .int .i64 A] w fun e w' => RTok (refName l A) w e w' := by
  have sf : ∀ (p : Addr) (b : Nat) (m : Mode) (w' : World), (store p (.float .f64 b) m).run Tryd.prog w' = stored Tryd.prog w' p (.float .f64 b) m := fun p b m w' => run_store _ w' p _ m rfl
  have hl := hT.1
  obtain ⟨b, o, rfl, hc0⟩ := hT.cellAt hA
  have hb : b < w.heap.size := World.block_lt_of_cell? w _ hc0
  have hL0 := fun W => refLetter_any (bAt l A) W
  rw [hc] at hL0
  have HL0 := Lib.hid hL0
  have HD0 := Lib.hid (fun W => refDigit_any (bAt l A) W)
  have HT := Lib.hid hT
  have HL := Lib.hid hl
  clear hL0 hT hl hc
  go_enter Tryd.func22, Tryd.ntmps22
  go_wp2_with (first | ((go_at_call 33; with_reducible refine (HL0.out _).mono ?_); rintro e w' ⟨rfl, rfl⟩) | ((go_at_call 34; with_reducible refine (HD0.out _).mono ?_); rintro e w' ⟨rfl, rfl⟩))
  clear hc0
  go_loop [6] (fun i => ∃ j : Nat, 1 ≤ j ∧ A + j ≤ n ∧ i = .int .i64 j ∧ Hid (tw wordB l (A + 1) = (j - 1) + tw wordB l (A + j))) (fun i => n - (intOf i).toNat)
  case atStart => exact ⟨1, Nat.le_refl _, hA, rfl, by show tw wordB l (A + 1) = (1 - 1) + tw wordB l (A + 1); omega⟩
  case round =>
    obtain ⟨j, hj1, hj, rfl, hg⟩ := hrel
    have hend : (A + j = n ∨ (A + j < n ∧ wordB (bAt l (A + j)) = false)) ∨ (A + j < n ∧ wordB (bAt l (A + j)) = true) := by
      rcases Nat.lt_or_ge (A + j) n with h | h
      · cases hw : wordB (bAt l (A + j))
        · exact .inl (.inr ⟨h, rfl⟩)
        · exact .inr ⟨h, rfl⟩
      · exact .inl (.inl (by omega))
    rcases hend with hend | ⟨h1, h2⟩
    · have hN : tw wordB l (A + 1) = j - 1 := by
        rw [hg.out]
        have : tw wordB l (A + j) = 0 := by
          rcases hend with h | ⟨_, h⟩
          · have := tw_le wordB l (A + j); rw [HL.out] at this; omega
          · exact tw_no h
        omega
      have hnm : refName l A = if 32 < j then (zeroTok, 13) else (⟨1, (l.drop A).take j, 0, 0, A, j⟩, 0) := by unfold refName; rw [hN, show 1 + (j - 1) = j by omega]
      obtain ⟨a1, hs1, hT1⟩ := slice_mid A (A + j) HT.out (Nat.le_add_right _ _) hj
      rw [Nat.add_sub_cancel_left] at hs1 hT1
      have hs1' : ∀ w', (Instr.slice 22 (.slice (some ⟨b, o, none⟩) n cap) (some (.int .i64 (A : Int))) (some (.int .i64 ((A : Int) + (j : Int)))) none).run Tryd.prog w' = .ok (.slice a1 j (cap - A)) w' := hs1
      have hcv := text_of (hT1.below ((Below.refl w.heap.size w).alloc (Nat.le_refl _) (.cells #[.int .i64 0, .string ⟨#[]⟩, .int .i64 0, .float .f64 0, .int .i64 0, .int .i64 0] 54)) (Nat.le_refl _))
      have HNM := Lib.hid hnm
      clear hN hnm hs1 hT1 hg
      have hf : (decide ((A : Int) + (j : Int) < (n : Int)) = false ∧ decide (A + j < n) = false ∧ (∀ q : UInt8, True)) ∨ (decide ((A : Int) + (j : Int) < (n : Int)) = true ∧ decide (A + j < n) = true ∧ A + j < n ∧ w.cell? ⟨b, o + (A + j), none⟩ = some (.int .u8 ((bAt l (A + j)).toNat : Int)) ∧ letterB (bAt l (A + j)) = false ∧ digitB (bAt l (A + j)) = false ∧ (((bAt l (A + j)).toNat : Int) == 95) = false) := by
        rcases hend with h | ⟨h, h2⟩
        · left; exact ⟨by rw [decide_eq_false_iff_not]; omega, by rw [decide_eq_false_iff_not]; omega, fun _ => trivial⟩
        · right
          obtain ⟨b', o', e, hck⟩ := HT.out.cellAt h
          cases e
          rcases word_ways (bAt l (A + j)) with ⟨e1, _⟩ | ⟨_, e2, e3, e4⟩
          · rw [h2] at e1; cases e1
          · exact ⟨by rw [decide_eq_true_eq]; omega, by rw [decide_eq_true_eq]; omega, h, hck, e2, e3, e4⟩
      obtain ⟨d, hd⟩ : ∃ d, d = bAt l (A + j) := ⟨_, rfl⟩
      rw [← hd] at hf
      have HLt' := fun W => refLetter_any d W
      have HDt' := fun W => refDigit_any d W
      have h32 : (decide ((32 : Int) < (j : Int)) = true ∧ 32 < j) ∨ (decide ((32 : Int) < (j : Int)) = false ∧ ¬ 32 < j) := by
        by_cases h : 32 < j
        · left; exact ⟨by rw [decide_eq_true_eq]; omega, h⟩
        · right; exact ⟨by rw [decide_eq_false_iff_not]; omega, h⟩
      clear hend hd
      rcases hf with ⟨q1, q2, _⟩ | ⟨q1, q2, q3, hck, e1, e2, e3⟩
      · clear HLt' HDt'
        rcases h32 with ⟨g1, g2⟩ | ⟨g1, g2⟩
        · have HF : Hid (refName l A = (zeroTok, 13)) := by
            have : refName l A = (zeroTok, 13) := by rw [HNM.out, if_pos g2]
            exact this
          clear g2
          go_wp2_with fail
          refine bodyPost_ret (v := .tuple #[.agg #[.int .i64 0, .string ⟨#[]⟩, .int .i64 0, .float .f64 0, .int .i64 0, .int .i64 0], .int .i64 13]) (by simp [results, Tryd.results22, go_sem]) rfl ?_
          rw [HF.out]
          exact ⟨rfl, (Below.refl _ _).alloc (Nat.le_refl _) _⟩
        · have HF : Hid (refName l A = (⟨1, (l.drop A).take j, 0, 0, A, j⟩, 0)) := by
            have : refName l A = (⟨1, (l.drop A).take j, 0, 0, A, j⟩, 0) := by rw [HNM.out, if_neg g2]
            exact this
          clear g2
          go_wp2_with fail
          refine bodyPost_ret (v := .tuple #[.agg #[.int .i64 1, .string ⟨((l.drop A).take j).toArray⟩, .int .i64 0, .float .f64 0, .int .i64 A, .int .i64 j], .int .i64 0]) (by simp [results, Tryd.results22, go_sem]) rfl ?_
          rw [HF.out]
          exact ⟨rfl, (Below.refl _ _).alloc (Nat.le_refl _) _⟩
      · rw [e1] at HLt'
        rw [e2] at HDt'
        have HLt := Lib.hid HLt'
        have HDt := Lib.hid HDt'
        clear HLt' HDt' e1 e2
        rcases h32 with ⟨g1, g2⟩ | ⟨g1, g2⟩
        · have HF : Hid (refName l A = (zeroTok, 13)) := by
            have : refName l A = (zeroTok, 13) := by rw [HNM.out, if_pos g2]
            exact this
          clear g2
          go_wp2_with (first | ((go_at_call 33; with_reducible refine (HLt.out _).mono ?_); rintro e w' ⟨rfl, rfl⟩) | ((go_at_call 34; with_reducible refine (HDt.out _).mono ?_); rintro e w' ⟨rfl, rfl⟩))
          refine bodyPost_ret (v := .tuple #[.agg #[.int .i64 0, .string ⟨#[]⟩, .int .i64 0, .float .f64 0, .int .i64 0, .int .i64 0], .int .i64 13]) (by simp [results, Tryd.results22, go_sem]) rfl ?_
          rw [HF.out]
          exact ⟨rfl, (Below.refl _ _).alloc (Nat.le_refl _) _⟩
        · have HF : Hid (refName l A = (⟨1, (l.drop A).take j, 0, 0, A, j⟩, 0)) := by
            have : refName l A = (⟨1, (l.drop A).take j, 0, 0, A, j⟩, 0) := by rw [HNM.out, if_neg g2]
            exact this
          clear g2
          go_wp2_with (first | ((go_at_call 33; with_reducible refine (HLt.out _).mono ?_); rintro e w' ⟨rfl, rfl⟩) | ((go_at_call 34; with_reducible refine (HDt.out _).mono ?_); rintro e w' ⟨rfl, rfl⟩))
          refine bodyPost_ret (v := .tuple #[.agg #[.int .i64 1, .string ⟨((l.drop A).take j).toArray⟩, .int .i64 0, .float .f64 0, .int .i64 A, .int .i64 j], .int .i64 0]) (by simp [results, Tryd.results22, go_sem]) rfl ?_
          rw [HF.out]
          exact ⟨rfl, (Below.refl _ _).alloc (Nat.le_refl _) _⟩
    · obtain ⟨b', o', e, hck⟩ := HT.out.cellAt h1
      cases e
      have HG2 : Hid (tw wordB l (A + 1) = (j + 1 - 1) + tw wordB l (A + (j + 1))) := by
        have : tw wordB l (A + 1) = (j + 1 - 1) + tw wordB l (A + (j + 1)) := by
          rw [hg.out, (tw_yes h2 word0).2, ← Nat.add_assoc A j 1]
          omega
        exact this
      have hw := word_ways (bAt l (A + j))
      obtain ⟨d, hd⟩ : ∃ d, d = bAt l (A + j) := ⟨_, rfl⟩
      rw [← hd] at hck hw h2
      have HLt' := fun W => refLetter_any d W
      have HDt' := fun W => refDigit_any d W
      rw [h2] at hw
      clear hg h2 hd
      rcases hw with ⟨_, e1 | ⟨e1, e2⟩ | ⟨e1, e2, e3⟩⟩ | ⟨e, _⟩
      · rw [e1] at HLt'
        have HLt := Lib.hid HLt'
        have HDt := Lib.hid HDt'
        clear HLt' HDt' e1
        go_wp2_with (first | ((go_at_call 33; with_reducible refine (HLt.out _).mono ?_); rintro e w' ⟨rfl, rfl⟩) | ((go_at_call 34; with_reducible refine (HDt.out _).mono ?_); rintro e w' ⟨rfl, rfl⟩))
        go_round
        case rel => exact ⟨j + 1, by omega, by omega, by go_num, HG2⟩
        case measure => simp [intOf]; omega
      · rw [e1] at HLt'
        rw [e2] at HDt'
        have HLt := Lib.hid HLt'
        have HDt := Lib.hid HDt'
        clear HLt' HDt' e1 e2
        go_wp2_with (first | ((go_at_call 33; with_reducible refine (HLt.out _).mono ?_); rintro e w' ⟨rfl, rfl⟩) | ((go_at_call 34; with_reducible refine (HDt.out _).mono ?_); rintro e w' ⟨rfl, rfl⟩))
        go_round
        case rel => exact ⟨j + 1, by omega, by omega, by go_num, HG2⟩
        case measure => simp [intOf]; omega
      · rw [e1] at HLt'
        rw [e2] at HDt'
        have HLt := Lib.hid HLt'
        have HDt := Lib.hid HDt'
        clear HLt' HDt' e1 e2
        go_wp2_with (first | ((go_at_call 33; with_reducible refine (HLt.out _).mono ?_); rintro e w' ⟨rfl, rfl⟩) | ((go_at_call 34; with_reducible refine (HDt.out _).mono ?_); rintro e w' ⟨rfl, rfl⟩))
        go_round
        case rel => exact ⟨j + 1, by omega, by omega, by go_num, HG2⟩
        case measure => simp [intOf]; omega
      · cases e
end Go.Proofs.YtkhghbeojfgkhaaDoor
