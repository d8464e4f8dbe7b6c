/- A number's token and the reference's at one place: the same, or the same error: no program. -/
import Derived.Test.YtkhghbeojfgkhaaDoorTokSame
import Derived.Test.YtkhghbeojfgkhaaDoorRefTokAll
namespace Go.Proofs.YtkhghbeojfgkhaaDoor
open Go.RowKit
set_option maxRecDepth 100000

/-- digits that are too great -/
theorem parse_great : ∀ (l : List UInt8) (acc : Nat), (∀ c ∈ l, 48 ≤ c.toNat ∧ c.toNat ≤ 57) → acc ≤ 18446744073709551615 → 18446744073709551615 < valD acc l → Lib.parseUintM 18446744073709551615 acc l = .range
  | [], acc, _, h, hv => by
    have : valD acc [] = acc := rfl
    omega
  | c :: r, acc, hd, h, hv => by
    have h1 := hd c (by simp)
    have h3 : valD acc (c :: r) = valD (acc * 10 + (c.toNat - 48)) r := rfl
    rw [h3] at hv
    unfold Lib.parseUintM
    rw [if_pos h1]
    by_cases g1 : 1844674407370955162 ≤ acc
    · rw [if_pos g1]
    · rw [if_neg g1]
      by_cases g2 : 18446744073709551615 < acc * 10 + (c.toNat - 48)
      · rw [if_pos g2]
      · rw [if_neg g2]
        exact parse_great r _ (fun x hx => hd x (List.mem_cons_of_mem _ hx)) (by omega) hv

theorem whole_nil : wholeF [] = none := rfl
/-- the int that digits are -/
theorem whole_digits {D : List UInt8} (hd : ∀ c ∈ D, 48 ≤ c.toNat ∧ c.toNat ≤ 57) (hne : D ≠ []) :
    wholeF D = if 1 < D.length ∧ bAt D 0 = 48 then none else Option.map (fun v : Nat => (v : Int)) (refW D) := by
  have hu : Lib.parseUintB 64 D = if valD 0 D ≤ 18446744073709551615 then .ok (valD 0 D) else .range := by
    unfold Lib.parseUintB
    rw [if_neg hne]
    by_cases hv : valD 0 D ≤ 18446744073709551615
    · rw [if_pos hv]; exact parse_digits D 0 hd hv
    · rw [if_neg hv]; exact parse_great D 0 hd (by omega) (by omega)
  obtain ⟨c, r, hcr⟩ : ∃ c r, D = c :: r := by
    cases D with
    | nil => exact absurd rfl hne
    | cons c r => exact ⟨c, r, rfl⟩
  have hc := hd c (by rw [hcr]; simp)
  have hp : Lib.parseIntB 64 D = if valD 0 D ≤ 9223372036854775807 then .ok ((valD 0 D : Nat) : Int) else .range := by
    generalize valD 0 D = v at *
    rw [hcr] at hu ⊢
    unfold Lib.parseIntB
    simp only
    rw [if_neg (by omega), hu]
    have hn : ¬ (c.toNat = 45) := by omega
    by_cases hv : v ≤ 18446744073709551615
    · rw [if_pos hv]
      simp only [hn, not_false_eq_true, true_and, false_and, if_false]
      by_cases hlt : v ≤ 9223372036854775807
      · rw [if_neg (by omega), if_pos hlt]
      · rw [if_pos (by omega), if_neg hlt]
    · rw [if_neg hv, if_neg (by omega)]
  unfold wholeF refW
  rw [hp]
  by_cases hlt : valD 0 D ≤ 9223372036854775807
  · rw [if_pos hlt, if_pos hlt]
    rfl
  · rw [if_neg hlt, if_neg hlt]
    simp

/-- a real's two numbers: the scanner's form and the reference's -/
theorem form_down (m x : Nat) : (if (x : Int) = 0 then none else if oneFormB (m : Int) (-(x : Int)) = true then some (realBits m (-(x : Int))) else none) = realC m x true := by
  unfold realC oneFormB
  by_cases hx : x = 0
  · subst hx; simp
  · rw [if_neg (by omega)]
    by_cases hm : m = 0
    · subst hm
      simp [hx]
    · rw [if_neg (show ¬ ((m : Int) = 0) by omega)]
      by_cases hc : (m : Int) % 2 = 0 ∨ 9007199254740992 ≤ (m : Int) ∨ -(x : Int) < -1074 ∨ 1023 < -(x : Int)
      · rw [if_pos hc, if_neg (by simp), if_pos]
        rcases hc with h | h | h | h
        · exact .inr (.inr (.inl ⟨by omega, hm⟩))
        · exact .inl (by omega)
        · exact .inr (.inl (by simp; omega))
        · omega
      · have hb := bitLen_log2 m (by omega) (by omega)
        have hl := log2_le (m := m) (by omega) (by omega)
        rw [if_neg hc, Int.toNat_natCast, hb, if_pos (by simp; omega), if_neg, if_pos rfl]
        rintro (h | h | h | h | h)
        · omega
        · simp at h; omega
        · omega
        · omega
        · omega
theorem form_up (m x : Nat) : (if oneFormB (m : Int) (x : Int) = true then some (realBits m (x : Int)) else none) = realC m x false := by
  unfold realC oneFormB
  by_cases hm : m = 0
  · subst hm
    by_cases hx : x = 0
    · subst hx; simp
    · simp [hx]
  · rw [if_neg (show ¬ ((m : Int) = 0) by omega)]
    by_cases hc : (m : Int) % 2 = 0 ∨ 9007199254740992 ≤ (m : Int) ∨ (x : Int) < -1074 ∨ 1023 < (x : Int)
    · rw [if_pos hc, if_neg (by simp), if_pos]
      rcases hc with h | h | h | h
      · exact .inr (.inr (.inl ⟨by omega, hm⟩))
      · exact .inl (by omega)
      · omega
      · exact .inr (.inl (by simp; omega))
    · have hb := bitLen_log2 m (by omega) (by omega)
      have hn : ¬ (9007199254740992 ≤ m ∨ (if (false = true) then 1074 else 1023) < x ∨ (m % 2 = 0 ∧ m ≠ 0) ∨ (m = 0 ∧ x ≠ 0) ∨ (false = true ∧ x = 0)) := by
        rintro (h | h | h | h | h)
        · omega
        · rw [if_neg (by decide)] at h; omega
        · omega
        · omega
        · exact absurd h.1 (by decide)
      rw [if_neg hc, Int.toNat_natCast, hb]
      by_cases hf : (m.log2 : Int) + 1 + x ≤ 1024
      · have hL : decide (((m.log2 + 1 : Nat) : Int) + (x : Int) ≤ 1024) = true := by rw [decide_eq_true_iff]; omega
        rw [hL, if_pos rfl, if_neg hn, if_neg (by decide), if_pos (.inr hf)]
      · have hL : decide (((m.log2 + 1 : Nat) : Int) + (x : Int) ≤ 1024) = false := by rw [decide_eq_false_iff_not]; omega
        rw [hL, if_neg (by decide), if_neg hn, if_neg (by decide), if_neg (by rintro (h | h); exact hm h; exact hf h)]

/-- a real's bytes: its two digits' rows -/
theorem scaled_down {D1 D2 : List UInt8} (h1 : ∀ c ∈ D1, 48 ≤ c.toNat ∧ c.toNat ≤ 57) : scaledF (D1 ++ 112 :: 45 :: D2) = match wholeF D1, wholeF D2 with
    | some m, some e => if e = 0 then none else if oneFormB m (-e) = true then some (m, -e) else none
    | _, _ => none := by
  unfold scaledF
  rw [cut_digits _ _ h1]
  simp only
  have e0 : bAt (45 :: D2) 0 = 45 := rfl
  rw [if_pos e0, List.drop_one, List.tail_cons]
  simp only [if_pos e0]
  cases wholeF D1 <;> cases wholeF D2 <;> rfl
theorem scaled_up {D1 D2 : List UInt8} (h1 : ∀ c ∈ D1, 48 ≤ c.toNat ∧ c.toNat ≤ 57) (h2 : bAt D2 0 ≠ 45) : scaledF (D1 ++ 112 :: D2) = match wholeF D1, wholeF D2 with
    | some m, some e => if oneFormB m e = true then some (m, e) else none
    | _, _ => none := by
  unfold scaledF
  rw [cut_digits _ _ h1]
  simp only [if_neg h2]
  cases wholeF D1 <;> cases wholeF D2 <;> rfl

theorem tok_whole {l : List UInt8} {A E : Nat} (hs : spanE l A = (2, E)) : tokAt l A = if wordB (bAt l E) = true then (⟨0, [], 0, 0, A, 0⟩, 12) else
    match wholeF (pieceOf l A E) with | some v => (⟨2, [], v, 0, A, E - A⟩, 0) | none => (⟨0, [], 0, 0, A, 0⟩, 12) := by
  unfold tokAt faultF
  rw [hs]
  simp only [baseF]
  cases hw : wordB (bAt l E)
  · cases wholeF (pieceOf l A E) <;> simp
  · simp
theorem tok_real {l : List UInt8} {A E : Nat} (hs : spanE l A = (3, E)) : tokAt l A = if wordB (bAt l E) = true then (⟨0, [], 0, 0, A, 0⟩, 12) else
    match scaledF (pieceOf l A E) with | some (m, e) => (⟨3, [], 0, realBits m e, A, E - A⟩, 0) | none => (⟨0, [], 0, 0, A, 0⟩, 12) := by
  unfold tokAt faultF
  rw [hs]
  simp only [baseF]
  cases hw : wordB (bAt l E)
  · cases scaledF (pieceOf l A E) <;> simp
  · simp
theorem same12 (t u : Tok) : SameT (t, 12) (u, 12) := ⟨rfl, fun h => by cases h⟩

/-- two rows of digits, and what stands between them -/
theorem same_real {D1 D2 : List UInt8} {A N M : Nat} {below : Bool} (h1 : ∀ c ∈ D1, 48 ≤ c.toNat ∧ c.toNat ≤ 57) (h2 : ∀ c ∈ D2, 48 ≤ c.toNat ∧ c.toNat ≤ 57) (n1 : D1 ≠ []) (n2 : D2 ≠ []) :
    SameT (match scaledF (D1 ++ 112 :: (if below = true then 45 :: D2 else D2)) with | some (m, e) => (⟨3, [], 0, realBits m e, A, N + M⟩, 0) | none => (⟨0, [], 0, 0, A, 0⟩, 12))
      (if (1 < D1.length ∧ bAt D1 0 = 48) ∨ (1 < D2.length ∧ bAt D2 0 = 48) then (zeroTok, 12) else realT A N M D1 D2 below) := by
  have hb2 : bAt D2 0 ≠ 45 := by
    cases D2 with
    | nil => exact absurd rfl n2
    | cons c r =>
      have := h2 c (by simp)
      show c ≠ 45
      rintro rfl
      have h45 : (45 : UInt8).toNat = 45 := rfl
      omega
  have w1 := whole_digits h1 n1
  have w2 := whole_digits h2 n2
  have hs : scaledF (D1 ++ 112 :: (if below = true then 45 :: D2 else D2)) = if (1 < D1.length ∧ bAt D1 0 = 48) ∨ (1 < D2.length ∧ bAt D2 0 = 48) then none else
      match refW D1, refW D2 with
      | some m, some x => if below = true then (if (x : Int) = 0 then none else if oneFormB (m : Int) (-(x : Int)) = true then some ((m : Int), -(x : Int)) else none) else (if oneFormB (m : Int) (x : Int) = true then some ((m : Int), (x : Int)) else none)
      | _, _ => none := by
    cases below
    · rw [if_neg (by decide), scaled_up h1 hb2, w1, w2]
      by_cases g1 : 1 < D1.length ∧ bAt D1 0 = 48
      · rw [if_pos g1, if_pos (show (1 < D1.length ∧ bAt D1 0 = 48) ∨ (1 < D2.length ∧ bAt D2 0 = 48) from .inl g1)]
      · rw [if_neg g1]
        by_cases g2 : 1 < D2.length ∧ bAt D2 0 = 48
        · rw [if_pos g2, if_pos (.inr g2)]; cases (refW D1) <;> rfl
        · rw [if_neg g2, if_neg (by rintro (h | h); exact g1 h; exact g2 h)]
          cases refW D1 <;> cases refW D2 <;> simp
    · rw [if_pos rfl, scaled_down h1, w1, w2]
      by_cases g1 : 1 < D1.length ∧ bAt D1 0 = 48
      · rw [if_pos g1, if_pos (show (1 < D1.length ∧ bAt D1 0 = 48) ∨ (1 < D2.length ∧ bAt D2 0 = 48) from .inl g1)]
      · rw [if_neg g1]
        by_cases g2 : 1 < D2.length ∧ bAt D2 0 = 48
        · rw [if_pos g2, if_pos (.inr g2)]; cases (refW D1) <;> rfl
        · rw [if_neg g2, if_neg (by rintro (h | h); exact g1 h; exact g2 h)]
          cases refW D1 <;> cases refW D2 <;> simp
  rw [hs]
  by_cases g : (1 < D1.length ∧ bAt D1 0 = 48) ∨ (1 < D2.length ∧ bAt D2 0 = 48)
  · rw [if_pos g, if_pos g]
    exact same12 _ _
  · rw [if_neg g, if_neg g]
    unfold realT
    cases refW D1 with
    | none => exact same12 _ _
    | some m =>
      cases refW D2 with
      | none => exact same12 _ _
      | some x =>
        simp only
        cases below
        · rw [← form_up, if_neg (by decide)]
          by_cases ho : oneFormB (m : Int) (x : Int) = true
          · rw [if_pos ho, if_pos ho]; exact ⟨rfl, fun _ => rfl⟩
          · rw [if_neg ho, if_neg ho]; exact same12 _ _
        · rw [← form_down, if_pos rfl]
          by_cases h0 : (x : Int) = 0
          · rw [if_pos h0, if_pos h0]; exact same12 _ _
          · rw [if_neg h0, if_neg h0]
            by_cases ho : oneFormB (m : Int) (-(x : Int)) = true
            · rw [if_pos ho, if_pos ho]; exact ⟨rfl, fun _ => rfl⟩
            · rw [if_neg ho, if_neg ho]; exact same12 _ _

theorem row_len {l : List UInt8} {j : Nat} : ((l.drop j).take (tw digitB l j)).length = tw digitB l j := by
  have := tw_le digitB l j
  rw [List.length_take, List.length_drop]
  omega
theorem row_head {l : List UInt8} {j k : Nat} (h : 0 < k) : bAt ((l.drop j).take k) 0 = bAt l j := by
  rw [bAt_take, if_pos h, bAt_drop, Nat.add_zero]
theorem row_ne {l : List UInt8} {j : Nat} (h : 0 < tw digitB l j) : (l.drop j).take (tw digitB l j) ≠ [] := by
  intro e
  have := row_len (l := l) (j := j)
  rw [e] at this
  simp at this
  omega

/-- a real's bytes, in their rows -/
theorem real_rows {l : List UInt8} {A N H T : Nat} {below : Bool} (hp : bAt l (A + N) = 112) (hH : (below = true ∧ H = 2 ∧ bAt l (A + N + 1) = 45) ∨ (below = false ∧ H = 1)) (hlen : A + N + H + T ≤ l.length) :
    pieceOf l A (A + N + (H + T)) = (l.drop A).take N ++ 112 :: (if below = true then 45 :: (l.drop (A + N + H)).take T else (l.drop (A + N + H)).take T) := by
  unfold pieceOf
  rw [show A + N + (H + T) - A = N + (H + T) by omega, List.take_add, List.drop_drop]
  congr 1
  rcases hH with ⟨rfl, rfl, h45⟩ | ⟨rfl, rfl⟩
  · rw [drop_bAt (j := A + N) (by omega), hp, show 2 + T = (1 + T) + 1 by omega, List.take_succ_cons, drop_bAt (j := A + N + 1) (by omega), h45, Nat.add_comm 1 T, List.take_succ_cons, if_pos rfl]
  · rw [drop_bAt (j := A + N) (by omega), hp, Nat.add_comm 1 T, List.take_succ_cons, if_neg (by decide)]

theorem same_num {l : List UInt8} {A : Nat} (hA : A < l.length) (hlet : letterB (bAt l A) = false) (hd : digitB (bAt l A) = true) : SameT (tokAt l A) (refNum l A) := by
  have hN1 := (tw_yes (p := digitB) hd digit0).2
  have hlen := tw_end l A (Nat.le_of_lt hA)
  have hD1 := tw_digits l A
  have hL1 := row_len (l := l) (j := A)
  have hH1 : bAt ((l.drop A).take (tw digitB l A)) 0 = bAt l A := row_head (by omega)
  have hne1 := row_ne (l := l) (j := A) (by omega)
  have hspan : spanE l A = numEnd l (A + tw digitB l A) := by
    unfold spanE
    rw [if_neg (by simp [hlet]), if_pos hd, hN1, Nat.add_assoc]
  generalize hN : tw digitB l A = N at *
  by_cases hp : bAt l (A + N) = 112
  · obtain ⟨below, H, hH, hend, hnum⟩ : ∃ below H, ((below = true ∧ H = 2 ∧ bAt l (A + N + 1) = 45) ∨ (below = false ∧ H = 1)) ∧
        endF l (A + N) = (if tw digitB l (A + N + H) = 0 then (0, 0) else (H + tw digitB l (A + N + H), H)) ∧ numEnd l (A + N) = (3, A + N + H + tw digitB l (A + N + H)) := by
      unfold endF numEnd
      have hnp : ¬ (bAt l (A + N) ≠ 112) := fun h => h hp
      rw [if_pos hp, if_neg hnp]
      by_cases h45 : bAt l (A + N + 1) = 45
      · exact ⟨true, 2, .inl ⟨rfl, rfl, h45⟩, by simp only [if_pos h45], by rw [if_pos h45]⟩
      · exact ⟨false, 1, .inr ⟨rfl, rfl⟩, by simp only [if_neg h45], by rw [if_neg h45]⟩
    have hb := spanE_bounds l A (Nat.le_of_lt hA)
    rw [hspan, hnum] at hb
    have hT := hb.2.1
    simp only at hT
    rw [hnum, Nat.add_assoc] at hspan
    rw [tok_real hspan, real_rows hp hH hT]
    unfold refNum
    rw [hN, hend]
    have hL2 := row_len (l := l) (j := A + N + H)
    have hD2 := tw_digits l (A + N + H)
    by_cases h0 : tw digitB l (A + N + H) = 0
    · rw [if_pos h0]
      have hf : followsB l (A + N + 0) = true := by
        unfold followsB
        rw [Nat.add_zero, hp]; decide
      simp only
      rw [hf, Bool.true_or, if_pos rfl]
      by_cases hw : wordB (bAt l (A + N + (H + tw digitB l (A + N + H)))) = true
      · rw [if_pos hw]; exact same12 _ _
      · rw [if_neg hw, h0, List.take_zero]
        have hs : scaledF ((l.drop A).take N ++ 112 :: (if below = true then [45] else [])) = none := by
          cases below
          · rw [if_neg (by decide), scaled_up hD1 (by decide), whole_nil]
            cases wholeF ((l.drop A).take N) <;> rfl
          · rw [if_pos rfl, scaled_down hD1, whole_nil]
            cases wholeF ((l.drop A).take N) <;> rfl
        rw [hs]
        exact same12 _ _
    · rw [if_neg h0]
      have hne2 := row_ne (l := l) (j := A + N + H) (by omega)
      have hH2 : bAt ((l.drop (A + N + H)).take (tw digitB l (A + N + H))) 0 = bAt l (A + N + H) := row_head (by omega)
      generalize tw digitB l (A + N + H) = T at *
      simp only
      unfold followsB
      by_cases hw : wordB (bAt l (A + N + (H + T))) = true
      · rw [if_pos hw, hw, Bool.true_or, if_pos rfl]; exact same12 _ _
      · have hwf : wordB (bAt l (A + N + (H + T))) = false := by simpa using hw
        have hbel : (H == 2) = below := by
          rcases hH with ⟨rfl, rfl, _⟩ | ⟨rfl, rfl⟩ <;> rfl
        rw [if_neg hw, hwf, Bool.false_or, if_pos (show 0 < H + T by omega), show H + T - H = T by omega, hbel]
        have hnou : (noughtsB l A N (H + T) H = true) ↔ ((1 < ((l.drop A).take N).length ∧ bAt ((l.drop A).take N) 0 = 48) ∨ (1 < ((l.drop (A + N + H)).take T).length ∧ bAt ((l.drop (A + N + H)).take T) 0 = 48)) := by
          rw [hL1, hL2, hH1, hH2]
          unfold noughtsB
          simp only [Bool.or_eq_true, Bool.and_eq_true, beq_iff_eq, decide_eq_true_eq]
          constructor
          · rintro (⟨a, b⟩ | ⟨a, b⟩)
            · exact .inl ⟨b, a⟩
            · exact .inr ⟨by omega, b⟩
          · rintro (⟨a, b⟩ | ⟨a, b⟩)
            · exact .inl ⟨b, a⟩
            · exact .inr ⟨by omega, b⟩
        have hsr := same_real (A := A) (N := N) (M := H + T) (below := below) hD1 hD2 hne1 hne2
        rw [show A + N + (H + T) - A = N + (H + T) by omega]
        by_cases hc : noughtsB l A N (H + T) H = true
        · rw [if_pos hc]
          rw [if_pos (hnou.1 hc)] at hsr
          exact hsr
        · rw [if_neg hc]
          rw [if_neg (fun h => hc (hnou.2 h))] at hsr
          exact hsr
  · have hend : endF l (A + N) = (0, 0) := by unfold endF; rw [if_neg hp]
    have hnum : numEnd l (A + N) = (2, A + N) := by unfold numEnd; rw [if_pos hp]
    rw [hnum] at hspan
    rw [tok_whole hspan]
    unfold refNum
    rw [hN, hend]
    simp only [Nat.add_zero, Nat.lt_irrefl, if_false]
    have hpc : pieceOf l A (A + N) = (l.drop A).take N := by unfold pieceOf; rw [Nat.add_sub_cancel_left]
    unfold followsB
    by_cases hw : wordB (bAt l (A + N)) = true
    · rw [if_pos hw, hw, Bool.true_or, if_pos rfl]; exact same12 _ _
    · have hwf : wordB (bAt l (A + N)) = false := by simpa using hw
      have hnou : (noughtsB l A N 0 0 = true) ↔ (1 < ((l.drop A).take N).length ∧ bAt ((l.drop A).take N) 0 = 48) := by
        rw [hL1, hH1]
        unfold noughtsB
        simp only [Bool.or_eq_true, Bool.and_eq_true, beq_iff_eq, decide_eq_true_eq]
        constructor
        · rintro (⟨a, b⟩ | ⟨a, b⟩)
          · exact ⟨b, a⟩
          · omega
        · rintro ⟨a, b⟩
          exact .inl ⟨b, a⟩
      rw [if_neg hw, hwf, Bool.false_or, hpc, whole_digits hD1 hne1, Nat.add_sub_cancel_left]
      by_cases hc : noughtsB l A N 0 0 = true
      · rw [if_pos hc, if_pos (hnou.1 hc)]; exact same12 _ _
      · rw [if_neg hc, if_neg (fun h => hc (hnou.2 h))]
        cases refW ((l.drop A).take N) with
        | none => exact same12 _ _
        | some v => exact ⟨rfl, fun _ => rfl⟩
end Go.Proofs.YtkhghbeojfgkhaaDoor
