/- What the scanner finds, as plain functions on bytes: no program. -/
import Derived.Test.YtkhghbeojfgkhaaDoorLinePlain
namespace Go.Proofs.YtkhghbeojfgkhaaDoor
open Go.RowKit

/-- the byte at a place, 0 behind the end -/
def bAt (l : List UInt8) (i : Nat) : UInt8 := l[i]?.getD 0
def blankB (c : UInt8) : Bool := c == 32 || c == 9 || c == 10 || c == 13
def letterB (c : UInt8) : Bool := decide (65 ≤ c.toNat ∧ c.toNat ≤ 90) || decide (97 ≤ c.toNat ∧ c.toNat ≤ 122)
def digitB (c : UInt8) : Bool := decide (48 ≤ c.toNat ∧ c.toNat ≤ 57)
def wordB (c : UInt8) : Bool := letterB c || digitB c || c == 95

theorem bAt_lt {l : List UInt8} {i : Nat} (h : i < l.length) : bAt l i = l[i] := by simp [bAt, List.getElem?_eq_getElem h]
theorem bAt_ge {l : List UInt8} {i : Nat} (h : l.length ≤ i) : bAt l i = 0 := by simp [bAt, List.getElem?_eq_none h]

/-- how many bytes of a kind stand from a place on -/
def tw (p : UInt8 → Bool) (l : List UInt8) (j : Nat) : Nat := ((l.drop j).takeWhile p).length
/-- how many bytes belong to blanks and comments; in a comment already, or not -/
def skipS : Bool → List UInt8 → Nat
  | _, [] => 0
  | true, c :: r => if c = 10 then 1 + skipS false r else 1 + skipS true r
  | false, c :: r => if blankB c = true then 1 + skipS false r else if c = 35 then 1 + skipS true r else 0
/-- how many bytes of a text stand behind its first quote -/
def quoteLen : List UInt8 → Nat
  | [] => 0
  | c :: r => if c = 34 then 1 else if c = 92 then (match r with | [] => 1 | _ :: r' => 2 + quoteLen r') else 1 + quoteLen r
theorem quoteLen_cons (c : UInt8) (r : List UInt8) : quoteLen (c :: r) = if c = 34 then 1 else if c = 92 then (match r with | [] => 1 | _ :: r' => 2 + quoteLen r') else 1 + quoteLen r := by
  rw [quoteLen.eq_def]
def twoMark (a b : UInt8) : Bool := (a == 61 && b == 61) || (a == 33 && b == 61) || (a == 60 && b == 61) || (a == 62 && b == 61) || (a == 38 && b == 38) || (a == 124 && b == 124) || (a == 45 && b == 62)
def marksText : List UInt8 := [40, 41, 123, 125, 44, 59, 58, 46, 38, 43, 45, 42, 47, 37, 60, 62, 33, 61, 95]
def oneMark (c : UInt8) : Bool := marksText.contains c
def markLen : List UInt8 → Nat
  | [] => 0
  | [c] => if oneMark c = true then 1 else 0
  | c :: d :: _ => if twoMark c d = true then 2 else if oneMark c = true then 1 else 0
theorem markLen_le (r : List UInt8) : markLen r ≤ r.length := by
  match r with
  | [] => simp [markLen]
  | [c] => simp only [markLen]; split <;> simp
  | c :: d :: t => simp only [markLen, List.length_cons]; split <;> (try split) <;> omega
theorem At.drop {w : World} {b o : Nat} {l : List UInt8} (h : At w ⟨b, o, none⟩ l) (k : Nat) : At w ⟨b, o + k, none⟩ (l.drop k) := fun i hi => by
  have hi' : k + i < l.length := by simp at hi; omega
  have := (h.spot (by omega)).2 (k + i) hi'
  have hadd : (⟨b, o + k, none⟩ : Addr).add i = ⟨b, o + (k + i), none⟩ := by unfold Addr.add; split <;> simp_all <;> omega
  rw [hadd, this]
  simp
/-- kind and end of a number whose first digits end at d -/
def numEnd (l : List UInt8) (d : Nat) : Nat × Nat :=
  if bAt l d ≠ 112 then (2, d)
  else if bAt l (d + 1) = 45 then (3, d + 2 + tw digitB l (d + 2)) else (3, d + 1 + tw digitB l (d + 1))
/-- kind and end of the token that begins at a place -/
def spanE (l : List UInt8) (A : Nat) : Nat × Nat :=
  if letterB (bAt l A) = true then (1, A + 1 + tw wordB l (A + 1))
  else if digitB (bAt l A) = true then numEnd l (A + 1 + tw digitB l (A + 1))
  else if bAt l A = 34 then (4, min (A + 1 + quoteLen (l.drop (A + 1))) l.length)
  else if 0 < markLen (l.drop A) then (5, A + markLen (l.drop A)) else (0, A)

theorem drop_bAt {l : List UInt8} {j : Nat} (h : j < l.length) : l.drop j = bAt l j :: l.drop (j + 1) := by
  rw [bAt_lt h]; exact List.drop_eq_getElem_cons h
theorem tw_yes {p : UInt8 → Bool} {l : List UInt8} {j : Nat} (hp : p (bAt l j) = true) (h0 : p 0 = false) : j < l.length ∧ tw p l j = 1 + tw p l (j + 1) := by
  have hj : j < l.length := by
    rcases Nat.lt_or_ge j l.length with h | h
    · exact h
    · rw [bAt_ge h, h0] at hp; cases hp
  refine ⟨hj, ?_⟩
  unfold tw
  rw [drop_bAt hj, List.takeWhile_cons, if_pos hp, List.length_cons]
  omega
theorem tw_no {p : UInt8 → Bool} {l : List UInt8} {j : Nat} (hp : p (bAt l j) = false) : tw p l j = 0 := by
  unfold tw
  rcases Nat.lt_or_ge j l.length with h | h
  · rw [drop_bAt h, List.takeWhile_cons, if_neg (by simp [hp])]; rfl
  · rw [List.drop_eq_nil_of_le h]; rfl
theorem word0 : wordB 0 = false := by decide
theorem digit0 : digitB 0 = false := by decide
theorem letter0 : letterB 0 = false := by decide
theorem tw_le (p : UInt8 → Bool) (l : List UInt8) (j : Nat) : tw p l j ≤ l.length - j := by
  unfold tw
  have := (List.takeWhile_prefix p (l := l.drop j)).length_le
  simpa using this

/-- what a state of the machine means for what is told at the end -/
def SpanR (l : List UInt8) (K A E : Nat) (lab i at_ : Nat) : Prop :=
  match lab with
  | 0 => i ≤ l.length ∧ A = i + skipS false (l.drop i) ∧ spanE l A = (K, E)
  | 1 => i < l.length ∧ A = i + 1 + skipS true (l.drop (i + 1)) ∧ spanE l A = (K, E)
  | 2 => i < l.length ∧ at_ = A ∧ K = 1 ∧ E = i + 1 + tw wordB l (i + 1)
  | 3 => i < l.length ∧ at_ = A ∧ numEnd l (i + 1 + tw digitB l (i + 1)) = (K, E)
  | 4 => i ≤ l.length ∧ at_ = A ∧ K = 4 ∧ E = min (i + 1 + quoteLen (l.drop (i + 1))) l.length
  | 5 => i < l.length ∧ at_ = A ∧ K = 3 ∧ E = i + 1 + tw digitB l (i + 1)
  | 6 => i < l.length ∧ at_ = A ∧ K = 4 ∧ E = min (i + 2 + quoteLen (l.drop (i + 2))) l.length
  | _ => False

section
variable {l : List UInt8} {K A E i at_ : Nat}
theorem r0_end (h : SpanR l K A E 0 i at_) (hi : i = l.length) : K = 0 ∧ A = i ∧ E = i := by
  obtain ⟨_, h2, h3⟩ := h
  subst hi
  have hA : A = l.length := by rw [h2, List.drop_length]; simp [skipS]
  rw [hA] at h3 ⊢
  unfold spanE at h3
  rw [bAt_ge (Nat.le_refl _), letter0, digit0, List.drop_length] at h3
  simp [markLen] at h3
  omega
theorem r0_blank (h : SpanR l K A E 0 i at_) (hi : i < l.length) (hb : blankB (bAt l i) = true) (x : Nat) : SpanR l K A E 0 (i + 1) x := by
  obtain ⟨_, h2, h3⟩ := h
  refine ⟨by omega, ?_, h3⟩
  rw [drop_bAt hi, skipS, if_pos hb] at h2
  omega
theorem r0_comment (h : SpanR l K A E 0 i at_) (hi : i < l.length) (hb : blankB (bAt l i) = false) (hc : bAt l i = 35) (x : Nat) : SpanR l K A E 1 i x := by
  obtain ⟨_, h2, h3⟩ := h
  refine ⟨hi, ?_, h3⟩
  rw [drop_bAt hi, skipS, if_neg (by simp [hb]), if_pos hc] at h2
  omega
theorem r0_here (h : SpanR l K A E 0 i at_) (hi : i < l.length) (hb : blankB (bAt l i) = false) (hc : bAt l i ≠ 35) : A = i ∧ spanE l i = (K, E) := by
  obtain ⟨_, h2, h3⟩ := h
  rw [drop_bAt hi, skipS, if_neg (by simp [hb]), if_neg hc] at h2
  obtain rfl : A = i := by omega
  exact ⟨rfl, h3⟩
theorem r0_name (h : SpanR l K A E 0 i at_) (hi : i < l.length) (hb : blankB (bAt l i) = false) (hc : bAt l i ≠ 35) (hl : letterB (bAt l i) = true) : SpanR l K A E 2 i i := by
  obtain ⟨rfl, h3⟩ := r0_here h hi hb hc
  unfold spanE at h3
  rw [if_pos hl] at h3
  simp only [Prod.mk.injEq] at h3
  exact ⟨hi, rfl, h3.1.symm, h3.2.symm⟩
theorem r0_number (h : SpanR l K A E 0 i at_) (hi : i < l.length) (hb : blankB (bAt l i) = false) (hc : bAt l i ≠ 35) (hl : letterB (bAt l i) = false) (hd : digitB (bAt l i) = true) : SpanR l K A E 3 i i := by
  obtain ⟨rfl, h3⟩ := r0_here h hi hb hc
  unfold spanE at h3
  rw [if_neg (by simp [hl]), if_pos hd] at h3
  exact ⟨hi, rfl, h3⟩
theorem r0_quoted (h : SpanR l K A E 0 i at_) (hi : i < l.length) (hb : blankB (bAt l i) = false) (hc : bAt l i ≠ 35) (hl : letterB (bAt l i) = false) (hd : digitB (bAt l i) = false) (hq : bAt l i = 34) : SpanR l K A E 4 i i := by
  obtain ⟨rfl, h3⟩ := r0_here h hi hb hc
  unfold spanE at h3
  rw [if_neg (by simp [hl]), if_neg (by simp [hd]), if_pos hq] at h3
  simp only [Prod.mk.injEq] at h3
  exact ⟨by omega, rfl, h3.1.symm, h3.2.symm⟩
theorem r0_mark (h : SpanR l K A E 0 i at_) (hi : i < l.length) (hb : blankB (bAt l i) = false) (hc : bAt l i ≠ 35) (hl : letterB (bAt l i) = false) (hd : digitB (bAt l i) = false) (hq : bAt l i ≠ 34) (hm : 0 < markLen (l.drop i)) : A = i ∧ K = 5 ∧ E = i + markLen (l.drop i) := by
  obtain ⟨rfl, h3⟩ := r0_here h hi hb hc
  unfold spanE at h3
  rw [if_neg (by simp [hl]), if_neg (by simp [hd]), if_neg hq, if_pos hm] at h3
  simp only [Prod.mk.injEq] at h3
  exact ⟨rfl, h3.1.symm, h3.2.symm⟩
theorem r0_none (h : SpanR l K A E 0 i at_) (hi : i < l.length) (hb : blankB (bAt l i) = false) (hc : bAt l i ≠ 35) (hl : letterB (bAt l i) = false) (hd : digitB (bAt l i) = false) (hq : bAt l i ≠ 34) (hm : markLen (l.drop i) = 0) : A = i ∧ K = 0 ∧ E = i := by
  obtain ⟨rfl, h3⟩ := r0_here h hi hb hc
  unfold spanE at h3
  rw [if_neg (by simp [hl]), if_neg (by simp [hd]), if_neg hq, if_neg (by omega)] at h3
  simp only [Prod.mk.injEq] at h3
  exact ⟨rfl, h3.1.symm, h3.2.symm⟩
theorem r1_on (h : SpanR l K A E 1 i at_) (hi : i + 1 < l.length) (hc : bAt l (i + 1) ≠ 10) : SpanR l K A E 1 (i + 1) at_ := by
  obtain ⟨_, h2, h3⟩ := h
  refine ⟨hi, ?_, h3⟩
  rw [drop_bAt hi, skipS, if_neg hc] at h2
  omega
theorem r1_off (h : SpanR l K A E 1 i at_) (hi : i + 1 = l.length ∨ bAt l (i + 1) = 10) (x : Nat) : SpanR l K A E 0 (i + 1) x := by
  obtain ⟨h1, h2, h3⟩ := h
  refine ⟨by omega, ?_, h3⟩
  rw [h2]
  rcases Nat.lt_or_ge (i + 1) l.length with h4 | h4
  · have h5 : bAt l (i + 1) = 10 := by rcases hi with h | h; omega; exact h
    rw [drop_bAt h4, skipS, skipS, if_pos h5, if_pos (by rw [h5]; decide)]
  · rw [List.drop_eq_nil_of_le h4]; simp [skipS]
theorem r2_on (h : SpanR l K A E 2 i at_) (hw : wordB (bAt l (i + 1)) = true) : SpanR l K A E 2 (i + 1) at_ := by
  obtain ⟨h1, h2, h3, h4⟩ := h
  obtain ⟨h5, h6⟩ := tw_yes hw word0
  exact ⟨h5, h2, h3, by rw [h4, h6]; omega⟩
theorem r2_off (h : SpanR l K A E 2 i at_) (hw : wordB (bAt l (i + 1)) = false) : at_ = A ∧ K = 1 ∧ E = i + 1 := by
  obtain ⟨h1, h2, h3, h4⟩ := h
  rw [tw_no hw] at h4
  exact ⟨h2, h3, h4⟩
theorem r3_on (h : SpanR l K A E 3 i at_) (hw : digitB (bAt l (i + 1)) = true) : SpanR l K A E 3 (i + 1) at_ := by
  obtain ⟨h1, h2, h3⟩ := h
  obtain ⟨h5, h6⟩ := tw_yes hw digit0
  exact ⟨h5, h2, by rw [← h3, h6]; congr 1; omega⟩
theorem r3_int (h : SpanR l K A E 3 i at_) (hw : digitB (bAt l (i + 1)) = false) (hp : bAt l (i + 1) ≠ 112) : at_ = A ∧ K = 2 ∧ E = i + 1 := by
  obtain ⟨h1, h2, h3⟩ := h
  rw [tw_no hw] at h3
  unfold numEnd at h3
  rw [if_pos hp] at h3
  simp only [Prod.mk.injEq] at h3
  exact ⟨h2, h3.1.symm, h3.2.symm⟩
theorem r3_lt (hp : bAt l (i + 1) = 112) : i + 1 < l.length := by
  rcases Nat.lt_or_ge (i + 1) l.length with h | h
  · exact h
  · rw [bAt_ge h] at hp; exact absurd hp (by decide)
theorem r3_neg (h : SpanR l K A E 3 i at_) (hw : digitB (bAt l (i + 1)) = false) (hp : bAt l (i + 1) = 112) (hm : bAt l (i + 1 + 1) = 45) : SpanR l K A E 5 (i + 1 + 1) at_ := by
  obtain ⟨h1, h2, h3⟩ := h
  rw [tw_no hw] at h3
  unfold numEnd at h3
  rw [if_neg (by simpa using hp), if_pos hm] at h3
  simp only [Prod.mk.injEq] at h3
  have hlt : i + 1 + 1 < l.length := by
    rcases Nat.lt_or_ge (i + 1 + 1) l.length with h | h
    · exact h
    · rw [bAt_ge h] at hm; exact absurd hm (by decide)
  exact ⟨hlt, h2, h3.1.symm, h3.2.symm⟩
theorem r3_pos (h : SpanR l K A E 3 i at_) (hw : digitB (bAt l (i + 1)) = false) (hp : bAt l (i + 1) = 112) (hm : bAt l (i + 1 + 1) ≠ 45) : SpanR l K A E 5 (i + 1) at_ := by
  obtain ⟨h1, h2, h3⟩ := h
  rw [tw_no hw] at h3
  unfold numEnd at h3
  rw [if_neg (by simpa using hp), if_neg hm] at h3
  simp only [Prod.mk.injEq] at h3
  exact ⟨r3_lt hp, h2, h3.1.symm, h3.2.symm⟩
theorem r5_on (h : SpanR l K A E 5 i at_) (hw : digitB (bAt l (i + 1)) = true) : SpanR l K A E 5 (i + 1) at_ := by
  obtain ⟨h1, h2, h3, h4⟩ := h
  obtain ⟨h5, h6⟩ := tw_yes hw digit0
  exact ⟨h5, h2, h3, by rw [h4, h6]; omega⟩
theorem r5_off (h : SpanR l K A E 5 i at_) (hw : digitB (bAt l (i + 1)) = false) : at_ = A ∧ K = 3 ∧ E = i + 1 := by
  obtain ⟨h1, h2, h3, h4⟩ := h
  rw [tw_no hw] at h4
  exact ⟨h2, h3, h4⟩
theorem r4_esc (h : SpanR l K A E 4 i at_) (hi : i + 1 < l.length) (hc : bAt l (i + 1) = 92) : SpanR l K A E 6 (i + 1) at_ := by
  obtain ⟨h1, h2, h3, h4⟩ := h
  refine ⟨hi, h2, h3, ?_⟩
  rw [h4, drop_bAt hi, quoteLen_cons, if_neg (by rw [hc]; decide), if_pos hc]
  rcases Nat.lt_or_ge (i + 1 + 1) l.length with h5 | h5
  · rw [drop_bAt h5]
    simp only []
    rw [show i + 1 + 1 + 1 = i + 1 + 2 from rfl]
    congr 1
    omega
  · rw [List.drop_eq_nil_of_le h5, List.drop_eq_nil_of_le (show l.length ≤ i + 1 + 2 by omega)]
    simp only [quoteLen]
    omega
theorem r4_on (h : SpanR l K A E 4 i at_) (hi : i + 1 < l.length) (hc : bAt l (i + 1) ≠ 92) (hq : bAt l (i + 1) ≠ 34) : SpanR l K A E 4 (i + 1) at_ := by
  obtain ⟨h1, h2, h3, h4⟩ := h
  refine ⟨by omega, h2, h3, ?_⟩
  rw [h4, drop_bAt hi, quoteLen_cons, if_neg hq, if_neg hc]
  congr 1
  omega
theorem r4_off (h : SpanR l K A E 4 i at_) (hi : l.length ≤ i + 1 ∨ bAt l (i + 1) = 34) : at_ = A ∧ K = 4 ∧ E = min (i + 1 + 1) l.length := by
  obtain ⟨h1, h2, h3, h4⟩ := h
  refine ⟨h2, h3, ?_⟩
  rw [h4]
  rcases Nat.lt_or_ge (i + 1) l.length with h5 | h5
  · have hq : bAt l (i + 1) = 34 := by rcases hi with h | h; omega; exact h
    rw [drop_bAt h5, quoteLen_cons, if_pos hq]
  · rw [List.drop_eq_nil_of_le h5]
    simp only [quoteLen]
    omega
theorem r6_on (h : SpanR l K A E 6 i at_) : SpanR l K A E 4 (i + 1) at_ := by
  obtain ⟨h1, h2, h3, h4⟩ := h
  exact ⟨by omega, h2, h3, h4⟩
end
end Go.Proofs.YtkhghbeojfgkhaaDoor
