/- Plain facts on rows of decimal digits, the lowest first: no program. -/
import Derived.Test.YtdckenkomjikbaaCkSumPlain
namespace Go.Proofs.Ytdckenkomjikbaa
open Go.RowKit

def P10 : Nat → Int
  | 0 => 1
  | k + 1 => 10 * P10 k
def val : List Int → Int
  | [] => 0
  | d :: t => d + 10 * val t
def Dig (l : List Int) : Prop := ∀ d ∈ l, 0 ≤ d ∧ d ≤ 9
/-- no nought stands last -/
def Can (l : List Int) : Prop := l = [] ∨ P10 (l.length - 1) ≤ val l
/-- the digit at a place, 0 behind the end -/
def dg (l : List Int) (k : Nat) : Int := l.getD k 0

theorem P10_pos (k : Nat) : 1 ≤ P10 k := by induction k with
  | zero => simp [P10]
  | succ k ih => simp only [P10]; omega
theorem P10_mono {a b : Nat} (h : a ≤ b) : P10 a ≤ P10 b := by
  induction b with
  | zero => obtain rfl : a = 0 := by omega
            exact Int.le_refl _
  | succ b ih =>
    rcases Nat.lt_or_ge a (b + 1) with h2 | h2
    · have := ih (by omega); have := P10_pos b; simp only [P10]; omega
    · obtain rfl : a = b + 1 := by omega
      exact Int.le_refl _
theorem P10_add (a b : Nat) : P10 (a + b) = P10 a * P10 b := by
  induction b with
  | zero => simp [P10]
  | succ b ih => rw [Nat.add_succ]; simp only [P10]; rw [ih]; rw [Int.mul_left_comm]
theorem Dig.nil : Dig [] := fun d h => by simp at h
theorem Dig.snoc {l : List Int} {d : Int} (h : Dig l) (h0 : 0 ≤ d) (h9 : d ≤ 9) : Dig (l ++ [d]) := fun x hx => by
  rcases List.mem_append.1 hx with h1 | h1
  · exact h x h1
  · simp at h1; subst h1; exact ⟨h0, h9⟩
theorem Dig.take {l : List Int} (h : Dig l) (k : Nat) : Dig (l.take k) := fun x hx => h x (List.mem_of_mem_take hx)
theorem Dig.drop {l : List Int} (h : Dig l) (k : Nat) : Dig (l.drop k) := fun x hx => h x (List.mem_of_mem_drop hx)
theorem Dig.tail {d : Int} {l : List Int} (h : Dig (d :: l)) : Dig l := fun x hx => h x (by simp [hx])
theorem Dig.allIn {l : List Int} (h : Dig l) : AllIn l := fun x hx => by have := h x hx; omega
theorem Dig.get {l : List Int} (h : Dig l) (k : Nat) (hk : k < l.length) : 0 ≤ l[k] ∧ l[k] ≤ 9 := h _ (List.getElem_mem hk)
theorem dg_in {l : List Int} (h : Dig l) (k : Nat) : 0 ≤ dg l k ∧ dg l k ≤ 9 := by
  unfold dg
  rcases Nat.lt_or_ge k l.length with hk | hk
  · rw [List.getD_eq_getElem?_getD, List.getElem?_eq_getElem hk]; exact h.get k hk
  · rw [List.getD_eq_getElem?_getD, List.getElem?_eq_none hk]; simp
theorem dg_at {l : List Int} {k : Nat} (hk : k < l.length) : dg l k = l[k] := by unfold dg; rw [List.getD_eq_getElem?_getD, List.getElem?_eq_getElem hk]; rfl
theorem dg_out {l : List Int} {k : Nat} (hk : l.length ≤ k) : dg l k = 0 := by unfold dg; rw [List.getD_eq_getElem?_getD, List.getElem?_eq_none hk]; rfl
theorem val_append (a b : List Int) : val (a ++ b) = val a + P10 a.length * val b := by
  induction a with
  | nil => simp [val, P10]
  | cons d a ih => simp only [List.cons_append, val, List.length_cons, P10, ih]; rw [Int.mul_add, Int.mul_assoc]; omega
theorem val_snoc (a : List Int) (d : Int) : val (a ++ [d]) = val a + P10 a.length * d := by rw [val_append]; simp [val]
theorem val_pos {l : List Int} (h : Dig l) : 0 ≤ val l := by
  induction l with
  | nil => simp [val]
  | cons d l ih => have := ih h.tail; have := h d (by simp); simp only [val]; omega
theorem val_lt {l : List Int} (h : Dig l) : val l < P10 l.length := by
  induction l with
  | nil => simp [val, P10]
  | cons d l ih => have := ih h.tail; have := h d (by simp); simp only [val, List.length_cons, P10]; omega
theorem val_take (l : List Int) (k : Nat) : val (l.take (k + 1)) = val (l.take k) + P10 k * dg l k := by
  rcases Nat.lt_or_ge k l.length with hk | hk
  · rw [take_step l k hk, val_snoc, dg_at hk, List.length_take, Nat.min_eq_left (by omega)]
  · rw [dg_out hk, List.take_of_length_le (by omega), List.take_of_length_le (by omega)]; simp
theorem val_split (l : List Int) (k : Nat) (hk : k ≤ l.length) : val l = val (l.take k) + P10 k * val (l.drop k) := by
  conv => lhs; rw [← List.take_append_drop k l]
  rw [val_append, List.length_take, Nat.min_eq_left hk]
theorem val_drop (l : List Int) (k : Nat) (hk : k < l.length) : val (l.drop k) = l[k] + 10 * val (l.drop (k + 1)) := by
  rw [List.drop_eq_getElem_cons hk]; rfl
theorem Can.len {l : List Int} (h : Can l) {k : Nat} (hv : val l < P10 k) : l.length ≤ k := by
  rcases h with rfl | h
  · simp
  · rcases Nat.lt_or_ge k l.length with h2 | h2
    · have := P10_mono (show k ≤ l.length - 1 by omega); omega
    · exact h2
theorem Can.nil : Can [] := .inl rfl
theorem Can.zero {l : List Int} (h : Can l) : l.length = 0 ↔ val l = 0 := by
  constructor
  · intro h0; rw [List.length_eq_zero_iff.1 h0]; rfl
  · intro hv
    rcases h with rfl | h
    · rfl
    · have := P10_pos (l.length - 1); omega

/-- the sum of two rows, k digits done -/
def TogR (a b : List Int) (k : Nat) (c : Int) (ds : List Int) : Prop :=
  ds.length = k ∧ Dig ds ∧ 0 ≤ c ∧ c ≤ 1 ∧ val ds + P10 k * c = val (a.take k) + val (b.take k) ∧ (k ≤ a.length ∨ k ≤ b.length ∨ c = 0) ∧ (k ≤ a.length + 1 ∨ k ≤ b.length + 1) ∧ (k ≤ a.length ∨ k ≤ b.length ∨ P10 (k - 1) ≤ val a + val b)
theorem TogR.start (a b : List Int) : TogR a b 0 0 [] := ⟨rfl, Dig.nil, by omega, by omega, by simp [val], by omega, by omega, by omega⟩
theorem TogR.step {a b : List Int} (ha : Dig a) (hb : Dig b) {k : Nat} {c : Int} {ds : List Int} (h : TogR a b k c ds) (hc : k < a.length ∨ k < b.length ∨ 0 < c) :
    TogR a b (k + 1) ((dg a k + dg b k + c) / 10) (ds ++ [(dg a k + dg b k + c) % 10]) := by
  obtain ⟨h1, h2, h3, h4, h5, h6, h7, h8⟩ := h
  have da := dg_in ha k
  have db := dg_in hb k
  refine ⟨by simp [h1], h2.snoc (by omega) (by omega), by omega, by omega, ?_, ?_, ?_, ?_⟩
  · rw [val_snoc, h1, val_take, val_take]
    simp only [P10]
    have e : (dg a k + dg b k + c) = 10 * ((dg a k + dg b k + c) / 10) + (dg a k + dg b k + c) % 10 := by omega
    generalize (dg a k + dg b k + c) / 10 = q at *
    generalize (dg a k + dg b k + c) % 10 = r at *
    have e2 : P10 k * (10 * q + r) = P10 k * (dg a k + dg b k + c) := by rw [e]
    rw [Int.mul_add, Int.mul_add, Int.mul_add, Int.mul_left_comm] at e2
    rw [Int.mul_assoc]
    omega
  · rcases Nat.lt_or_ge k a.length with ka | ka
    · omega
    · rcases Nat.lt_or_ge k b.length with kb | kb
      · omega
      · right; right
        rw [dg_out ka, dg_out kb]; omega
  · omega
  · rcases Nat.lt_or_ge k a.length with ka | ka
    · omega
    · rcases Nat.lt_or_ge k b.length with kb | kb
      · omega
      · right; right
        have hc1 : c = 1 := by omega
        rw [hc1, List.take_of_length_le (by omega), List.take_of_length_le (by omega)] at h5
        have := val_pos h2
        simp only [Nat.add_sub_cancel]; omega
theorem TogR.stop {a b : List Int} {k : Nat} {c : Int} {ds : List Int} (h : TogR a b k c ds) (hc : ¬ (k < a.length ∨ k < b.length ∨ 0 < c)) :
    val ds = val a + val b ∧ Dig ds ∧ (Dig a → Dig b → Can a → Can b → Can ds) ∧ (ds.length ≤ a.length + 1 ∨ ds.length ≤ b.length + 1) := by
  obtain ⟨h1, h2, h3, h4, h5, h6, h7, h8⟩ := h
  obtain rfl : c = 0 := by omega
  rw [List.take_of_length_le (by omega), List.take_of_length_le (by omega)] at h5
  refine ⟨by omega, h2, fun da db ca cb => ?_, by omega⟩
  have pa := val_pos da
  have pb := val_pos db
  rcases Nat.eq_zero_or_pos k with rfl | hk
  · exact .inl (List.length_eq_zero_iff.1 h1)
  · right
    rw [h1]
    rcases h8 with h8 | h8 | h8
    · have hl : a.length = k := by omega
      rcases ca with rfl | ca
      · simp at hl; omega
      · rw [hl] at ca; omega
    · have hl : b.length = k := by omega
      rcases cb with rfl | cb
      · simp at hl; omega
      · rw [hl] at cb; omega
    · omega

/-- the difference of two rows, k digits done -/
def ApaR (a b : List Int) (k : Nat) (c : Int) (ds : List Int) : Prop :=
  ds.length = k ∧ Dig ds ∧ 0 ≤ c ∧ c ≤ 1 ∧ val ds + val (b.take k) = val (a.take k) + P10 k * c
theorem ApaR.start (a b : List Int) : ApaR a b 0 0 [] := ⟨rfl, Dig.nil, by omega, by omega, by simp [val]⟩
theorem ApaR.plain {a b : List Int} (ha : Dig a) (hb : Dig b) {k : Nat} {c : Int} {ds : List Int} (h : ApaR a b k c ds) (hk : k < a.length) (h0 : ¬ (a[k] - dg b k - c < 0)) :
    ApaR a b (k + 1) 0 (ds ++ [a[k] - dg b k - c]) := by
  obtain ⟨h1, h2, h3, h4, h5⟩ := h
  have da := ha.get k hk
  have db := dg_in hb k
  refine ⟨by simp [h1], h2.snoc (by omega) (by omega), by omega, by omega, ?_⟩
  rw [val_snoc, h1, val_take, val_take, dg_at hk, Int.mul_sub, Int.mul_sub]
  omega
theorem ApaR.borrow {a b : List Int} (ha : Dig a) (hb : Dig b) {k : Nat} {c : Int} {ds : List Int} (h : ApaR a b k c ds) (hk : k < a.length) (h0 : a[k] - dg b k - c < 0) :
    ApaR a b (k + 1) 1 (ds ++ [a[k] - dg b k - c + 10]) := by
  obtain ⟨h1, h2, h3, h4, h5⟩ := h
  have da := ha.get k hk
  have db := dg_in hb k
  refine ⟨by simp [h1], h2.snoc (by omega) (by omega), by omega, by omega, ?_⟩
  rw [val_snoc, h1, val_take, val_take, dg_at hk, Int.mul_add, Int.mul_sub, Int.mul_sub]
  simp only [P10]
  omega
theorem ApaR.stop {a b : List Int} {c : Int} {ds : List Int} (h : ApaR a b a.length c ds) (ha : Dig a) (hb : Dig b) (cb : Can b) (hle : val b ≤ val a) : val ds = val a - val b ∧ Dig ds := by
  obtain ⟨h1, h2, h3, h4, h5⟩ := h
  have hl : b.length ≤ a.length := cb.len (Int.lt_of_le_of_lt hle (val_lt ha))
  rw [List.take_of_length_le hl, List.take_of_length_le (Nat.le_refl _)] at h5
  have := val_lt h2
  rw [h1] at this
  have hc : c = 0 := by
    rcases Int.lt_or_le 0 c with h6 | h6
    · obtain rfl : c = 1 := by omega
      omega
    · omega
  subst hc
  exact ⟨by omega, h2⟩
theorem cut_more {l : List Int} {k : Nat} (hk : k < l.length) (h0 : l[k] = 0) : val (l.take (k + 1)) = val (l.take k) := by rw [val_take, dg_at hk, h0]; simp
theorem cut_stop {l : List Int} (h : Dig l) {k : Nat} (hk : k < l.length) (h0 : l[k] ≠ 0) : Can (l.take (k + 1)) := by
  right
  have d := h.get k hk
  have p := P10_pos k
  have v := val_pos (h.take k)
  rw [val_take, dg_at hk, List.length_take, Nat.min_eq_left (by omega)]
  simp only [Nat.add_sub_cancel]
  have : P10 k * 1 ≤ P10 k * l[k] := Int.mul_le_mul_of_nonneg_left (by omega) (by omega)
  omega
/-- which of two rows of one length is less: told by the highest place where they are unlike -/
theorem less_at {a b : List Int} (ha : Dig a) (hb : Dig b) {m : Nat} (hm : m < a.length) (hmb : m < b.length) (he : val (a.drop (m + 1)) = val (b.drop (m + 1))) (hne : a[m] ≠ b[m]) : decide (val a < val b) = decide (a[m] < b[m]) := by
  have ea := val_split a m (by omega)
  have eb := val_split b m (by omega)
  rw [val_drop a m hm] at ea
  rw [val_drop b m hmb] at eb
  have ta := val_lt (ha.take m)
  have tb := val_lt (hb.take m)
  have pa := val_pos (ha.take m)
  have pb := val_pos (hb.take m)
  rw [List.length_take, Nat.min_eq_left (by omega)] at ta tb
  rw [he] at ea
  generalize val (b.drop (m + 1)) = t at *
  rw [Int.mul_add] at ea eb
  have key : ∀ x y : Int, x < y → P10 m * x + P10 m ≤ P10 m * y := fun x y h => by
    have : P10 m * (x + 1) ≤ P10 m * y := Int.mul_le_mul_of_nonneg_left (by omega) (by have := P10_pos m; omega)
    rw [Int.mul_add] at this; omega
  rcases Int.lt_or_gt_of_ne hne with h | h
  · have := key _ _ h
    rw [decide_eq_true h, decide_eq_true]; omega
  · have := key _ _ h
    rw [decide_eq_false (by omega : ¬ a[m] < b[m]), decide_eq_false]; omega
theorem less_len {a b : List Int} (ha : Dig a) (hb : Dig b) (ca : Can a) (cb : Can b) (hne : a.length ≠ b.length) : decide (val a < val b) = decide (a.length < b.length) := by
  have va := val_lt ha
  have vb := val_lt hb
  have pa := val_pos ha
  have pb := val_pos hb
  rcases Nat.lt_or_gt_of_ne hne with h | h
  · rw [decide_eq_true h, decide_eq_true]
    rcases cb with rfl | cb
    · simp at h
    · have := P10_mono (show a.length ≤ b.length - 1 by omega); omega
  · rw [decide_eq_false (by omega : ¬ a.length < b.length), decide_eq_false]
    rcases ca with rfl | ca
    · simp at h
    · have := P10_mono (show b.length ≤ a.length - 1 by omega); omega
end Go.Proofs.Ytdckenkomjikbaa
