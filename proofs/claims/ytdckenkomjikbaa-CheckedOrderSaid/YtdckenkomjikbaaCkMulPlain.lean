/- Plain facts on a product of rows of digits, row by row: no program. -/
import Derived.Test.YtdckenkomjikbaaCkDigPlain
namespace Go.Proofs.Ytdckenkomjikbaa
open Go.RowKit

theorem val_noughts (k : Nat) : val (List.replicate k 0) = 0 := by
  induction k with
  | zero => rfl
  | succ k ih => simp only [List.replicate_succ, val, ih]; rfl
theorem dig_noughts (k : Nat) : Dig (List.replicate k 0) := fun x hx => by rw [(List.mem_replicate.1 hx).2]; omega
theorem noughts_snoc (k : Nat) : List.replicate k (0 : Int) ++ [0] = List.replicate (k + 1) 0 := by rw [List.replicate_succ']

/-- a digit's row: k digits of x done, c carried -/
def MulR (x : List Int) (y : Int) (i k : Nat) (c : Int) (ds : List Int) : Prop :=
  ds.length = i + k ∧ Dig ds ∧ 0 ≤ c ∧ c ≤ 9 ∧ val ds + P10 (i + k) * c = P10 i * (val (x.take k) * y) ∧ (k ≤ x.length ∨ c = 0) ∧ k ≤ x.length + 1
theorem MulR.start (x : List Int) (y : Int) (i : Nat) : MulR x y i 0 0 (List.replicate i 0) :=
  ⟨by simp, dig_noughts i, by omega, by omega, by rw [val_noughts]; simp [val], by omega, by omega⟩
theorem mul_digit {a b c : Int} (a0 : 0 ≤ a) (a9 : a ≤ 9) (b0 : 0 ≤ b) (b9 : b ≤ 9) (c0 : 0 ≤ c) (c9 : c ≤ 9) : 0 ≤ a * b ∧ a * b ≤ 81 ∧ 0 ≤ (a * b + c) / 10 ∧ (a * b + c) / 10 ≤ 9 ∧ 0 ≤ (a * b + c) % 10 ∧ (a * b + c) % 10 ≤ 9 ∧ a * b + c ≤ 90 ∧ 0 ≤ a * b + c := by
  have h1 : 0 ≤ a * b := Int.mul_nonneg a0 b0
  have h2 : a * b ≤ 9 * 9 := Int.mul_le_mul a9 b9 b0 (by omega)
  omega
theorem MulR.step {x : List Int} {y : Int} {i k : Nat} {c : Int} {ds : List Int} (hx : Dig x) (y0 : 0 ≤ y) (y9 : y ≤ 9) (h : MulR x y i k c ds) (hc : k < x.length ∨ 0 < c) :
    MulR x y i (k + 1) ((dg x k * y + c) / 10) (ds ++ [(dg x k * y + c) % 10]) := by
  obtain ⟨h1, h2, h3, h4, h5, h6, h7⟩ := h
  have d := dg_in hx k
  obtain ⟨m1, m2, m3, m4, m5, m6, m7, m8⟩ := mul_digit d.1 d.2 y0 y9 h3 h4
  refine ⟨by simp [h1]; omega, h2.snoc m5 m6, m3, m4, ?_, ?_, by omega⟩
  · rw [val_snoc, h1, val_take]
    have e : dg x k * y + c = 10 * ((dg x k * y + c) / 10) + (dg x k * y + c) % 10 := by omega
    have e3 : P10 (i + (k + 1)) = 10 * P10 (i + k) := rfl
    rw [e3, Int.add_mul, Int.mul_add]
    have e4 : P10 i * (P10 k * dg x k * y) = P10 (i + k) * (dg x k * y) := by rw [P10_add]; simp only [Int.mul_assoc]
    rw [e4]
    have e5 : P10 (i + k) * (dg x k * y + c) = P10 (i + k) * (10 * ((dg x k * y + c) / 10) + (dg x k * y + c) % 10) := by rw [← e]
    generalize (dg x k * y + c) / 10 = q at *
    generalize (dg x k * y + c) % 10 = r at *
    rw [Int.mul_add, Int.mul_add] at e5
    have e6 : P10 (i + k) * (10 * q) = 10 * P10 (i + k) * q := by rw [Int.mul_left_comm, Int.mul_assoc]
    omega
  · rcases Nat.lt_or_ge k x.length with hk | hk
    · omega
    · right
      rw [dg_out hk]; omega
theorem MulR.stop {x : List Int} {y : Int} {i k : Nat} {c : Int} {ds : List Int} (h : MulR x y i k c ds) (hc : ¬ (k < x.length ∨ 0 < c)) : val ds = P10 i * (val x * y) ∧ Dig ds ∧ ds.length ≤ i + x.length + 1 := by
  obtain ⟨h1, h2, h3, h4, h5, h6, h7⟩ := h
  obtain rfl : c = 0 := by omega
  rw [List.take_of_length_le (by omega)] at h5
  exact ⟨by omega, h2, by omega⟩

/-- the rows' sum: i digits of y done -/
def RowsR (x y : List Int) (i : Nat) (ds : List Int) : Prop := Dig ds ∧ val ds = val x * val (y.take i) ∧ ds.length ≤ x.length + i + 1
theorem RowsR.start (x y : List Int) : RowsR x y 0 [] := ⟨Dig.nil, by simp [val], by simp⟩
theorem RowsR.step {x y : List Int} {i : Nat} {ds row all : List Int} (h : RowsR x y i ds) (hi : i < y.length) (hr : val row = P10 i * (val x * y[i]) ∧ Dig row ∧ row.length ≤ i + x.length + 1) (ha : val all = val ds + val row) (hd : Dig all) (hl : all.length ≤ ds.length + 1 ∨ all.length ≤ row.length + 1) :
    RowsR x y (i + 1) all := by
  obtain ⟨h1, h2, h3⟩ := h
  refine ⟨hd, ?_, by omega⟩
  rw [ha, h2, hr.1, val_take, dg_at hi, Int.mul_add, Int.mul_left_comm]
end Go.Proofs.Ytdckenkomjikbaa
