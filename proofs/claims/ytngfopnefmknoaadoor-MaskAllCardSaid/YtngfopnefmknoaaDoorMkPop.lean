/- Masks: how many bits a word has: the steps by which they are summed. -/
import Derived.Test.YtngfopnefmknoaaDoorMkPlain
import Derived.Laws.Bits64b
set_option linter.all false
namespace Go.Proofs.YtngfopnefmknoaaDoor
open Go.RowKit
set_option maxRecDepth 100000
theorem and_bytes (a b c d : Nat) (hb : b < 256) (hd : d < 256) : (a * 256 + b) &&& (c * 256 + d) = (a &&& c) * 256 + (b &&& d) := by
  apply Nat.eq_of_testBit_eq
  intro j
  rw [Nat.testBit_and, Nat.mul_comm a, Nat.mul_comm c, Nat.mul_comm (a &&& c)]
  have h : b &&& d < 2 ^ 8 := Nat.lt_of_le_of_lt Nat.and_le_left hb
  rw [show (256 : Nat) = 2 ^ 8 from rfl, Nat.testBit_two_pow_mul_add _ hb, Nat.testBit_two_pow_mul_add _ hd, Nat.testBit_two_pow_mul_add _ h]
  split
  · rw [Nat.testBit_and]
  · rw [Nat.testBit_and]
def st1 (x A : Nat) : Nat := (x / 2 &&& A) + (x &&& A)
def st2 (y B : Nat) : Nat := (y / 4 &&& B) + (y &&& B)
def st3 (z C : Nat) : Nat := (z / 16 + z) &&& C
def mk (d : Nat) : Nat → Nat
  | 0 => 0
  | n + 1 => mk d n * 256 + d
def cnt8 (l : Nat) : Nat := cntF l.testBit 8
theorem byte_1 : ∀ b, b < 2 → ∀ l, l < 256 → (b * 128 + l / 2) < 256 ∧ (b * 128 + l / 2) &&& 85 = l / 2 &&& 85 := by decide +kernel
theorem byte_2 : ∀ b, b < 4 → ∀ l, l < 256 → (b * 64 + l / 4) < 256 ∧ (b * 64 + l / 4) &&& 51 = l / 4 &&& 51 := by decide +kernel
theorem byte_3 : ∀ l, l < 256 → st1 l 85 < 256 ∧ st2 (st1 l 85) 51 < 256 ∧ st2 (st1 l 85) 51 % 16 ≤ 4 ∧ ∀ b, b < 5 → (b * 16 + st2 (st1 l 85) 51 / 16 + st2 (st1 l 85) 51) < 256 ∧ (b * 16 + st2 (st1 l 85) 51 / 16 + st2 (st1 l 85) 51) &&& 15 = cnt8 l ∧ cnt8 l ≤ 8 := by decide +kernel
theorem st1_split (h l A : Nat) (hl : l < 256) : st1 (h * 256 + l) (A * 256 + 85) = st1 h A * 256 + st1 l 85 := by
  obtain ⟨h1, h2⟩ := byte_1 (h % 2) (by omega) l hl
  unfold st1
  rw [show (h * 256 + l) / 2 = (h / 2) * 256 + (h % 2 * 128 + l / 2) by omega, and_bytes _ _ _ _ h1 (by omega), and_bytes _ _ _ _ hl (by omega), h2]
  omega
theorem st2_split (h l B : Nat) (hl : l < 256) : st2 (h * 256 + l) (B * 256 + 51) = st2 h B * 256 + st2 l 51 := by
  obtain ⟨h1, h2⟩ := byte_2 (h % 4) (by omega) l hl
  unfold st2
  rw [show (h * 256 + l) / 4 = (h / 4) * 256 + (h % 4 * 64 + l / 4) by omega, and_bytes _ _ _ _ h1 (by omega), and_bytes _ _ _ _ hl (by omega), h2]
  omega
def popB : Nat → Nat → Nat
  | 0, _ => 0
  | n + 1, x => popB n (x / 256) * 256 + cnt8 (x % 256)
theorem pop_bytes : ∀ n x, x < 256 ^ n → st2 (st1 x (mk 85 n)) (mk 51 n) % 16 ≤ 4 ∧ st3 (st2 (st1 x (mk 85 n)) (mk 51 n)) (mk 15 n) = popB n x
  | 0, x, h => by
    have : x = 0 := by simpa using h
    subst this
    decide
  | n + 1, x, h => by
    obtain ⟨i1, i2⟩ := pop_bytes n (x / 256) (by rw [Nat.pow_succ] at h; omega)
    have hx : x = x / 256 * 256 + x % 256 := by omega
    have hl : x % 256 < 256 := by omega
    rw [popB]
    generalize x / 256 = g at *
    generalize x % 256 = l at *
    subst hx
    obtain ⟨b1, b2, b3, b4⟩ := byte_3 l hl
    rw [mk, mk, mk, st1_split _ _ _ hl, st2_split _ _ _ b1]
    generalize st2 (st1 g (mk 85 n)) (mk 51 n) = z at *
    generalize st2 (st1 l 85) 51 = y at *
    refine ⟨by omega, ?_⟩
    obtain ⟨c1, c2, _⟩ := b4 (z % 16) (by omega)
    unfold st3 at i2 ⊢
    rw [show (z * 256 + y) / 16 + (z * 256 + y) = (z / 16 + z) * 256 + (z % 16 * 16 + y / 16 + y) by omega, and_bytes _ _ _ _ c1 (by omega), c2, i2]
theorem cnt8_le (l : Nat) : cnt8 l ≤ 8 := cntF_le _ 8
theorem cnt_byte (h l n : Nat) (hl : l < 256) : cntF (h * 256 + l).testBit (8 + n) = cnt8 l + cntF h.testBit n := by
  rw [cntF_add]
  congr 1
  · refine cntF_ext 8 fun j hj => ?_
    rw [Nat.mul_comm, show (256 : Nat) = 2 ^ 8 from rfl, Nat.testBit_two_pow_mul_add _ hl, if_pos hj]
  · refine cntF_ext n fun j hj => ?_
    rw [Nat.mul_comm, show (256 : Nat) = 2 ^ 8 from rfl, Nat.testBit_two_pow_mul_add _ hl, if_neg (by omega), Nat.add_sub_cancel_left]
theorem cnt_bytes (x n : Nat) : cntF x.testBit (8 + n) = cnt8 (x % 256) + cntF (x / 256).testBit n := by
  have h := cnt_byte (x / 256) (x % 256) n (by omega)
  rwa [show x / 256 * 256 + x % 256 = x by omega] at h
/-- the sum -/
theorem pop_sum (x : Nat) : ∃ c0 c1 c2 c3 c4 c5 c6 c7 : Nat, c0 ≤ 8 ∧ c1 ≤ 8 ∧ c2 ≤ 8 ∧ c3 ≤ 8 ∧ c4 ≤ 8 ∧ c5 ≤ 8 ∧ c6 ≤ 8 ∧ c7 ≤ 8 ∧
    popB 8 x = c0 + 256 * (c1 + 256 * (c2 + 256 * (c3 + 256 * (c4 + 256 * (c5 + 256 * (c6 + 256 * c7)))))) ∧ cntF x.testBit 64 = c0 + c1 + c2 + c3 + c4 + c5 + c6 + c7 := by
  refine ⟨cnt8 (x % 256), cnt8 (x / 256 % 256), cnt8 (x / 256 / 256 % 256), cnt8 (x / 256 / 256 / 256 % 256), cnt8 (x / 256 / 256 / 256 / 256 % 256), cnt8 (x / 256 / 256 / 256 / 256 / 256 % 256), cnt8 (x / 256 / 256 / 256 / 256 / 256 / 256 % 256), cnt8 (x / 256 / 256 / 256 / 256 / 256 / 256 / 256 % 256), cnt8_le _, cnt8_le _, cnt8_le _, cnt8_le _, cnt8_le _, cnt8_le _, cnt8_le _, cnt8_le _, ?_, ?_⟩
  · simp only [popB]
    omega
  · rw [cnt_bytes x 56, cnt_bytes _ 48, cnt_bytes _ 40, cnt_bytes _ 32, cnt_bytes _ 24, cnt_bytes _ 16, cnt_bytes _ 8, cnt_bytes _ 0]
    simp only [cntF]
    omega
theorem fold_1 {c0 c1 c2 c3 c4 c5 c6 c7 : Nat} (h : c0 ≤ 8 ∧ c1 ≤ 8 ∧ c2 ≤ 8 ∧ c3 ≤ 8 ∧ c4 ≤ 8 ∧ c5 ≤ 8 ∧ c6 ≤ 8 ∧ c7 ≤ 8) {p : Nat}
    (hp : p = c0 + 256 * (c1 + 256 * (c2 + 256 * (c3 + 256 * (c4 + 256 * (c5 + 256 * (c6 + 256 * c7))))))) :
    ∃ y z u, y = p + p / 256 ∧ z = y + y / 65536 ∧ u = z + z / 4294967296 ∧ u < 9223372036854775808 ∧ u % 128 = c0 + c1 + c2 + c3 + c4 + c5 + c6 + c7 := by
  obtain ⟨h0, h1, h2, h3, h4, h5, h6, h7⟩ := h
  refine ⟨_, _, _, rfl, rfl, rfl, ?_⟩
  have e1 : p / 256 = c1 + 256 * (c2 + 256 * (c3 + 256 * (c4 + 256 * (c5 + 256 * (c6 + 256 * c7))))) := by omega
  obtain ⟨y, hy⟩ : ∃ y, y = p + p / 256 := ⟨_, rfl⟩
  rw [← hy]
  have ey : y = (c0 + c1) + 256 * ((c1 + c2) + 256 * ((c2 + c3) + 256 * ((c3 + c4) + 256 * ((c4 + c5) + 256 * ((c5 + c6) + 256 * ((c6 + c7) + 256 * c7)))))) := by omega
  clear e1 hp hy
  have e2 : y / 65536 = (c2 + c3) + 256 * ((c3 + c4) + 256 * ((c4 + c5) + 256 * ((c5 + c6) + 256 * ((c6 + c7) + 256 * c7)))) := by omega
  obtain ⟨z, hz⟩ : ∃ z, z = y + y / 65536 := ⟨_, rfl⟩
  rw [← hz]
  have ez : z = (c0 + c1 + c2 + c3) + 256 * ((c1 + c2 + c3 + c4) + 256 * ((c2 + c3 + c4 + c5) + 256 * ((c3 + c4 + c5 + c6) + 256 * ((c4 + c5 + c6 + c7) + 256 * ((c5 + c6 + c7) + 256 * ((c6 + c7) + 256 * c7)))))) := by omega
  clear e2 hz ey
  have e3 : z / 4294967296 = (c4 + c5 + c6 + c7) + 256 * ((c5 + c6 + c7) + 256 * ((c6 + c7) + 256 * c7)) := by omega
  omega
/-- what the steps come to -/
theorem pop_all (x : Nat) (hx : Wd x) : ∃ a b c y z u : Nat, a = st1 x 6148914691236517205 ∧ b = st2 a 3689348814741910323 ∧ c = st3 b 1085102592571150095 ∧ y = c + c / 256 ∧ z = y + y / 65536 ∧ u = z + z / 4294967296 ∧ u < 9223372036854775808 ∧ u % 128 = cntF x.testBit 64 := by
  obtain ⟨c0, c1, c2, c3, c4, c5, c6, c7, h0, h1, h2, h3, h4, h5, h6, h7, hp, hc⟩ := pop_sum x
  have hb := (pop_bytes 8 x hx).2
  rw [show mk 85 8 = 6148914691236517205 from rfl, show mk 51 8 = 3689348814741910323 from rfl, show mk 15 8 = 1085102592571150095 from rfl] at hb
  obtain ⟨y, z, u, e1, e2, e3, e4, e5⟩ := fold_1 ⟨h0, h1, h2, h3, h4, h5, h6, h7⟩ (hb.trans hp)
  exact ⟨_, _, _, y, z, u, rfl, rfl, rfl, e1, e2, e3, e4, e5.trans hc.symm⟩
end Go.Proofs.YtngfopnefmknoaaDoor
