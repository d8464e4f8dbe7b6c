/- The walks of lent and kept. -/
import Derived.Test.YtddeoemkjedonaaDoorRows
import Derived.Test.YtddeoemkjedonaaDoorMQuotePlain
import Derived.WalkKit
import Derived.WalkSpells
import Derived.WalkLawsBesides
import Derived.Lib.Hide
import Derived.Laws.AppendOwnNone
import Derived.Laws.IdiomStrings
import Derived.RangeFuncBox
namespace Go.Proofs.YtddeoemkjedonaaDoor
open Go.RowKit

theorem info5' : (Tryd.prog.info? 5).map (fun i => (i.zero, i.size, i.bytes)) = some (some (.int .u8 0), 1, 1) := by kernel_rfl

/-- the cells of a new block -/
theorem cells_new' (w : World) (l : List Value) (t : TypeId) : ∀ j u, l[j]? = some u → (w.alloc (.cells l.toArray t)).cell? ((⟨w.heap.size, 0, none⟩ : Addr).add j) = some u := by
  intro j u h
  have hadd : (⟨w.heap.size, 0, none⟩ : Addr).add j = ⟨w.heap.size, j, none⟩ := by unfold Addr.add; split <;> simp_all
  rw [hadd, cell_of_row _ _ j _ _ _ (heap_alloc_new w _)]
  simpa using h

/-- what lent hands over: a row of the call's own, the bytes and the two marks behind them -/
def Lent (w w' : World) (n : Nat) (l : List UInt8) (e : Ending) : Prop :=
  ∃ g cap, e = .returned (.slice (some ⟨g, 0, none⟩) n cap) ∧ n + 2 ≤ cap ∧ w.heap.size ≤ g ∧ w'.ownsRow w.heap.size 5 1 (.slice (some ⟨g, 0, none⟩) (n + 2) cap) (n + 2) (u8s (l ++ [201, 202])) ∧ Below w.heap.size w w'

theorem text_of {a : Option Addr} {n cap : Nat} {l : List UInt8} {w : World} (ht : Txt w a n cap l) :
    (convert 103 9 (.slice a n cap)).run Tryd.prog w = .ok (.string ⟨l.toArray⟩) w := by
  obtain ⟨hl, hnc, hm, h4⟩ := ht
  rcases h4 with ⟨rfl, rfl, rfl⟩ | ⟨x, rfl, hx⟩
  · obtain rfl : l = [] := List.eq_nil_of_length_eq_zero hl
    exact run_convert_bytes_nil w 103 5 Tryd.underlying103 Tryd.underlying5 0 0 9 Tryd.underlying9
  · subst hl
    exact run_convert_bytes_back w 103 9 5 x cap l Tryd.underlying103 Tryd.underlying5 Tryd.underlying9 hx

theorem elem_text : Tryd.prog.underlying 103 = some (.slice (Tryd.prog.elem 103)) := by
  have h := Tryd.underlying103
  simp [Program.elem, h]
theorem elem_is : Tryd.prog.elem 103 = 5 := by
  have h := Tryd.underlying103
  simp [Program.elem, h]
theorem map_block (a : Addr) (k : Nat) (i : Nat) : (a.add k).add i = a.add (k + i) := by
  unfold Addr.add
  split <;> split <;> simp_all <;> omega

theorem txt_drop {w : World} {a : Option Addr} {n cap : Nat} {l : List UInt8} (k : Nat) (ht : Txt w a n cap l) (hk : k ≤ n) :
    Txt w (if cap = k then a else a.map (·.add k)) (n - k) (cap - k) (l.drop k) := by
  obtain ⟨hl, hnc, hm, h4⟩ := ht
  refine ⟨by simp; omega, by omega, by omega, ?_⟩
  rcases h4 with ⟨rfl, h0, h1⟩ | ⟨x, rfl, hx⟩
  · left
    refine ⟨by split <;> rfl, by omega, by omega⟩
  · right
    by_cases hc : cap = k
    · rw [if_pos hc]
      refine ⟨x, rfl, fun i hi => ?_⟩
      simp at hi
      omega
    · rw [if_neg hc]
      refine ⟨x.add k, rfl, fun i hi => ?_⟩
      have hi' : k + i < l.length := by simp at hi; omega
      have := hx (k + i) hi'
      rw [map_block, this]
      simp
theorem txt_take {w : World} {a : Option Addr} {n cap : Nat} {l : List UInt8} (k : Nat) (ht : Txt w a n cap l) (hk : k ≤ n) : Txt w a k cap (l.take k) := by
  obtain ⟨hl, hnc, hm, h4⟩ := ht
  refine ⟨by simp; omega, by omega, hm, ?_⟩
  rcases h4 with ⟨rfl, h0, h1⟩ | ⟨x, rfl, hx⟩
  · exact .inl ⟨rfl, by omega, h1⟩
  · exact .inr ⟨x, rfl, hx.take k⟩
theorem txt_none (w : World) : Txt w none 0 0 [] := ⟨rfl, Nat.le_refl _, Nat.zero_le _, .inl ⟨rfl, rfl, rfl⟩⟩

/-- 'b[k:]' -/
theorem slice_from {w : World} {a : Option Addr} {n cap : Nat} {l : List UInt8} (k : Nat) (ht : Txt w a n cap l) (hk : k ≤ n) :
    ∃ a', (∀ w', (Instr.slice 103 (.slice a n cap) (some (.int .i64 (k : Int))) none none).run Tryd.prog w' = .ok (.slice a' (n - k) (cap - k)) w') ∧ Txt w a' (n - k) (cap - k) (l.drop k) := by
  obtain ⟨hl, hnc, hm, h4⟩ := ht
  refine ⟨if cap = k then a else a.map (·.add (k * 1)), fun w' => ?_, ?_⟩
  · rw [run_slice_l w' _ a n cap elem_text .i64 k (by omega) (by omega), elem_is, Tryd.sizeOf5]
    simp [Result.andThen, sliced]
  · refine ⟨by simp; omega, by omega, by omega, ?_⟩
    rcases h4 with ⟨rfl, h0, h1⟩ | ⟨x, rfl, hx⟩
    · left
      refine ⟨by split <;> rfl, by omega, by omega⟩
    · right
      by_cases hc : cap = k
      · rw [if_pos hc]
        refine ⟨x, rfl, fun i hi => ?_⟩
        simp at hi
        omega
      · rw [if_neg hc]
        refine ⟨x.add (k * 1), rfl, fun i hi => ?_⟩
        have hi' : k + i < l.length := by simp at hi; omega
        have := hx (k + i) hi'
        rw [Nat.mul_one, map_block, this]
        simp

/-- 'b[i:j]' -/
theorem slice_mid {w : World} {a : Option Addr} {n cap : Nat} {l : List UInt8} (i j : Nat) (ht : Txt w a n cap l) (hij : i ≤ j) (hj : j ≤ n) :
    ∃ a', (∀ w', (Instr.slice 103 (.slice a n cap) (some (.int .i64 (i : Int))) (some (.int .i64 (j : Int))) none).run Tryd.prog w' = .ok (.slice a' (j - i) (cap - i)) w') ∧ Txt w a' (j - i) (cap - i) ((l.drop i).take (j - i)) := by
  obtain ⟨hl, hnc, hm, h4⟩ := ht
  refine ⟨if cap = i then a else a.map (·.add (i * 1)), fun w' => ?_, ?_⟩
  · rw [run_slice_lh w' _ a n cap elem_text .i64 .i64 i j (by omega) (by omega) (by omega), elem_is, Tryd.sizeOf5]
    simp [Result.andThen, sliced]
  · refine ⟨by simp; omega, by omega, by omega, ?_⟩
    rcases h4 with ⟨rfl, h0, h1⟩ | ⟨x, rfl, hx⟩
    · left
      refine ⟨by split <;> rfl, by omega, by omega⟩
    · right
      by_cases hc : cap = i
      · rw [if_pos hc]
        refine ⟨x, rfl, fun m hm' => ?_⟩
        simp at hm'
        omega
      · rw [if_neg hc]
        refine ⟨x.add (i * 1), rfl, fun m hm' => ?_⟩
        have hm2 : i + m < l.length := by simp at hm'; omega
        have := hx (i + m) hm2
        rw [Nat.mul_one, map_block, this]
        simp

/-- an owned row is a text -/
theorem txt_of_owned {w : World} {base n c : Nat} {a : Option Addr} {l : List UInt8} (hown : w.ownsRow base 5 1 (.slice a n c) n (u8s l)) : Txt w a n c l := by
  have hl : l.length = n := by have := hown.1; simp [u8s_length] at this; exact this
  rcases hown.2 with ⟨h, h0⟩ | ⟨g, cap, cur, he, hb, hg, hn, hc, hs, ht⟩
  · cases h
    exact ⟨hl, by omega, Nat.zero_le _, .inl ⟨rfl, rfl, rfl⟩⟩
  · cases he
    exact ⟨hl, hn, hc, .inr ⟨_, rfl, At.owned hown⟩⟩

end Go.Proofs.YtddeoemkjedonaaDoor
/- The walks of byteAt, isBlank, isLetter, isDigit, isWord. -/
namespace Go.Proofs.YtddeoemkjedonaaDoor
open Go.RowKit
set_option maxRecDepth 100000
theorem u8_ne {c : UInt8} {k : Nat} (h : c.toNat ≠ k) (hk : k < 256) : (c == UInt8.ofNat k) = false := by
  rw [beq_eq_false_iff_ne]
  intro e
  apply h
  rw [e]
  simp
  omega
theorem u8_eq {c : UInt8} {k : Nat} (h : c.toNat = k) : (c == UInt8.ofNat k) = true := by
  rw [beq_iff_eq, ← h]
  simp

theorem u8_neq {c d : UInt8} (h : c ≠ d) : ((c.toNat : Int) == (d.toNat : Int)) = false := by
  rw [beq_eq_false_iff_ne]
  intro e
  exact h (UInt8.toNat_inj.1 (by omega))
theorem u8_neqn {c d : UInt8} (h : c ≠ d) : ((c.toNat : Int) != (d.toNat : Int)) = true := by
  rw [bne_iff_ne]
  intro e
  exact h (UInt8.toNat_inj.1 (by omega))

end Go.Proofs.YtddeoemkjedonaaDoor
