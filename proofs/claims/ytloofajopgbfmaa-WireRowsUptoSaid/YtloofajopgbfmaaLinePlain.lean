/- Plain facts on lines and columns, and on texts in memory: no program. -/
import Derived.Test.YtloofajopgbfmaaQuotePlain
import Derived.WalkKit
import Derived.Lib.BytesEntry
namespace Go.Proofs.Ytloofajopgbfmaa
set_option linter.all false
open Go.RowKit

/-- the place of the last 0a among the first k bytes, or -1 -/
def lastTo (l : List UInt8) : Nat → Int
  | 0 => -1
  | k + 1 => if l[k]? = some 10 then (k : Int) else lastTo l k
/-- how many 0a stand among the first k bytes -/
def countTo (l : List UInt8) (k : Nat) : Nat := (l.take k).count 10

theorem lastTo_lt (l : List UInt8) (k : Nat) : -1 ≤ lastTo l k ∧ lastTo l k < k := by
  induction k with
  | zero => simp [lastTo]
  | succ k ih => unfold lastTo; split <;> omega
theorem lastTo_yes (l : List UInt8) (k : Nat) (h : k < l.length) (hc : l[k] = 10) : lastTo l (k + 1) = k := by
  unfold lastTo; rw [if_pos (by rw [List.getElem?_eq_getElem h, hc])]
theorem lastTo_no (l : List UInt8) (k : Nat) (h : k < l.length) (hc : l[k] ≠ 10) : lastTo l (k + 1) = lastTo l k := by
  conv => lhs; unfold lastTo
  rw [if_neg (by rw [List.getElem?_eq_getElem h]; intro e; exact hc (Option.some.inj e))]
theorem countTo_le (l : List UInt8) (k : Nat) : countTo l k ≤ k := by
  unfold countTo
  exact Nat.le_trans List.count_le_length (List.length_take_le _ _)
theorem countTo_zero (l : List UInt8) : countTo l 0 = 0 := by simp [countTo]
theorem countTo_yes (l : List UInt8) (k : Nat) (h : k < l.length) (hc : l[k] = 10) : countTo l (k + 1) = countTo l k + 1 := by
  unfold countTo; rw [take_snoc _ _ h, List.count_append, hc]; simp
theorem countTo_no (l : List UInt8) (k : Nat) (h : k < l.length) (hc : l[k] ≠ 10) : countTo l (k + 1) = countTo l k := by
  unfold countTo; rw [take_snoc _ _ h, List.count_append]; simp [List.count_singleton, hc]

/-- the bytes l lie from the address on -/
def At (w : World) (a : Addr) (l : List UInt8) : Prop := ∀ i (h : i < l.length), w.cell? (a.add i) = some (.int .u8 (l[i].toNat : Int))
/-- a slice value of the bytes l -/
def Txt (w : World) (a : Option Addr) (n cap : Nat) (l : List UInt8) : Prop :=
  l.length = n ∧ n ≤ cap ∧ cap ≤ maxLen ∧ ((a = none ∧ n = 0 ∧ cap = 0) ∨ ∃ x, a = some x ∧ At w x l)

theorem At.spot {w : World} {b o : Nat} {s} {l : List UInt8} (h : At w ⟨b, o, s⟩ l) (hl : 0 < l.length) : s = none ∧ ∀ i (h : i < l.length), w.cell? ⟨b, o + i, none⟩ = some (.int .u8 (l[i].toNat : Int)) := by
  have h0 := h 0 hl
  have hs : s = none := by simpa [Addr.add] using World.cell?_spot h0
  subst hs
  refine ⟨rfl, fun i hi => ?_⟩
  have := h i hi
  have hadd : (⟨b, o, none⟩ : Addr).add i = ⟨b, o + i, none⟩ := by unfold Addr.add; split <;> simp_all
  rwa [hadd] at this
theorem At.lt {w : World} {a : Addr} {l : List UInt8} (h : At w a l) (hl : 0 < l.length) : a.block < w.heap.size := by
  have := World.block_lt_of_cell? w _ (h 0 hl)
  simpa [Addr.add] using this
theorem At.cells {w : World} {a : Addr} {l : List UInt8} (h : At w a l) : ∀ j u, (u8s l)[j]? = some u → w.cell? (a.add j) = some u := by
  intro j u hu
  simp only [u8s, List.getElem?_map, Option.map_eq_some_iff] at hu
  obtain ⟨b, hb, rfl⟩ := hu
  obtain ⟨hj, rfl⟩ := List.getElem?_eq_some_iff.1 hb
  exact h j hj
theorem At.mono {w w' : World} {a : Addr} {l : List UInt8} (h : At w a l) (hc : ∀ i, i < l.length → w'.cell? (a.add i) = w.cell? (a.add i)) : At w' a l := fun i hi => (hc i hi).trans (h i hi)
theorem Txt.below {w w' : World} {B : Nat} {a : Option Addr} {n cap : Nat} {l : List UInt8} (h : Txt w a n cap l) (hb : Below B w w') (hB : w.heap.size ≤ B) : Txt w' a n cap l := by
  obtain ⟨h1, h2, h3, h4⟩ := h
  refine ⟨h1, h2, h3, h4.imp id ?_⟩
  rintro ⟨x, rfl, hx⟩
  refine ⟨x, rfl, hx.mono fun i hi => hb.cell (p := x.add i) ?_⟩
  have := World.block_lt_of_cell? w _ (hx i hi)
  omega
/-- an owned row's bytes -/
theorem At.owned {w : World} {base g cap n e : Nat} {l : List UInt8} (hown : w.ownsRow base e 1 (.slice (some ⟨g, 0, none⟩) n cap) n (u8s l)) : At w ⟨g, 0, none⟩ l :=
  fun j hj => hown.cells rfl j _ (by simp [u8s, hj])
theorem At.take {w : World} {a : Addr} {l : List UInt8} (h : At w a l) (k : Nat) : At w a (l.take k) := fun i hi => by
  have hi' : i < l.length := by simp at hi; omega
  have := h i hi'
  simpa using this
theorem At.left {w : World} {a : Addr} {l m : List UInt8} (h : At w a (l ++ m)) : At w a l := by
  have := h.take l.length
  simpa using this
theorem cell_keep {w : World} {a : Addr} {v : Value} (o : Obj) (h : w.cell? a = some v) : (w.alloc o).cell? a = some v :=
  (((Below.refl w.heap.size w).alloc (Nat.le_refl _) o).cell (World.block_lt_of_cell? w _ h)).trans h
theorem ret_two {a b c d : Int} (h : a = c) (k : b = d) : Ending.returned (.tuple #[.int .i64 a, .int .i64 b]) = Ending.returned (.tuple #[.int .i64 c, .int .i64 d]) := by rw [h, k]
end Go.Proofs.Ytloofajopgbfmaa
