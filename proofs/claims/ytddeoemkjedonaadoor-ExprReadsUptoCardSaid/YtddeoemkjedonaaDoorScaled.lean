/- The walks of oneForm and scaled. -/
import Derived.Test.YtddeoemkjedonaaDoorRows
import Derived.Test.YtddeoemkjedonaaDoorMQuotePlain
import Derived.Test.YtddeoemkjedonaaDoorMTextWalks
import Derived.Test.YtddeoemkjedonaaDoorWhole
import Derived.Test.YtddeoemkjedonaaDoorLdexp
import Derived.Test.YtddeoemkjedonaaDoorShelf
import Derived.WalkKit
import Derived.WalkSpells
import Derived.WalkLawsBesides
import Derived.Lib.Hide
import Derived.Lib.BytesEntry
import Derived.Shelf.Bytes.SlCut
import Derived.Shelf.Bytes.SlSmallAll
namespace Go.Proofs.YtddeoemkjedonaaDoor
open Go.RowKit
set_option maxRecDepth 100000

theorem bitLenAux_le (f x : Nat) : Lib.bitLenAux f x ≤ f := by
  induction f generalizing x with
  | zero => simp [Lib.bitLenAux]
  | succ f ih => unfold Lib.bitLenAux; split <;> (try have := ih (x / 2)) <;> omega
theorem bitLen_le (x : Nat) : Lib.bitLen x ≤ 64 := bitLenAux_le 64 x
theorem bytesOf_ints (l : List UInt8) : Lib.bytesOf (l.map fun b => (b.toNat : Int)) = l := by
  simp only [Lib.bytesOf, List.map_map]
  conv => rhs; rw [← List.map_id l]
  apply List.map_congr_left
  intro x _
  simp
theorem getD_ints (l : List UInt8) (i : Nat) (h : i < l.length) : (l.map fun b => (b.toNat : Int)).getD i 0 = (l[i].toNat : Int) := by
  rw [List.getD_eq_getElem?_getD, List.getElem?_map, List.getElem?_eq_getElem h]; rfl
theorem indexByte_room (l : List UInt8) (c : UInt8) : Lib.indexByte l c < l.length := by
  induction l with
  | nil => simp [Lib.indexByte]
  | cons b l ih =>
    unfold Lib.indexByte
    split
    · simp only [List.length_cons]; omega
    · split
      · simp only [List.length_cons]; omega
      · simp only [List.length_cons]; omega
theorem bytesIn {w : World} {a : Option Addr} {n cap : Nat} {l : List UInt8} (ht : Txt w a n cap l) : Lib.BytesIn w a n (l.map fun b => (b.toNat : Int)) := by
  obtain ⟨hl, hnc, hm, h4⟩ := ht
  rcases h4 with ⟨rfl, h0, h1⟩ | ⟨x, rfl, hx⟩
  · subst h0; exact Lib.BytesIn.nil _ _ _
  · exact Lib.BytesIn.of_cells fun i hi => by rw [getD_ints l i (by omega)]; exact hx i (by omega)

def scaledV : Option (Int × Int) → Value
  | some (m, e) => .tuple #[.float .f64 (realBits m e), .int .i64 0]
  | none => .tuple #[.float .f64 0, .int .i64 12]

/-- the digits ahead of the p are digits -/
def ScaledOk (l : List UInt8) : Prop := ∀ m, wholeF (cutAt l).1 = some m → 0 ≤ m
def eOk (l : List UInt8) : Prop := ∀ e, wholeF (if bAt (cutAt l).2 0 = 45 then (cutAt l).2.drop 1 else (cutAt l).2) = some e → 0 ≤ e

end Go.Proofs.YtddeoemkjedonaaDoor
