/- The walk of next. -/
import Derived.Test.YtddeoemkjedonaaDoorRows
import Derived.Test.YtddeoemkjedonaaDoorMNextPlain
import Derived.Test.YtddeoemkjedonaaDoorMScope
import Derived.Test.YtddeoemkjedonaaDoorMPiece
import Derived.Test.YtddeoemkjedonaaDoorWhole
import Derived.Test.YtddeoemkjedonaaDoorScaled
import Derived.WalkKit
import Derived.WalkSpells
import Derived.WalkLawsBesides
import Derived.Lib.Hide
import Derived.Laws.ResultCell
namespace Go.Proofs.YtddeoemkjedonaaDoor
open Go.RowKit
set_option maxRecDepth 100000
def tokVal (t : Tok) : Value := .agg #[.int .i64 t.kind, .string ⟨t.text.toArray⟩, .int .i64 t.int, .float .f64 t.real, .int .i64 t.at_, .int .i64 t.size]

theorem blocks_kept {w W w4 : World} {x0 x1 x2 x3 x4 x5 y0 y1 y2 y3 y4 y5 : Value} {T : TypeId} (hb : Below W.heap.size W w4) (hW : W = (w.alloc (.cells #[x0, x1, x2, x3, x4, x5] T)).alloc (.cells #[y0, y1, y2, y3, y4, y5] T)) (hz : W.heap.size = w.heap.size + 2) :
    ((w4.cell? ⟨w.heap.size, 0, none⟩ = some x0 ∧ w4.cell? ⟨w.heap.size, 1, none⟩ = some x1 ∧ w4.cell? ⟨w.heap.size, 2, none⟩ = some x2 ∧ w4.cell? ⟨w.heap.size, 3, none⟩ = some x3 ∧ w4.cell? ⟨w.heap.size, 4, none⟩ = some x4 ∧ w4.cell? ⟨w.heap.size, 5, none⟩ = some x5) ∧
     w4.cell? ⟨w.heap.size + 1, 0, none⟩ = some y0 ∧ w4.cell? ⟨w.heap.size + 1, 1, none⟩ = some y1 ∧ w4.cell? ⟨w.heap.size + 1, 2, none⟩ = some y2 ∧ w4.cell? ⟨w.heap.size + 1, 3, none⟩ = some y3 ∧ w4.cell? ⟨w.heap.size + 1, 4, none⟩ = some y4 ∧ w4.cell? ⟨w.heap.size + 1, 5, none⟩ = some y5) ∧
    ∀ b o, w.heap.size ≤ b → b < w.heap.size + 2 → w4.frozen? ⟨b, o, none⟩ = false := by
  have hc : ∀ b o, b < w.heap.size + 2 → w4.cell? ⟨b, o, none⟩ = W.cell? ⟨b, o, none⟩ := fun b o h => hb.cell (p := ⟨b, o, none⟩) (by rw [hz]; exact h)
  have hf : ∀ b o, b < w.heap.size + 2 → w4.frozen? ⟨b, o, none⟩ = W.frozen? ⟨b, o, none⟩ := fun b o h => hb.frozen (p := ⟨b, o, none⟩) (by rw [hz]; exact h)
  refine ⟨⟨⟨?_, ?_, ?_, ?_, ?_, ?_⟩, ?_, ?_, ?_, ?_, ?_, ?_⟩, ?_⟩
  all_goals first | (rw [hc _ _ (by omega), hW]; simp) | skip
  intro b o h1 h2
  rw [hf _ _ h2, hW]
  rcases Nat.eq_or_lt_of_le h1 with rfl | h3
  · simp
  · obtain rfl : b = w.heap.size + 1 := by omega
    simp

theorem below_chain7 {B : Nat} {a w : World} (h : Below B a w) (v1 v2 v3 v4 v5 v6 v7 : Value) {p1 p2 p3 p4 p5 p6 p7 : Addr} (h1 : B ≤ p1.block) (h2 : B ≤ p2.block) (h3 : B ≤ p3.block) (h4 : B ≤ p4.block) (h5 : B ≤ p5.block) (h6 : B ≤ p6.block) (h7 : B ≤ p7.block) :
    Below B a (((((((w.setCell p1 v1).setCell p2 v2).setCell p3 v3).setCell p4 v4).setCell p5 v5).setCell p6 v6).setCell p7 v7) :=
  ((((((h.setCell h1 _).setCell h2 _).setCell h3 _).setCell h4 _).setCell h5 _).setCell h6 _).setCell h7 _

end Go.Proofs.YtddeoemkjedonaaDoor
