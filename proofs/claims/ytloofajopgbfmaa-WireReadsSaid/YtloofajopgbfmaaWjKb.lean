/- Wire: what stays while one old block is written; bytes that are counted up. -/
import Derived.Test.YtloofajopgbfmaaWjUni
import Derived.Laws.OwnMore
set_option linter.all false
namespace Go.Proofs.Ytloofajopgbfmaa
open Go.RowKit
set_option maxRecDepth 100000
/-- the blocks from B on are as they were -/
def KB (B : Nat) (w W : World) : Prop := w.heap.size ≤ W.heap.size ∧ ∀ b, B ≤ b → b < w.heap.size → W.heap[b]? = w.heap[b]?
theorem KB.refl (B : Nat) (w : World) : KB B w w := ⟨Nat.le_refl _, fun _ _ _ => rfl⟩
theorem KB.below {B : Nat} {w W W2 : World} (h : KB B w W) (hb : Below W.heap.size W W2) : KB B w W2 :=
  ⟨Nat.le_trans h.1 hb.size, fun b h1 h2 => (hb.block b (Nat.lt_of_lt_of_le h2 h.1)).trans (h.2 b h1 h2)⟩
theorem KB.set {B g : Nat} {w W : World} (h : KB B w W) (hg : g < B) (j : Nat) (v : Value) : KB B w (W.setCell ⟨g, j, none⟩ v) :=
  ⟨by simpa using h.1, fun b h1 h2 => (heap_setCell_other W ⟨g, j, none⟩ b v (by show b ≠ g; omega)).trans (h.2 b h1 h2)⟩
theorem Bk.kb {B g : Nat} {w W : World} {T : TypeId} {cs : List Value} (h : Bk w g T cs) (hk : KB B w W) (hg : B ≤ g) : Bk W g T cs := (hk.2 g hg h.lt).trans h
theorem own_kb {B n sz b : Nat} {w W : World} {T : TypeId} {v : Value} {xs : List Value} (h : w.ownsRow b T sz v n xs) (hk : KB B w W) (hb : B ≤ b) : W.ownsRow b T sz v n xs := by
  refine ⟨h.1, ?_⟩
  rcases h.2 with hn | ⟨g, cap, cur, hv, hbs, hg, rest⟩
  · exact .inl hn
  · have hlt := h.lt g (by rw [hv]; rfl)
    exact .inr ⟨g, cap, cur, hv, hbs, (hk.2 g (Nat.le_trans hb hlt.1) hlt.2).trans hg, rest⟩
/-- bytes, the first so many of them counted up -/
def incF (l : List UInt8) (k : Nat) : List UInt8 := (l.take k).map (· + 1) ++ l.drop k
theorem incF_zero (l : List UInt8) : incF l 0 = l := by simp [incF]
theorem incF_len (l : List UInt8) (k : Nat) : (incF l k).length = l.length := by
  unfold incF
  rw [List.length_append, List.length_map, List.length_take, List.length_drop]
  omega
theorem incF_at (l : List UInt8) (k : Nat) (M : List UInt8) (hk : k < l.length) : (u8s (incF l k ++ M))[k]? = some (.int .u8 (l[k].toNat : Int)) := by
  unfold incF u8s
  rw [List.getElem?_map, List.append_assoc, List.getElem?_append_right (by simp; omega)]
  have e : k - ((l.take k).map (· + 1)).length = 0 := by simp; omega
  rw [e, List.drop_eq_getElem_cons hk]
  rfl
theorem inc_byte (c : UInt8) : IntKind.u8.wrap ((c.toNat : Int) + 1) = (((c + 1 : UInt8).toNat : Nat) : Int) := by
  rw [IntKind.wrap_u8]
  have : (c + 1 : UInt8).toNat = (c.toNat + 1) % 256 := by simp [UInt8.toNat_add]
  rw [this]
  omega
theorem incF_set (l : List UInt8) (k : Nat) (M : List UInt8) (hk : k < l.length) : (u8s (incF l k ++ M)).set k (.int .u8 (((l[k] + 1 : UInt8).toNat : Nat) : Int)) = u8s (incF l (k + 1) ++ M) := by
  have e : incF l k ++ M = (l.take k).map (· + 1) ++ (l[k] :: (l.drop (k + 1) ++ M)) := by
    unfold incF
    rw [List.append_assoc, List.drop_eq_getElem_cons hk, List.cons_append]
  have e2 : incF l (k + 1) ++ M = (l.take k).map (· + 1) ++ ((l[k] + 1) :: (l.drop (k + 1) ++ M)) := by
    unfold incF
    rw [List.take_succ_eq_append_getElem hk, List.map_append, List.append_assoc, List.append_assoc]
    rfl
  rw [e, e2, u8s_append, u8s_append]
  have hl : (u8s ((l.take k).map (· + 1))).length = k := by rw [u8s_length, List.length_map, List.length_take]; omega
  rw [List.set_append_right _ _ (by rw [hl]; exact Nat.le_refl _), hl, Nat.sub_self]
  rfl
end Go.Proofs.Ytloofajopgbfmaa
