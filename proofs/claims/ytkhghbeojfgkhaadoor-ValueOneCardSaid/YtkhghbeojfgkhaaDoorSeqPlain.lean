/- The tokens of a text, one behind the other; and what a round over them may touch. -/
import Derived.Test.YtkhghbeojfgkhaaDoorNextPlain
import Derived.Test.YtkhghbeojfgkhaaDoorWhole
import Derived.RangeFuncNested
namespace Go.Proofs.YtkhghbeojfgkhaaDoor
open Go.RowKit

def zeroTok : Tok := ⟨0, [], 0, 0, 0, 0⟩
/-- the tokens from a place on, each with its error; the last one alone may have one -/
def seqF : Nat → List UInt8 → Nat → List (Tok × Nat)
  | 0, _, _ => []
  | f + 1, l, i =>
    if (nextF l i).2 ≠ 0 then [nextF l i]
    else if (nextF l i).1.kind = 0 then []
    else nextF l i :: seqF f l ((nextF l i).1.at_ + (nextF l i).1.size)
def allF (l : List UInt8) : List (Tok × Nat) := if 32768 < l.length then [(zeroTok, 3)] else seqF (l.length + 1) l 0

theorem tokAt_cases (l : List UInt8) (A : Nat) (hA : A ≤ l.length) :
    ((tokAt l A).2 ≠ 0 ∧ (tokAt l A).1 = ⟨0, [], 0, 0, A, 0⟩) ∨ ((tokAt l A).2 = 0 ∧ (tokAt l A).1.at_ = A ∧ (tokAt l A).1.kind = (spanE l A).1 ∧ (tokAt l A).1.size = (spanE l A).2 - A) := by
  unfold tokAt
  split
  · rename_i h; exact .inl ⟨h, rfl⟩
  · exact .inr ⟨rfl, rfl, rfl, rfl⟩
theorem spanE_pos {l : List UInt8} {A : Nat} (hA : A ≤ l.length) (h : (spanE l A).1 ≠ 0) : A < (spanE l A).2 := by
  have hlt : A < l.length := by
    rcases Nat.lt_or_ge A l.length with h' | h'
    · exact h'
    · exfalso
      apply h
      have hnil : l.drop A = [] := List.drop_eq_nil_of_le h'
      unfold spanE
      rw [bAt_ge h', letter0, digit0, hnil]
      rfl
  unfold spanE at h ⊢
  split
  · simp only []; omega
  · split
    · unfold numEnd
      split
      · simp only []; omega
      · split <;> (simp only []; omega)
    · split
      · simp only []; omega
      · split
        · simp only []; omega
        · rename_i h1 h2 h3 h4
          rw [if_neg h1, if_neg h2, if_neg h3, if_neg h4] at h
          exact absurd rfl h
theorem next_place (l : List UInt8) (i : Nat) (hi : i ≤ l.length) : i + skipS false (l.drop i) ≤ l.length := by
  have := skip_le false (l.drop i)
  simp at this
  omega
/-- a token that is there leads on -/
theorem next_on {l : List UInt8} {i : Nat} (hi : i ≤ l.length) (he : (nextF l i).2 = 0) (hk : (nextF l i).1.kind ≠ 0) :
    i < (nextF l i).1.at_ + (nextF l i).1.size ∧ (nextF l i).1.at_ + (nextF l i).1.size ≤ l.length ∧ i ≤ (nextF l i).1.at_ := by
  have hp := next_place l i hi
  unfold nextF at *
  rcases tokAt_cases l _ hp with ⟨h, _⟩ | ⟨_, h1, h2, h3⟩
  · exact absurd he h
  · rw [h2] at hk
    have h4 := spanE_pos hp hk
    have h5 := (spanE_bounds l _ hp).2.1
    rw [h1, h3]
    omega
theorem next_bad_at {l : List UInt8} {i : Nat} (hi : i ≤ l.length) (he : (nextF l i).2 ≠ 0) : (nextF l i).1.kind = 0 := by
  unfold nextF at *
  rcases tokAt_cases l _ (next_place l i hi) with ⟨_, h⟩ | ⟨h, _⟩
  · rw [h]
  · exact absurd h he

/-! ### What a round may touch: boxes of its own, and the row that one of them leads to -/
def rowOf (b : Nat) (W : World) : Option Nat := (W.cell? ⟨b, 0, none⟩).bind Value.ownBlock
structure Kq (Wr : Nat → Prop) (Ball : Nat) (W W' : World) : Prop where
  size : W.heap.size ≤ W'.heap.size
  same : ∀ k o, W.heap[k]? = some o → o.isCells = true → ¬ Wr k → rowOf Ball W ≠ some k → W'.heap[k]? = some o
  row : rowOf Ball W' = rowOf Ball W ∨ ∃ g, rowOf Ball W' = some g ∧ W.heap.size ≤ g ∧ g < W'.heap.size
theorem Kq.trans {Wr : Nat → Prop} {Ball : Nat} {A B C : World} (h : Kq Wr Ball A B) (k : Kq Wr Ball B C) : Kq Wr Ball A C := by
  refine ⟨Nat.le_trans h.size k.size, fun i o hi ho hw hr => ?_, ?_⟩
  · have hlt := (Array.getElem?_eq_some_iff.1 hi).1
    have h1 := h.same i o hi ho hw hr
    refine k.same i o h1 ho hw ?_
    rcases h.row with h2 | ⟨g, h2, h3, _⟩
    · rw [h2]; exact hr
    · rw [h2]; intro e; cases e; omega
  · rcases k.row with h1 | ⟨g, h1, h2, h3⟩
    · rcases h.row with h4 | ⟨g, h4, h5, h6⟩
      · exact .inl (h1.trans h4)
      · exact .inr ⟨g, h1.trans h4, h5, by have := k.size; omega⟩
    · exact .inr ⟨g, h1, by have := h.size; omega, h3⟩
theorem rowOf_same {b : Nat} {W W' : World} (h : W'.heap[b]? = W.heap[b]?) : rowOf b W' = rowOf b W := by
  unfold rowOf World.cell?
  simp only [h]
theorem Kq.put {Wr : Nat → Prop} {Ball : Nat} {w : World} (hB : Ball < w.heap.size) (W : World) (l : Nat) (o o' : Obj) (hl : w.heap.size ≤ l) (h : W.heap[l]? = some o) (hc : o.isCells = false) (_ : o.isWalk = false) : Kq Wr Ball W (W.putObj l o') := by
  refine ⟨by simp, fun k x hk hx _ _ => ?_, .inl (rowOf_same (World.putObj_heap_other (by omega)))⟩
  rw [World.putObj_heap_other ?_]
  · exact hk
  · rintro rfl
    rw [h] at hk
    cases hk
    rw [hc] at hx
    cases hx

/-- what the iterator finds again behind every round -/
structure ItInv (Ball n₀ nb Bn : Nat) (T : TypeId) (a : Option Addr) (n cap : Nat) (l : List UInt8) (W : World) : Prop where
  txt : Txt W a n cap l
  low : ∀ x, a = some x → 0 < n → x.block < n₀
  glob : Glob W
  gs : 2 < n₀ ∧ 3 < n₀
  box : Boxed W Bn T (.slice a n cap)
  size : nb ≤ W.heap.size
  row : ∀ g, rowOf Ball W = some g → nb ≤ g ∧ g < W.heap.size
theorem cell_of_heap {W W' : World} {p : Addr} {v : Value} (h : W.cell? p = some v) (hs : ∀ o, W.heap[p.block]? = some o → o.isCells = true → W'.heap[p.block]? = some o) : W'.cell? p = some v := by
  obtain ⟨o, ho, hc⟩ := cells_of_cell h
  have h2 := hs o ho hc
  unfold World.cell? at h ⊢
  rw [h2]
  rw [ho] at h
  exact h
theorem add_blk (a : Addr) (i : Nat) : (a.add i).block = a.block := by unfold Addr.add; split <;> rfl
section
variable {Wr : Nat → Prop} {Ball n₀ nb Bn : Nat} {T : TypeId} {a : Option Addr} {n cap : Nat} {l : List UInt8} {W W' : World}
theorem ItInv.kq (h : ItInv Ball n₀ nb Bn T a n cap l W) (hk : Kq Wr Ball W W') (hW : ∀ k, Wr k → n₀ ≤ k) (hB : ¬ Wr Bn) (hn : n₀ ≤ nb) (hBn : Bn < nb) : ItInv Ball n₀ nb Bn T a n cap l W' := by
  have hrow : ∀ k, k < nb → rowOf Ball W ≠ some k := fun k hk e => by have := (h.row k e).1; omega
  have hlow : ∀ p v, W.cell? p = some v → p.block < n₀ → W'.cell? p = some v := fun p v hc hp =>
    cell_of_heap hc fun o ho hoc => hk.same _ o ho hoc (fun e => by have := hW _ e; omega) (hrow _ (by omega))
  refine ⟨?_, h.low, ?_, h.gs, hk.same Bn _ h.box rfl hB (hrow _ hBn), Nat.le_trans h.size hk.size, fun g hg => ?_⟩
  · obtain ⟨h1, h2, h3, h4⟩ := h.txt
    refine ⟨h1, h2, h3, h4.imp id ?_⟩
    rintro ⟨x, rfl, hx⟩
    exact ⟨x, rfl, fun i hi => hlow _ _ (hx i hi) (by rw [add_blk]; exact h.low x rfl (by omega))⟩
  · obtain ⟨⟨t1, p1, g1⟩, t2, p2, g2⟩ := h.glob
    exact ⟨⟨t1, p1, hlow _ _ g1 h.gs.1⟩, t2, p2, hlow _ _ g2 h.gs.2⟩
  · rcases hk.row with h1 | ⟨g', h1, h2, h3⟩
    · rw [h1] at hg
      have := h.row g hg
      have := hk.size
      omega
    · rw [h1] at hg
      cases hg
      have := h.size
      omega
theorem ItInv.grow (h : ItInv Ball n₀ nb Bn T a n cap l W) (hb : Below W.heap.size W W') (hBl : Ball < nb) (hBn : Bn < nb) : ItInv Ball n₀ nb Bn T a n cap l W' := by
  have hs := hb.size
  have hnb := h.size
  refine ⟨h.txt.below hb (Nat.le_refl _), h.low, h.glob.below hb (Nat.le_refl _), h.gs, (hb.block Bn (by omega)).trans h.box, by omega, fun g hg => ?_⟩
  rw [rowOf_same (hb.block Ball (by omega))] at hg
  have := h.row g hg
  omega
theorem grownBy_of_below (h : Below W.heap.size W W') : W.grownBy W' none := ⟨h.os, h.tape, h.output, h.size, fun k hk _ => h.block k hk⟩
end
end Go.Proofs.YtkhghbeojfgkhaaDoor
