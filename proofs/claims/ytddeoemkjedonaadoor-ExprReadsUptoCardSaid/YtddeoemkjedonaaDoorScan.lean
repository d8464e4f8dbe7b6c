/- Scan: every token there is, or the first place that is wrong. -/
import Derived.Test.YtddeoemkjedonaaDoorRows
import Derived.Test.YtddeoemkjedonaaDoorIter
import Derived.Maps.OwnIn
import Derived.RangeFuncBox
namespace Go.Proofs.YtddeoemkjedonaaDoor
open Go.RowKit Go.Shelf
attribute [local go_sem] Oper.semAt_some
set_option maxRecDepth 100000

def tokCells (t : Tok) : List Value := [.int .i64 t.kind, .string ⟨t.text.toArray⟩, .int .i64 t.int, .float .f64 t.real, .int .i64 t.at_, .int .i64 t.size]
def flatT (xs : List (Tok × Nat)) : List Value := xs.flatMap fun x => tokCells x.1
theorem flatT_snoc (xs : List (Tok × Nat)) (x : Tok × Nat) : flatT (xs ++ [x]) = flatT xs ++ tokCells x.1 := by simp [flatT]

theorem seqF_len : ∀ (f : Nat) (l : List UInt8) (i : Nat), (seqF f l i).length ≤ f
  | 0, _, _ => Nat.le_refl _
  | f + 1, l, i => by
    unfold seqF
    split
    · simp
    · split
      · simp
      · simp only [List.length_cons]
        have := seqF_len f l ((nextF l i).1.at_ + (nextF l i).1.size)
        omega
theorem allF_len (l : List UInt8) : (allF l).length ≤ 32769 := by
  unfold allF
  split
  · simp
  · rename_i h
    have := seqF_len (l.length + 1) l 0
    omega

theorem Kq.of_below {Wr : Nat → Prop} {Ball : Nat} {W W' : World} (h : Below W.heap.size W W') (hB : Ball < W.heap.size) : Kq Wr Ball W W' :=
  ⟨h.size, fun k o hk _ _ _ => (h.block k (Array.getElem?_eq_some_iff.1 hk).1).trans hk, .inl (rowOf_same (h.block Ball hB))⟩
theorem Kq.appended {Wr : Nat → Prop} {Ball : Nat} {W w1 : World} {t : TypeId} {v v' : Value} {tmp : Obj} (hv : Boxed W Ball t v) (hw : Wr Ball) (hv1 : Boxed w1 Ball t v)
    (hg : (W.alloc tmp).grownBy w1 v.ownBlock) (hn : v'.ownBlock = v.ownBlock ∨ v'.ownBlock = some (W.alloc tmp).heap.size) (hlt : ∀ g, v'.ownBlock = some g → g < w1.heap.size) : Kq Wr Ball W (w1.setCell ⟨Ball, 0, none⟩ v') := by
  have hr0 : rowOf Ball W = v.ownBlock := by unfold rowOf; rw [hv.cell]; rfl
  have hr1 : rowOf Ball (w1.setCell ⟨Ball, 0, none⟩ v') = v'.ownBlock := by unfold rowOf; rw [(hv1.set v').cell]; rfl
  have hz := hg.size
  simp only [World.size_alloc] at hz hn
  have hs : (w1.setCell ⟨Ball, 0, none⟩ v').heap.size = w1.heap.size := by simp
  refine ⟨by omega, fun k o hk _ hkw hkr => ?_, ?_⟩
  · have hlt := (Array.getElem?_eq_some_iff.1 hk).1
    rw [hr0] at hkr
    have h1 := hg.block k (by simp; omega) (fun e => hkr e.symm)
    rw [(grownBy_setCell' w1 Ball v').block k (by omega) (by rintro ⟨⟩; exact hkw hw), h1]
    exact (Below.heap_alloc W tmp k hlt).trans hk
  · rw [hr0, hr1]
    rcases hn with h | h
    · exact .inl h
    · have := hlt _ h
      exact .inr ⟨_, h, by omega, by omega⟩

theorem infoTok : (Tryd.prog.info? 35).map (fun i => (i.zero, i.size, i.bytes)) = some (some (.agg #[.int .i64 0, .string ByteArray.empty, .int .i64 0, .float .f64 0, .int .i64 0, .int .i64 0]), 6, 56) := by kernel_rfl

/-- what a round leaves behind it where it goes on -/
def ScanI (s : Nat) (w : World) (pre : List (Tok × Nat)) (W : World) : Prop :=
  ((∀ x ∈ pre, x.2 = 0) ∧ (Boxed W s 23 (.slice none 0 0) ∧ Boxed W (s + 1) 3 (.int .i64 0)) ∧ Boxed W (s + 2) 28 (.int .i64 0)) ∧
  (∃ v, Boxed W (s + 3) 23 v ∧ W.ownsRow s 35 6 v pre.length (flatT pre) ∧ True) ∧ Below s w W
/-- and where it leaves -/
def ScanX (s : Nat) (w : World) (c : Code) (pre : List (Tok × Nat)) (W : World) : Prop :=
  (∃ (p : List (Tok × Nat)) (x : Tok × Nat), c = .ret ∧ pre = p ++ [x] ∧ (∀ y ∈ p, y.2 = 0) ∧ x.2 ≠ 0 ∧ (W.cell? ⟨s, 0, none⟩ = some (.slice none 0 0) ∧ W.cell? ⟨s + 1, 0, none⟩ = some (.int .i64 x.1.at_)) ∧ W.cell? ⟨s + 2, 0, none⟩ = some (.int .i64 x.2)) ∧ Below s w W

end Go.Proofs.YtddeoemkjedonaaDoor
