/- Masks: a set of the reference's: an array of 64 truths, as a value and in memory. -/
import Derived.Test.YtngfopnefmknoaaDoorMkPlain
import Derived.Deep.WholeRow
import Derived.Laws.Rows
import Derived.Laws.Tables
set_option linter.all false
namespace Go.Proofs.YtngfopnefmknoaaDoor
open Go.RowKit
set_option maxRecDepth 100000
/-- its 64 cells -/
def setL (f : Nat → Bool) : List Value := (List.range 64).map fun i => .bool (f i)
theorem set_len (f : Nat → Bool) : (setL f).length = 64 := by simp [setL]
theorem set_at (f : Nat → Bool) {j : Nat} (hj : j < 64) : (setL f)[j]? = some (.bool (f j)) := by simp [setL, hj]
theorem set_ext {f g : Nat → Bool} (h : ∀ j, j < 64 → f j = g j) : setL f = setL g := by
  unfold setL
  refine List.map_congr_left fun i hi => ?_
  rw [h i (List.mem_range.1 hi)]
def updF (f : Nat → Bool) (i : Nat) (b : Bool) : Nat → Bool := fun j => if j = i then b else f j
theorem set_set (f : Nat → Bool) (i : Nat) (b : Bool) : (setL f).set i (.bool b) = setL (updF f i b) := by
  apply List.ext_getElem?
  intro j
  rw [List.getElem?_set, set_len]
  rcases Nat.lt_or_ge j 64 with hj | hj
  · rw [set_at _ hj, set_at _ hj]
    unfold updF
    split
    · rename_i e; subst e; rw [if_pos rfl, if_pos hj]
    · rename_i e; rw [if_neg (fun h => e h.symm)]
  · rw [List.getElem?_eq_none (by rw [set_len]; exact hj), List.getElem?_eq_none (by rw [set_len]; exact hj)]
    split
    · rw [if_neg (by omega)]
    · rfl
theorem set_zero : (setL fun _ => false) = List.replicate 64 (.bool false) := by rfl
abbrev setV (f : Nat → Bool) : Value := .agg (setL f).toArray
theorem one_cells (f : Nat → Bool) : (setL f).toArray.all (·.oneCell') = true := by
  rw [List.all_toArray, List.all_eq_true]
  intro x hx
  obtain ⟨i, _, rfl⟩ := List.mem_map.1 hx
  rfl
theorem info_set : (Tryd.prog.info? 25).map (fun i => (i.zero, i.size)) = some (some (setV fun _ => false), 64) := by kernel_rfl
theorem run_load_set {w : World} {b : Nat} {f : Nat → Bool} (h : Bk w b 25 (setL f)) : (Instr.loadAt 25 (.pointer (some ⟨b, 0, none⟩))).run Tryd.prog w = .ok (setV f) w := by
  have hi := (zero_of_info info_set).2
  have := run_loadVar_row (P := Tryd.prog) w b 25 25 (setL f).toArray (0, 0) _ h Tryd.underlying25 rfl (by rw [hi]; simp [set_len])
  simpa [Instr.loadAt, Instr.sureAddr, Sem.run_bind, Sem.run_pure, Result.andThen] using this
theorem run_store_set {w : World} {b : Nat} {cs : List Value} (h : Bk w b 25 cs) (hc : cs.length = 64) (f : Nat → Bool) : (Instr.storeAt 25 (.pointer (some ⟨b, 0, none⟩)) (setV f)).run Tryd.prog w = .ok () (w.setRow b (setL f).toArray) := by
  have hi := (zero_of_info info_set).2
  have := run_storeVar_row (P := Tryd.prog) w b 25 25 cs.toArray (setL f).toArray h (by rw [hi]; simp [set_len]) (by simp [set_len, hc]) (one_cells f)
  simpa [Instr.storeAt, Instr.sureAddr, Sem.run_bind, Sem.run_pure, Result.andThen] using this
theorem setRow_same {w : World} {b : Nat} {cs cs' : List Value} (h : Bk w b 25 cs) : Bk (w.setRow b cs'.toArray) b 25 cs' := by
  unfold Bk at h ⊢
  obtain ⟨hb, he⟩ := Array.getElem?_eq_some_iff.1 h
  simp only [World.setRow]
  rw [Array.getElem?_modify, if_pos rfl, h]
  rfl
theorem setRow_other (w : World) (b : Nat) (c : Array Value) {x : Nat} (hx : x ≠ b) : (w.setRow b c).heap[x]? = w.heap[x]? := by
  simp only [World.setRow]
  rw [Array.getElem?_modify, if_neg (fun e => hx e.symm)]
theorem setRow_size (w : World) (b : Nat) (c : Array Value) : (w.setRow b c).heap.size = w.heap.size := by simp [World.setRow]
theorem setRow_below {B b : Nat} {w w' : World} (h : Below B w w') (hb : B ≤ b) (c : Array Value) : Below B w (w'.setRow b c) :=
  ⟨h.os, h.tape, h.output, by rw [setRow_size]; exact h.size, fun k hk => (setRow_other w' b c (by omega)).trans (h.block k hk)⟩
theorem res_set {fn : Func} {p : Tmp} {tmps : Array Value} {w : World} {b : Nat} {f : Nat → Bool} (h : fn.results = #[.cell p 25]) (hp : tmps.getD p undef = .pointer (some ⟨b, 0, none⟩)) (hb : Bk w b 25 (setL f)) : (results fn tmps).run Tryd.prog w = .ok (setV f) w := by
  have hi := (zero_of_info info_set).2
  exact results_cell_row h tmps w b 25 _ _ _ hp hb Tryd.underlying25 rfl (by rw [hi]; simp [set_len])
section
variable {w : World} {ops : Array Oper} {rest : List Oper} {o : Oper} {a : Act} {Q : Exit → Act → World → Prop} {b : Nat} {f : Nat → Bool}
/-- a whole set loaded -/
theorem wpList_load_set (hgd : o.guard = none) (x : Operand) (ho : o.op = .load 25 x) (hx : a.eval x = .pointer (some ⟨b, 0, none⟩)) (h : Bk w b 25 (setL f))
    (hK : wpList Tryd.prog ops Q rest (a.put o.dst (setV f)) w) : wpList Tryd.prog ops Q (o :: rest) a w := by
  refine wpList_plain hgd fun K hK' => ?_
  unfold Oper.wp execOp
  simp only [ho, hx, Sem.run_bind, Sem.run_pure, run_load_set h, Result.andThen_ok]
  exact hK' _ _ hK
/-- a whole set stored -/
theorem wpList_store_set {cs : List Value} (hgd : o.guard = none) (x y : Operand) (ho : o.op = .store 25 x y) (hx : a.eval x = .pointer (some ⟨b, 0, none⟩)) (hy : a.eval y = setV f) (h : Bk w b 25 cs) (hc : cs.length = 64)
    (hK : ∀ w', Bk w' b 25 (setL f) → (∀ x, x ≠ b → w'.heap[x]? = w.heap[x]?) → (∀ B, B ≤ b → Below B w w') → wpList Tryd.prog ops Q rest (a.put o.dst undef) w') : wpList Tryd.prog ops Q (o :: rest) a w := by
  refine wpList_plain hgd fun K hK' => ?_
  unfold Oper.wp execOp
  simp only [ho, hx, hy, Sem.run_bind, Sem.run_pure, run_store_set h hc, Result.andThen_ok]
  exact hK' _ _ (hK _ (setRow_same h) (fun x hx => setRow_other w b _ hx) (fun B hB => setRow_below (Below.refl B w) hB _))
/-- .. into a new variable -/
theorem wpList_new_set {w0 : World} (hgd : o.guard = none) (x y : Operand) (ho : o.op = .store 25 x y) (hx : a.eval x = .pointer (some ⟨w0.heap.size, 0, none⟩)) (hy : a.eval y = setV f) (hw : w = w0.alloc (.cells (setL fun _ => false).toArray 25))
    (hK : ∀ w', Bk w' w0.heap.size 25 (setL f) → Below w0.heap.size w0 w' → wpList Tryd.prog ops Q rest (a.put o.dst undef) w') : wpList Tryd.prog ops Q (o :: rest) a w := by
  subst hw
  exact wpList_store_set hgd x y ho hx hy (Bk.new w0 _ (setL fun _ => false)) (set_len _) fun w' h1 _ h3 => hK w' h1 (((Below.refl _ w0).alloc (Nat.le_refl _) _).trans (h3 _ (Nat.le_refl _)))
end
end Go.Proofs.YtngfopnefmknoaaDoor
