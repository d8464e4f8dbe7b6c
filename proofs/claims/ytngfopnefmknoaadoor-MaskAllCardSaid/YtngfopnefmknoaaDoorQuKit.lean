/- Queue: what the walks share: blocks known whole; worlds that differ in named blocks alone. -/
import Derived.Test.YtngfopnefmknoaaDoorRows
import Derived.WalkKit
import Derived.WalkSpells
import Derived.WalkLawsBesides
import Derived.Lib.Hide
import Derived.LoopTactic
import Derived.Laws.AppendOwnNone
import Derived.RegionTactic
import Derived.ChangeAlike
import Derived.Deep.QuietTactic
import Derived.BigQuiet
import Derived.RangeFuncBox
import Derived.Below
import Derived.WalkSmall
import Derived.ProofKit
import Derived.OpenShut
import Derived.IntWalk
set_option linter.all false
namespace Go.Proofs.YtngfopnefmknoaaDoor
open Go.RowKit
set_option maxRecDepth 100000
/-- within 64 bits -/
abbrev In (a : Int) : Prop := -9223372036854775808 ≤ a ∧ a ≤ 9223372036854775807
theorem in_of_wf {a : Int} (h : (Lit.int .i64 a).wf = true) : In a := by
  have := bounds_i64 h
  unfold In; omega
theorem some_lt {w : World} {x : Nat} {o : Obj} (h : w.heap[x]? = some o) : x < w.heap.size := (Array.getElem?_eq_some_iff.1 h).1
/-- w' is w, but for the blocks F and what is new -/
structure Out (F : List Nat) (w w' : World) : Prop where
  os : w'.os = w.os
  tape : w'.tape = w.tape
  output : w'.output = w.output
  size : w.heap.size ≤ w'.heap.size
  block : ∀ b, b < w.heap.size → b ∉ F → w'.heap[b]? = w.heap[b]?
theorem Out.refl (F : List Nat) (w : World) : Out F w w := ⟨rfl, rfl, rfl, Nat.le_refl _, fun _ _ _ => rfl⟩
theorem Out.trans {F : List Nat} {a b c : World} (h : Out F a b) (k : Out F b c) : Out F a c := ⟨k.os.trans h.os, k.tape.trans h.tape, k.output.trans h.output, Nat.le_trans h.size k.size, fun x hx hn => (k.block x (Nat.lt_of_lt_of_le hx h.size) hn).trans (h.block x hx hn)⟩
/-- further on, in blocks of F or new ones -/
theorem Out.then {F G : List Nat} {a b c : World} (h : Out F a b) (k : Out G b c) (hG : ∀ x ∈ G, x ∈ F ∨ a.heap.size ≤ x) : Out F a c := ⟨k.os.trans h.os, k.tape.trans h.tape, k.output.trans h.output, Nat.le_trans h.size k.size, fun x hx hn => (k.block x (Nat.lt_of_lt_of_le hx h.size) (fun e => (hG x e).elim hn (by omega))).trans (h.block x hx hn)⟩
theorem Out.mono {F G : List Nat} {a b : World} (h : Out F a b) (hs : ∀ x ∈ F, x ∈ G) : Out G a b := ⟨h.os, h.tape, h.output, h.size, fun x hx hn => h.block x hx (fun e => hn (hs x e))⟩
theorem Out.of_below {F : List Nat} {a b : World} (h : Below a.heap.size a b) : Out F a b := ⟨h.os, h.tape, h.output, h.size, fun x hx _ => h.block x hx⟩
theorem Out.below {F : List Nat} {a b c : World} (h : Out F a b) (k : Below b.heap.size b c) : Out F a c := h.trans (Out.of_below k)
theorem Out.setCell {F : List Nat} {a b : World} (h : Out F a b) {g : Nat} (hg : g ∈ F ∨ a.heap.size ≤ g) (k : Nat) (u : Value) : Out F a (b.setCell ⟨g, k, none⟩ u) := by
  refine ⟨h.os, h.tape, h.output, by rw [World.size_setCell]; exact h.size, fun x hx hn => (heap_setCell_other b ⟨g, k, none⟩ x u ?_).trans (h.block x hx hn)⟩
  show x ≠ g
  rintro rfl
  exact hg.elim hn (by omega)
theorem Out.alloc {F : List Nat} {a b : World} (h : Out F a b) (o : Obj) : Out F a (b.alloc o) := h.below ((Below.refl _ b).alloc (Nat.le_refl _) o)
theorem Out.drew {F : List Nat} {a b : World} (h : Out F a b) : Out F a b.drew := h.below (Below.refl _ b).drew
theorem Out.drewN {F : List Nat} {a b : World} (h : Out F a b) (n : Nat) : Out F a (b.drewN n) := h.below (below_drewN (Below.refl _ b) n)
/-- all below B stays -/
theorem Out.toBelow {F : List Nat} {B : Nat} {a b : World} (h : Out F a b) (hB : B ≤ a.heap.size) (hF : ∀ x ∈ F, B ≤ x) : Below B a b :=
  ⟨h.os, h.tape, h.output, h.size, fun k hk => h.block k (by omega) (fun e => by have := hF k e; omega)⟩
theorem Out.toB {a b : World} (h : Out [] a b) : Below a.heap.size a b := h.toBelow (Nat.le_refl _) (fun x hx => by cases hx)
/-- these blocks are as they were -/
def SameB (F : List Nat) (w w' : World) : Prop := ∀ x ∈ F, w'.heap[x]? = w.heap[x]?
theorem SameB.of_below {F : List Nat} {B : Nat} {w w' : World} (h : Below B w w') (hF : ∀ x ∈ F, x < B) : SameB F w w' := fun x hx => h.block x (hF x hx)
theorem Out.same {F G : List Nat} {a b : World} (h : Out F a b) (hG : ∀ x ∈ G, x < a.heap.size ∧ x ∉ F) : SameB G a b := fun x hx => h.block x (hG x hx).1 (hG x hx).2
/-- a block known whole -/
def Bk (w : World) (g : Nat) (T : TypeId) (cs : List Value) : Prop := w.heap[g]? = some (.cells cs.toArray T (0, 0))
theorem Bk.new (w : World) (T : TypeId) (cs : List Value) : Bk (w.alloc (.cells cs.toArray T)) w.heap.size T cs := heap_alloc_new w _
theorem Bk.lt {w : World} {g : Nat} {T : TypeId} {cs : List Value} (h : Bk w g T cs) : g < w.heap.size := some_lt h
theorem Bk.c {w : World} {g : Nat} {T : TypeId} {cs : List Value} (h : Bk w g T cs) (j : Nat) {v : Value} (hj : cs[j]? = some v) : w.cell? ⟨g, j, none⟩ = some v := by
  rw [cell_of_row w g j _ _ _ h]; simpa using hj
theorem Bk.fz {w : World} {g : Nat} {T : TypeId} {cs : List Value} (h : Bk w g T cs) (j : Nat) : w.frozen? ⟨g, j, none⟩ = false := frozen_of_row w g j _ _ h
theorem Bk.keep {w w' : World} {B g : Nat} {T : TypeId} {cs : List Value} (h : Bk w g T cs) (hb : Below B w w') (hg : g < B) : Bk w' g T cs := (hb.block g hg).trans h
theorem Bk.below {w w' : World} {g : Nat} {T : TypeId} {cs : List Value} (h : Bk w g T cs) (hb : Below w.heap.size w w') : Bk w' g T cs := h.keep hb h.lt
theorem Bk.same {w w' : World} {g : Nat} {T : TypeId} {cs : List Value} (h : Bk w g T cs) (hs : w'.heap[g]? = w.heap[g]?) : Bk w' g T cs := hs.trans h
theorem Bk.out {F : List Nat} {w w' : World} {g : Nat} {T : TypeId} {cs : List Value} (h : Bk w g T cs) (ho : Out F w w') (hg : g ∉ F) : Bk w' g T cs := (ho.block g h.lt hg).trans h
theorem Bk.set {w : World} {g : Nat} {T : TypeId} {cs : List Value} (h : Bk w g T cs) (j : Nat) (v : Value) : Bk (w.setCell ⟨g, j, none⟩ v) g T (cs.set j v) := by
  have h2 := heap_setCell_same w g j _ _ v h
  unfold Bk
  rw [h2]
  simp
theorem Bk.other {w : World} {g : Nat} {T : TypeId} {cs : List Value} (h : Bk w g T cs) {x : Nat} (hx : g ≠ x) (j : Nat) (v : Value) : Bk (w.setCell ⟨x, j, none⟩ v) g T cs := (heap_setCell_other w ⟨x, j, none⟩ g v hx).trans h
theorem Bk.alloc {w : World} {g : Nat} {T : TypeId} {cs : List Value} (h : Bk w g T cs) (o : Obj) : Bk (w.alloc o) g T cs := (heap_alloc_old w o h.lt).trans h
theorem Bk.drewN {w : World} {g : Nat} {T : TypeId} {cs : List Value} (h : Bk w g T cs) (n : Nat) : Bk (w.drewN n) g T cs := h.below (below_drewN (Below.refl _ w) n)
theorem drew_below (w : World) : Below w.heap.size w w.drew := (Below.refl _ w).drew
theorem ret1 {k : IntKind} {a b : Int} (h : a = b) : Ending.returned (.int k a) = .returned (.int k b) := by rw [h]
theorem retB {a b : Bool} (h : a = b) : Ending.returned (.bool a) = .returned (.bool b) := by rw [h]
end Go.Proofs.YtngfopnefmknoaaDoor
