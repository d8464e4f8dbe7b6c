/- Wire: what the walks share: values in memory, bytes as cells. -/
import Derived.Test.YtloofajopgbfmaaWiRead
import Derived.Test.YtloofajopgbfmaaTextWalks
import Derived.Laws.Externs
import Derived.Laws.Rows
import Derived.Laws.Bits64b
import Derived.WalkKit
import Derived.WalkSpells
import Derived.WalkLawsBesides
import Derived.Lib.Hide
import Derived.LoopTactic
namespace Go.Proofs.Ytloofajopgbfmaa
set_option linter.all false
open Go.RowKit
set_option maxRecDepth 100000

theorem f64bits (b : Nat) (w : World) : (callFunc 58 #[.float .f64 b]).run Try.prog w = .ok (.value (.int .u64 b)) w := by
  rw [run_callFunc_extern Try.func58 (by kernel_rfl) (by kernel_rfl) (by kernel_rfl) (e := Extern.MathFloatBits.float64bits) (by kernel_rfl)]
  rfl
theorem f64from (n : Int) (w : World) : (callFunc 47 #[.int .u64 n]).run Try.prog w = .ok (.value (.float .f64 n.toNat)) w := by
  rw [run_callFunc_extern Try.func47 (by kernel_rfl) (by kernel_rfl) (by kernel_rfl) (e := Extern.MathFloatBits.float64frombits) (by kernel_rfl)]
  rfl
def eqB (a b : Nat) : Bool := FloatKind.f64.format.order a b == some Ordering.eq
theorem eqB_self (b : Nat) : eqB b b = !nanB b := by
  unfold eqB
  cases h : nanB b
  · rw [show FloatKind.f64.format = Ieee.double from rfl, order_key b b h h]
    simp [Int.compare_eq_eq.2]
  · rw [show FloatKind.f64.format = Ieee.double from rfl, order_nan_l b b h]
    rfl
theorem isNaN_any (b : Nat) (w : World) : Calls Try.prog 54 #[.float .f64 b] w fun e w' => e = .returned (.bool (nanB b)) ∧ w = w' := by
  have hq : (FloatKind.f64.format.order b b == some Ordering.eq) = !nanB b := eqB_self b
  cases hb : nanB b with
  | false =>
    have h1 : (FloatKind.f64.format.order b b == some Ordering.eq) = true := by rw [hq, hb]; rfl
    have h2 : (FloatKind.f64.format.order b b != some Ordering.eq) = false := by rw [bne, h1]; rfl
    clear hq hb
    go_enter Try.func54, Try.ntmps54
    go_wp2
    go_ret
    exact ⟨rfl, rfl⟩
  | true =>
    have h1 : (FloatKind.f64.format.order b b == some Ordering.eq) = false := by rw [hq, hb]; rfl
    have h2 : (FloatKind.f64.format.order b b != some Ordering.eq) = true := by rw [bne, h1]; rfl
    clear hq hb
    go_enter Try.func54, Try.ntmps54
    go_wp2
    go_ret
    exact ⟨rfl, rfl⟩
/-- an array of bytes as a value -/
def agB (l : List UInt8) : Value := .agg (u8s l).toArray
/-- a block known whole -/
def Bk (w : World) (g : Nat) (T : TypeId) (cs : List Value) : Prop := w.heap[g]? = some (.cells cs.toArray T (0, 0))
theorem Bk.new (w : World) (T : TypeId) (cs : List Value) : Bk (w.alloc (.cells cs.toArray T)) w.heap.size T cs := heap_alloc_new w _
theorem Bk.lt {w : World} {g : Nat} {T : TypeId} {cs : List Value} (h : Bk w g T cs) : g < w.heap.size := by
  rcases Nat.lt_or_ge g w.heap.size with h' | h'
  · exact h'
  · unfold Bk at h; rw [Array.getElem?_eq_none h'] at h; cases h
theorem Bk.c {w : World} {g : Nat} {T : TypeId} {cs : List Value} (h : Bk w g T cs) (j : Nat) {v : Value} (hj : cs[j]? = some v) : w.cell? ⟨g, j, none⟩ = some v := by
  rw [cell_of_row w g j _ _ _ h]; simpa using hj
theorem Bk.fz {w : World} {g : Nat} {T : TypeId} {cs : List Value} (h : Bk w g T cs) (j : Nat) : w.frozen? ⟨g, j, none⟩ = false := frozen_of_row w g j _ _ h
theorem Bk.keep {w w' : World} {B g : Nat} {T : TypeId} {cs : List Value} (h : Bk w g T cs) (hb : Below B w w') (hg : g < B) : Bk w' g T cs := (hb.block g hg).trans h
theorem Bk.set {w : World} {g : Nat} {T : TypeId} {cs : List Value} (h : Bk w g T cs) (j : Nat) (v : Value) : Bk (w.setCell ⟨g, j, none⟩ v) g T (cs.set j v) := by
  have h2 := heap_setCell_same w g j _ _ v h
  unfold Bk
  rw [h2]
  simp
theorem Bk.other {w : World} {g : Nat} {T : TypeId} {cs : List Value} (h : Bk w g T cs) {x : Nat} (hx : g ≠ x) (j : Nat) (v : Value) : Bk (w.setCell ⟨x, j, none⟩ v) g T cs := (heap_setCell_other w ⟨x, j, none⟩ g v hx).trans h
theorem Bk.alloc {w : World} {g : Nat} {T : TypeId} {cs : List Value} (h : Bk w g T cs) (o : Obj) : Bk (w.alloc o) g T cs := (heap_alloc_old w o h.lt).trans h
theorem Bk.txt {w : World} {g : Nat} {T : TypeId} {l : List UInt8} (h : Bk w g T (u8s l)) (hm : l.length ≤ 1000) : Txt w (some ⟨g, 0, none⟩) l.length l.length l := by
  refine ⟨rfl, Nat.le_refl _, by unfold maxLen; omega, .inr ⟨_, rfl, fun i hi => ?_⟩⟩
  have hadd : (⟨g, 0, none⟩ : Addr).add i = ⟨g, i, none⟩ := by unfold Addr.add; split <;> simp_all
  rw [hadd, h.c i (v := .int .u8 (l[i].toNat : Int)) (by simp [u8s, hi])]
/-- cells stored one behind the other -/
def putL (g : Nat) : World → Nat → List Value → World
  | w, _, [] => w
  | w, i, v :: vs => putL g (w.setCell ⟨g, i, none⟩ v) (i + 1) vs
theorem Bk.putL {g : Nat} {T : TypeId} : ∀ {vs a b : List Value} {w : World}, Bk w g T (a ++ b) → b.length = vs.length → Bk (putL g w a.length vs) g T (a ++ vs)
  | [], a, b, w, h, hl => by
    obtain rfl : b = [] := List.eq_nil_of_length_eq_zero hl
    exact h
  | v :: vs, a, y :: b, w, h, hl => by
    have h1 := h.set a.length v
    have e : (a ++ y :: b).set a.length v = (a ++ [v]) ++ b := by simp
    rw [e] at h1
    have h2 := Bk.putL (vs := vs) h1 (by simpa using hl)
    rw [List.length_append] at h2
    simp only [List.append_assoc, List.singleton_append, List.length_singleton] at h2
    exact h2
theorem Bk.put {w : World} {g : Nat} {T : TypeId} {cs : List Value} (h : Bk w g T cs) (vs : List Value) (hl : cs.length = vs.length) : Bk (Go.Proofs.Ytloofajopgbfmaa.putL g w 0 vs) g T vs := by
  have := Bk.putL (a := []) (b := cs) (vs := vs) (by simpa using h) hl
  simpa using this
theorem below_putL {B g : Nat} {w : World} (hg : B ≤ g) : ∀ (vs : List Value) {w1 : World} (i : Nat), Below B w w1 → Below B w (putL g w1 i vs)
  | [], _, _, h => h
  | v :: vs, w1, i, h => below_putL hg vs (i + 1) (h.setCell hg v)
theorem drew_below (w : World) : Below w.heap.size w w.drew := (Below.refl _ w).drew
end Go.Proofs.Ytloofajopgbfmaa
