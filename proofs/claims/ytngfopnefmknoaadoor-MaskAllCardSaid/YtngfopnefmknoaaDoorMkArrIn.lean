/- Masks: sets and rows of ints within a fenced walk. -/
import Derived.Test.YtngfopnefmknoaaDoorMkArr
import Derived.Test.YtngfopnefmknoaaDoorMkRow
import Derived.Test.YtngfopnefmknoaaDoorMkRange
set_option linter.all false
namespace Go.Proofs.YtngfopnefmknoaaDoor
open Go.RowKit
set_option maxRecDepth 100000
section
variable {F : Fence} {n : Nat} {w : World} {ops : Array Oper} {rest : List Oper} {o : Oper} {a : Act} {Q : Exit → Act → World → Prop} {b : Nat} {f : Nat → Bool}
theorem semAt_any (o : Oper) (ro : Option Nat) (ρ : Operand → Value) (h : ∀ c, o.op ≠ .defer c) : Oper.semAt ro ρ o = execOp ρ o := by
  cases ro with
  | none => rfl
  | some l => exact Oper.semAt_some l _ _ h
theorem wpListIn_load_set (hgd : o.guard = none) (x : Operand) (ho : o.op = .load 25 x) (hx : a.eval x = .pointer (some ⟨b, 0, none⟩)) (h : Bk w b 25 (setL f))
    (hK : wpListIn F n Tryd.prog ops Q rest (a.put o.dst (setV f)) w) : wpListIn F n Tryd.prog ops Q (o :: rest) a w := by
  refine wpListIn_plain hgd fun K hK' => ?_
  unfold Oper.wpIn
  refine ⟨?_, ?_⟩
  · simp [Oper.about, ho]
  · rw [semAt_any _ _ _ (by rw [ho]; intro c hc'; cases hc')]
    unfold execOp
    simp only [ho, hx, Sem.run_bind, Sem.run_pure, run_load_set h, Result.andThen_ok]
    exact hK' _ _ hK
theorem wpListIn_store_set {cs : List Value} (hgd : o.guard = none) (x y : Operand) (ho : o.op = .store 25 x y) (hx : a.eval x = .pointer (some ⟨b, 0, none⟩)) (hy : a.eval y = setV f) (h : Bk w b 25 cs) (hc : cs.length = 64)
    (hK : ∀ w', Bk w' b 25 (setL f) → (∀ x, x ≠ b → w'.heap[x]? = w.heap[x]?) → (∀ B, B ≤ b → Below B w w') → wpListIn F n Tryd.prog ops Q rest (a.put o.dst undef) w') : wpListIn F n Tryd.prog ops Q (o :: rest) a w := by
  refine wpListIn_plain hgd fun K hK' => ?_
  unfold Oper.wpIn
  refine ⟨?_, ?_⟩
  · simp [Oper.about, ho]
  · rw [semAt_any _ _ _ (by rw [ho]; intro c hc'; cases hc')]
    unfold execOp
    simp only [ho, hx, hy, Sem.run_bind, Sem.run_pure, run_store_set h hc, Result.andThen_ok]
    exact hK' _ _ (hK _ (setRow_same h) (fun x hx => setRow_other w b _ hx) (fun B hB => setRow_below (Below.refl B w) hB _))
theorem wpListIn_new_set {w0 : World} (hgd : o.guard = none) (x y : Operand) (ho : o.op = .store 25 x y) (hx : a.eval x = .pointer (some ⟨w0.heap.size, 0, none⟩)) (hy : a.eval y = setV f) (hw : w = w0.alloc (.cells (setL fun _ => false).toArray 25))
    (hK : ∀ w', Bk w' w0.heap.size 25 (setL f) → Below w0.heap.size w0 w' → wpListIn F n Tryd.prog ops Q rest (a.put o.dst undef) w') : wpListIn F n Tryd.prog ops Q (o :: rest) a w := by
  subst hw
  exact wpListIn_store_set hgd x y ho hx hy (Bk.new w0 _ (setL fun _ => false)) (set_len _) fun w' h1 _ h3 => hK w' h1 (((Below.refl _ w0).alloc (Nat.le_refl _) _).trans (h3 _ (Nat.le_refl _)))
theorem wpListIn_ir (hgd : o.guard = none) (s x : Operand)
    (ho : o.op = .call { callee := .builtin .append, args := #[s, x], argTypes := #[37, 37] }) {B : Nat} {F' : List Nat} {v : Value} {l : List Int} (h : Ir w B F' v l) (hs : a.eval s = v) (src : Option Addr) (m c : Nat) (ms : List Int) (hm : ms.length = m) (hx : a.eval x = .slice src m c)
    (hsrc : (src = none ∧ ms = [] ∧ c = 0) ∨ ∃ ad, src = some ad ∧ ∀ j u, (intsV ms)[j]? = some u → w.cell? (ad.add j) = some u) (hb : l.length + ms.length ≤ 17592186044416) (hB : B ≤ w.heap.size)
    (hK : ∀ v' G w', Ir w' B G v' (l ++ ms) → Out F' w w' → (∀ b ∈ G, b ∈ F' ∨ w.heap.size ≤ b) → wpListIn F n Tryd.prog ops Q rest (a.put o.dst v') w') : wpListIn F n Tryd.prog ops Q (o :: rest) a w := by
  subst hm
  refine wpListIn_plain hgd fun K hK' => ?_
  obtain ⟨v', G, w', hr, h1, h2, h3⟩ := run_ir h o.type src c ms hsrc hb hB
  unfold Oper.wpIn
  refine ⟨?_, ?_⟩
  · simp [Oper.about, ho, resolve, Target.leads, Sem.run_pure]
  · rw [semAt_any _ _ _ (by rw [ho]; intro c hc'; cases hc')]
    simp [execOp, ho, resolve, invoke, builtin, hs, hx, hr, Result.andThen]
    exact hK' _ _ (hK v' G w' h1 h2 h3)
/-- one more, out of a new block -/
theorem wpListIn_ir1 {w0 : World} (hgd : o.guard = none) (s x : Operand)
    (ho : o.op = .call { callee := .builtin .append, args := #[s, x], argTypes := #[37, 37] }) {B : Nat} {F' : List Nat} {v : Value} {l : List Int} (h : Ir w0 B F' v l) (y : Int) (hw : w = w0.alloc (.cells #[.int .i64 y] 3)) (hs : a.eval s = v) (hx : a.eval x = .slice (some ⟨w0.heap.size, 0, none⟩) 1 1)
    (hb : l.length + 1 ≤ 17592186044416) (hB : B ≤ w0.heap.size)
    (hK : ∀ v' G w', Ir w' B G v' (l ++ [y]) → Out F' w0 w' → (∀ b ∈ G, b ∈ F' ∨ w0.heap.size ≤ b) → wpListIn F n Tryd.prog ops Q rest (a.put o.dst v') w') : wpListIn F n Tryd.prog ops Q (o :: rest) a w := by
  subst hw
  have k := (Below.refl _ w0).alloc (Nat.le_refl _) (.cells #[.int .i64 y] 3)
  refine wpListIn_ir hgd s x ho (h.below k) hs (some ⟨w0.heap.size, 0, none⟩) 1 1 [y] rfl hx (.inr ⟨_, rfl, cells_laid w0 [.int .i64 y] 3⟩) hb (by rw [World.size_alloc]; omega) fun v' G w' h1 h2 h3 => ?_
  refine hK v' G w' h1 ((Out.of_below k).trans h2) fun b hb' => (h3 b hb').imp id (fun h => ?_)
  rw [World.size_alloc] at h
  omega
end
end Go.Proofs.YtngfopnefmknoaaDoor
