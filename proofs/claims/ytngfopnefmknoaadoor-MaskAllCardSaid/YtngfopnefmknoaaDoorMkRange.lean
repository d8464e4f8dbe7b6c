/- Masks: a loop over a sequence: one round, and the whole statement, by the two blocks that the loop lays. -/
import Derived.Test.YtngfopnefmknoaaDoorQuKit
import Derived.RangeFuncNested
import Derived.RangeFuncBound
import Derived.RangeFuncCalls
import Derived.RangeFuncLeaves
import Derived.RangeFuncFrom
import Derived.Shelf.Abstract
import Derived.Shelf.RegionOpen
import Derived.WalkKit
import Derived.OwnWalkIn
import Derived.TacticsInMore
import Derived.LoopNIn
import Derived.LoopIn
set_option linter.all false
namespace Go.Proofs.YtngfopnefmknoaaDoor
open Go.RowKit Go.Shelf
set_option maxRecDepth 100000
/-- a loop's record -/
abbrev lpR (fn : FuncId) (tmps : Array Value) (ps : Array Tmp) (assign body : Code) (b : Nat) (st : LoopState) (j : Option Code) : Loop := { state := st, pending := j, fn := fn, tmps := tmps, params := ps, assign := assign, body := body, defers := b }
/-- the loop's two blocks -/
structure Lp (r : LoopState → Option Code → Loop) (b : Nat) (st : LoopState) (j : Option Code) (W : World) : Prop where
  rcd : W.heap[b + 1]? = some (.loop (r st j))
  dfr : W.heap[b]? = some (.deferred (some []))
theorem Lp.keep {r : LoopState → Option Code → Loop} {b : Nat} {st : LoopState} {j : Option Code} {W W' : World} (h : Lp r b st j W) (hk : KeepsFrom b W W') : Lp r b st j W' := ⟨hk.same _ _ (by omega) h.rcd rfl, hk.same _ _ (Nat.le_refl _) h.dfr rfl⟩
theorem Lp.put {r : LoopState → Option Code → Loop} {b : Nat} {st st' : LoopState} {j j' : Option Code} {W : World} (h : Lp r b st j W) : Lp r b st' j' (W.putObj (b + 1) (.loop (r st' j'))) := ⟨World.putObj_heap_same (some_lt h.rcd), (World.putObj_heap_other (by omega)).trans h.dfr⟩
theorem Lp.grown {r : LoopState → Option Code → Loop} {b : Nat} {st : LoopState} {j : Option Code} {W W' : World} (h : Lp r b st j W) (hb : Below W.heap.size W W') : Lp r b st j W' := ⟨(hb.block _ (some_lt h.rcd)).trans h.rcd, (hb.block _ (some_lt h.dfr)).trans h.dfr⟩
section
variable {F : Fence} {n : Nat} {P : Program}
/-- how a round may end: the loop's record is still busy, and what is said of the world behind the round -/
def lpPost (r : LoopState → Option Code → Loop) (b : Nat) (R : Ending → World → Prop) : Exit → Act → World → Prop
  | .normal, _, W => Lp r b .busy none W ∧ R (.returned (.bool true)) (W.putObj (b + 1) (.loop (r .ready none)))
  | .ret, _, W => Lp r b .busy none W ∧ R (.returned (.bool false)) (W.putObj (b + 1) (.loop (r .done (some .ret))))
  | .exit i, _, W => Lp r b .busy none W ∧ R (.returned (.bool false)) (W.putObj (b + 1) (.loop (r .done (some (.exit i)))))
  | _, _, _ => False
/-- one round -/
theorem lp_yield {fn : FuncId} {tmps : Array Value} {ps : Array Tmp} {assign body : Code} {b : Nat} {W : World} {args : Array Value} {R : Ending → World → Prop} (hF : F.fn fn) (h : Lp (lpR fn tmps ps assign body b) b .ready none W) (hs : args.size = ps.size)
    (hw : assign.wpIn (F.inRound (b + 1)) n P (Exit.then (fun a W1 => Lp (lpR fn tmps ps assign body b) b .ready none W1 ∧ body.wpIn (F.inRound (b + 1)) n P (lpPost (lpR fn tmps ps assign body b) b R) a (W1.putObj (b + 1) (.loop (lpR fn tmps ps assign body b .busy none)))) (fun _ _ _ => False))
      { tmps := (ps.zip args).foldl (fun t (p, v) => t.setIfInBounds p v) tmps, defers := [] } W) : YieldAt F n P (b + 1) args W R := by
  refine ⟨fn, _, assign, body, run_yield (P := P) (args := args) h.rcd hs, roundIn_of_wpIn hF (wpIn_mono hw ?_)⟩
  intro e a W1 hq
  cases e with
  | normal =>
    obtain ⟨hl, hb⟩ := hq
    refine ⟨_, run_beginRound hl.rcd rfl, wpIn_mono hb ?_⟩
    intro e a W3 hp
    cases e with
    | normal => exact ⟨_, _, run_endRound none hp.1.rcd, hp.2⟩
    | ret => exact ⟨_, _, run_endRound (some .ret) hp.1.rcd, hp.2⟩
    | exit i => exact ⟨_, _, run_endRound (some (.exit i)) hp.1.rcd, hp.2⟩
    | goto t => exact hp.elim
    | panic c => exact hp.elim
    | outgrown => exact hp.elim
  | ret => exact hq.elim
  | exit i => exact hq.elim
  | goto t => exact hq.elim
  | panic c => exact hq.elim
  | outgrown => exact hq.elim
/-- the whole statement -/
theorem lp_range {g : Operand} {ps : Array Tmp} {assign body : Code} {Q : Exit → Act → World → Prop} {a : Act} {w : World} (hro : F.round = none) (h1 : 1 ≤ n) {gf : Nat} {lb : Array Value} (hg : a.eval g = .func (.func gf) #[] lb) (hFg : F.fn gf) (eg : ∀ args w, (callFunc gf args).run P w = .ok (.enter gf args) w)
    (hc : ∀ fn, F.fn fn → ∀ W1, Lp (lpR fn a.tmps ps assign body w.heap.size) w.heap.size .ready none W1 → Below w.heap.size w W1 → W1.heap.size = w.heap.size + 2 →
      CallsIn F (n - 1) P gf (#[.func (.yield (w.heap.size + 1)) #[] #[]] ++ lb) W1 fun e W2 => (∃ v, e = .returned v) ∧
        ((Lp (lpR fn a.tmps ps assign body w.heap.size) w.heap.size .ready none W2 ∧ Q .normal { a with defers := { target := .collected w.heap.size, args := #[] } :: a.defers } (W2.putObj (w.heap.size + 1) (.loop (lpR fn a.tmps ps assign body w.heap.size .exhausted none))))
        ∨ ∃ c, Lp (lpR fn a.tmps ps assign body w.heap.size) w.heap.size .done (some c) W2 ∧ c.wpIn F n P Q { a with defers := { target := .collected w.heap.size, args := #[] } :: a.defers } (W2.putObj (w.heap.size + 1) (.loop (lpR fn a.tmps ps assign body w.heap.size .exhausted (some c)))))) :
    (Code.rangeFunc g ps assign body).wpIn F n P Q a w := by
  refine wpIn_rangeFunc (fun fn hfn => ?_)
  rw [hro]
  have e1 := run_enterLoop_outer (P := P) (w := w) fn a.tmps ps assign body
  obtain ⟨W1, hW1⟩ : ∃ W1, W1 = (w.alloc (.deferred (some []))).alloc (.loop (lpR fn a.tmps ps assign body w.heap.size .ready none)) := ⟨_, rfl⟩
  have hlp : Lp (lpR fn a.tmps ps assign body w.heap.size) w.heap.size .ready none W1 := by
    have h2 := World.alloc_heap_new (w.alloc (.deferred (some []))) (.loop (lpR fn a.tmps ps assign body w.heap.size .ready none))
    rw [World.size_alloc] at h2
    rw [hW1]
    exact ⟨h2, (Below.heap_alloc _ _ _ (by simp)).trans (World.alloc_heap_new w _)⟩
  have hb : Below w.heap.size w W1 := by rw [hW1]; exact ((Below.refl _ w).alloc (Nat.le_refl _) _).alloc (by simp) _
  have hz : W1.heap.size = w.heap.size + 2 := by rw [hW1]; simp
  refine ⟨_, _, W1, { target := .fn (.func gf) lb, args := #[.func (.yield (w.heap.size + 1)) #[] #[]] }, W1, gf, _, W1, by rw [hW1]; exact e1, by simp only [resolve, hg]; simp [go_sem], fun f hf => by (simp [Target.leads] at hf; subst hf; exact hFg), by simp [invoke, go_sem, eg]; rfl, fun _ => h1, ?_⟩
  refine (hc fn hfn W1 hlp hb hz).mono ?_
  rintro e W2 ⟨⟨v, rfl⟩, ⟨hl, hq⟩ | ⟨c, hl, hq⟩⟩
  · exact ⟨none, _, run_endLoop hl.rcd (fun h => by cases h), hq⟩
  · exact ⟨some c, _, run_endLoop hl.rcd (fun h => by cases h), hq⟩
/-- the same, the record behind a name -/
theorem lp_yield2 {r : LoopState → Option Code → Loop} {fn : FuncId} {tmps : Array Value} {ps : Array Tmp} {assign body : Code} {b : Nat} {W : World} {args : Array Value} {R : Ending → World → Prop} (hr : r = lpR fn tmps ps assign body b) (hF : F.fn fn) (h : Lp r b .ready none W) (hs : args.size = ps.size)
    (hw : assign.wpIn (F.inRound (b + 1)) n P (Exit.then (fun a W1 => Lp r b .ready none W1 ∧ body.wpIn (F.inRound (b + 1)) n P (lpPost r b R) a (W1.putObj (b + 1) (.loop (r .busy none)))) (fun _ _ _ => False))
      { tmps := (ps.zip args).foldl (fun t (p, v) => t.setIfInBounds p v) tmps, defers := [] } W) : YieldAt F n P (b + 1) args W R := by
  subst hr
  exact lp_yield hF h hs hw
theorem lp_range2 {g : Operand} {ps : Array Tmp} {assign body : Code} {Q : Exit → Act → World → Prop} {a : Act} {w : World} (hro : F.round = none) (h1 : 1 ≤ n) {gf : Nat} {lb : Array Value} (hg : a.eval g = .func (.func gf) #[] lb) (hFg : F.fn gf) (eg : ∀ args w, (callFunc gf args).run P w = .ok (.enter gf args) w)
    (hc : ∀ fn r, F.fn fn → r = lpR fn a.tmps ps assign body w.heap.size → ∀ W1, Lp r w.heap.size .ready none W1 → Below w.heap.size w W1 → W1.heap.size = w.heap.size + 2 →
      CallsIn F (n - 1) P gf (#[.func (.yield (w.heap.size + 1)) #[] #[]] ++ lb) W1 fun e W2 => (∃ v, e = .returned v) ∧
        ((Lp r w.heap.size .ready none W2 ∧ Q .normal { a with defers := { target := .collected w.heap.size, args := #[] } :: a.defers } (W2.putObj (w.heap.size + 1) (.loop (r .exhausted none))))
        ∨ ∃ c, Lp r w.heap.size .done (some c) W2 ∧ c.wpIn F n P Q { a with defers := { target := .collected w.heap.size, args := #[] } :: a.defers } (W2.putObj (w.heap.size + 1) (.loop (r .exhausted (some c)))))) :
    (Code.rangeFunc g ps assign body).wpIn F n P Q a w :=
  lp_range hro h1 hg hFg eg (fun fn hfn W1 h2 h3 h4 => hc fn _ hfn rfl W1 h2 h3 h4)
/-- a range in a block that may be left: both ways meet behind it -/
theorem lp_block {g : Operand} {ps : Array Tmp} {assign body : Code} {i : Nat} {K : Act → World → Prop} {Q : Exit → Act → World → Prop} {a : Act} {w : World} (Fin : World → Prop) (hro : F.round = none) (h1 : 1 ≤ n) {gf : Nat} {lb : Array Value} (hg : a.eval g = .func (.func gf) #[] lb) (hFg : F.fn gf) (eg : ∀ args w, (callFunc gf args).run P w = .ok (.enter gf args) w)
    (hrest : ∀ W r st j, Lp r w.heap.size st j W → Fin W → K { a with defers := { target := .collected w.heap.size, args := #[] } :: a.defers } (W.putObj (w.heap.size + 1) (.loop (r .exhausted j))))
    (hc : ∀ fn r, F.fn fn → r = lpR fn a.tmps ps assign body w.heap.size → ∀ W1, Lp r w.heap.size .ready none W1 → Below w.heap.size w W1 → W1.heap.size = w.heap.size + 2 →
      CallsIn F (n - 1) P gf (#[.func (.yield (w.heap.size + 1)) #[] #[]] ++ lb) W1 fun e W2 => (∃ v, e = .returned v) ∧ ((Lp r w.heap.size .ready none W2 ∧ Fin W2) ∨ (Lp r w.heap.size .done (some (.exit i)) W2 ∧ Fin W2))) :
    (Code.rangeFunc g ps assign body).wpIn F n P (Exit.inBlock i (Exit.then K Q)) a w := by
  refine lp_range2 hro h1 hg hFg eg (fun fn r hfn hr W1 h2 h3 h4 => (hc fn r hfn hr W1 h2 h3 h4).mono ?_)
  rintro e W2 ⟨hv, ⟨hl, hf⟩ | ⟨hl, hf⟩⟩
  · exact ⟨hv, .inl ⟨hl, hrest W2 r _ _ hl hf⟩⟩
  · refine ⟨hv, .inr ⟨_, hl, wpIn_exit ?_⟩⟩
    show (if i = i then _ else _)
    rw [if_pos rfl]
    exact hrest W2 r _ _ hl hf
end
end Go.Proofs.YtngfopnefmknoaaDoor
