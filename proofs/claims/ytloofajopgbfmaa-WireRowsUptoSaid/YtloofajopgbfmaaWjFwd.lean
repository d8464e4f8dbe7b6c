/- A scope in which the run jumps forward to one label, and no further: the code behind it is walked where the jump is. No program. -/
import Derived.Test.YtloofajopgbfmaaWjSize
import Derived.ScopeJumps
import Derived.WalkMore
namespace Go.Proofs.Ytloofajopgbfmaa
set_option linter.all false
open Go
theorem wp_scope_fwd {P : Program} {a : Act} {w : World} {Q : Exit → Act → World → Prop} {c rest : Code} (l : Nat) (hf : findLabel c l = some rest)
    (h : c.wp P (Exit.jump l (fun a w => rest.wp P (Exit.noGoto Q) a w) Q) a w) : (Code.scope c).wp P Q a w := by
  refine wp_scope_jumps l (fun a w => rest.wp P (Exit.noGoto Q) a w) (fun _ _ => 0) hf h (fun a w hJ => Code.wp_mono (fun e a w h => ?_) hJ)
  cases e with
  | goto l' => exact absurd h (by unfold Exit.noGoto; exact id)
  | normal => exact h
  | exit id => exact h
  | ret => exact h
  | panic ch => exact h
  | outgrown => exact h
theorem jump_ret {J : Act → World → Prop} {Q : Exit → Act → World → Prop} {l : Nat} {a : Act} {w : World} : Exit.jump l J Q .ret a w = Q .ret a w := rfl
theorem jump_goto {J : Act → World → Prop} {Q : Exit → Act → World → Prop} {l : Nat} {a : Act} {w : World} (h : J a w) : Exit.jump l J Q (.goto l) a w := ⟨rfl, h⟩
end Go.Proofs.Ytloofajopgbfmaa
