/- Queue: a ring in memory; where an item stands. -/
import Derived.Test.YtpemdfdmnbhpjaaQuPlain
set_option linter.all false
namespace Go.Proofs.Ytpemdfdmnbhpjaa
open Go.RowKit
set_option maxRecDepth 100000
/-- a ring's three cells, at the beginning of a block -/
abbrev hd (a : Option Addr) (n cap first many : Nat) (rest : List Value) : List Value := .slice a n cap :: .int .i64 (first : Int) :: .int .i64 (many : Int) :: rest
def AtP (pb s : Nat) (w : World) (e : Ending) (w' : World) : Prop := e = .returned (.pointer (some ⟨pb, s * 2, none⟩)) ∧ ∃ q, w' = w.drewN q
theorem at_any {w : World} {g : Nat} {T : TypeId} {rest : List Value} {pb n cap first many k : Nat} (hb : Bk w g T (hd (some ⟨pb, 0, none⟩) n cap first many rest)) (hf : first < n) (hk : k < n) (hn : n ≤ 4611686018427387904) (hc : n ≤ cap) :
    Calls Try.prog 28 #[.pointer (some ⟨g, 0, none⟩), .int .i64 (k : Int)] w (AtP pb (slot n first k) w) := by
  have c0 := hb.c 0 rfl
  have c1 := hb.c 1 rfl
  have hm : (((first : Int) + (k : Int)).tmod (n : Int)) = ((slot n first k : Nat) : Int) := by
    rw [Int.tmod_eq_emod_of_nonneg (by omega)]
    unfold slot
    rw [Int.natCast_emod, Int.natCast_add]
  have hw : IntKind.i64.wrap ((first : Int) + (k : Int)) = (first : Int) + (k : Int) := by rw [IntKind.wrap_i64]; omega
  have hs := slot_lt (first := first) (k := k) (show 0 < n by omega)
  generalize slot n first k = s at hm hs ⊢
  have t1 : ((n : Int) == 0) = false := by simp; omega
  have hw2 : IntKind.i64.wrap ((s : Nat) : Int) = (s : Int) := by rw [IntKind.wrap_i64]; omega
  clear hb
  go_enter Try.func28, Try.ntmps28
  go_wp2_with fail
  go_quiet (fail)
  go_wp2
  go_ret
  exact ⟨rfl, _, rfl⟩
end Go.Proofs.Ytpemdfdmnbhpjaa
