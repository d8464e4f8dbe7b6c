/- same; what is joined. -/
import Derived.Test.YtiemifaiamcklaaDoorLexQuotes
import Derived.Test.YtiemifaiamcklaaDoorPartsPlain
namespace Go.Proofs.YtiemifaiamcklaaDoor
open Go.RowKit Go.Shelf
set_option maxRecDepth 100000

theorem same_yes (kd sz iv at1 at2 : Int) (rl : Nat) (tx : ByteArray) (w : World) :
    Calls Tryd.prog 20 #[.agg #[.int .i64 kd, .string tx, .int .i64 iv, .float .f64 rl, .int .i64 at1, .int .i64 sz], .agg #[.int .i64 kd, .string tx, .int .i64 iv, .float .f64 rl, .int .i64 at2, .int .i64 sz]] w fun e w' => e = .returned (.bool true) ∧ Below w.heap.size w w' := by
  have h1 := f64bits rl
  have sf : ∀ (p : Addr) (b : Nat) (mo : Mode) (w' : World), (store p (.float .f64 b) mo).run Tryd.prog w' = stored Tryd.prog w' p (.float .f64 b) mo := fun p b mo w' => run_store _ w' p _ mo rfl
  go_enter Tryd.func20, Tryd.ntmps20
  go_wp2
  go_region
  all_goals go_wp2
  all_goals go_ret
  all_goals exact ⟨rfl, (((Below.refl _ w).alloc (Nat.le_refl _) _).alloc (by simp) _).drew⟩

theorem joinB_snoc (l : List UInt8) (xs : List (Tok × Nat)) (x : Tok × Nat) : joinB l (xs ++ [x]) = joinB l xs ++ 32 :: pieceOf l x.1.at_ (x.1.at_ + x.1.size) := by simp [joinB]
theorem joinB_take_le (l : List UInt8) (xs : List (Tok × Nat)) (k : Nat) : (joinB l (xs.take k)).length ≤ (joinB l xs).length := by
  have h : joinB l xs = joinB l (xs.take k) ++ joinB l (xs.drop k) := by unfold joinB; rw [← List.flatMap_append, List.take_append_drop]
  rw [h]; simp
theorem joinB_pos (l : List UInt8) (xs : List (Tok × Nat)) (k : Nat) (hk : 0 < k) (hx : k ≤ xs.length) : 0 < (joinB l (xs.take k)).length := by
  match xs, k, hk, hx with
  | [], _, h1, h2 => simp at h2; omega
  | x :: xs, k + 1, _, _ => rw [List.take_succ_cons, joinB_cons]; simp

end Go.Proofs.YtiemifaiamcklaaDoor
