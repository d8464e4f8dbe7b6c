/- Some numbers: what the law asks ahead is so. -/
import Derived.Test.YtdckenkomjikbaaCkSum
import Derived.Test.YtdckenkomjikbaaCkMul
namespace Go.Proofs.Ytdckenkomjikbaa
open Go.RowKit

theorem ints_new (w : World) (l : List Int) (t : TypeId) : IntsAt (w.alloc (.cells (l.map (Value.int .i64)).toArray t)) ⟨w.heap.size, 0, none⟩ l := by
  intro i hi
  have hadd : (⟨w.heap.size, 0, none⟩ : Addr).add i = ⟨w.heap.size, i, none⟩ := by unfold Addr.add; simp; omega
  rw [hadd, World.cell?_alloc_new]
  simp [hi]

theorem awake1 (w : World) : Calls Try.prog 9 #[.int .i64 2, .int .i64 3] w fun e w' => e = .returned (.tuple #[.int .i64 5, .int .i64 0]) ∧ w = w' :=
  (add_any 2 3 w (by decide) (by decide)).mono fun _ _ h => ⟨h.1.trans (ret2 (by decide) (by decide)), h.2⟩
theorem awake2 (w : World) : Calls Try.prog 13 #[.int .i64 4294967296, .int .i64 2147483648] w fun e w' => e = .returned (.tuple #[.int .i64 0, .int .i64 30]) ∧ w = w' :=
  (mul_any 4294967296 2147483648 w (by decide) (by decide)).mono fun _ _ h => ⟨h.1.trans (ret2 (by decide) (by decide)), h.2⟩
theorem awake3 (w : World) : Calls Try.prog 25 #[.int .i64 (-7), .int .i64 3] w fun e w' => e = .returned (.tuple #[.int .i64 2, .int .i64 0]) ∧ w = w' :=
  (euclid_any (-7) 3 w (by decide) (by decide)).mono fun _ _ h => ⟨h.1.trans (ret2 (by decide) (by decide)), h.2⟩
theorem awake4 {w : World} {a : Option Addr} {n cap : Nat} (h : Ints w a n cap [4611686018427387904, 4611686018427387904, -4611686018427387904, -4611686018427387904, 5]) :
    Calls Try.prog 21 #[.slice a n cap] w fun e w' => e = .returned (.tuple #[.int .i64 5, .int .i64 0]) ∧ w = w' :=
  (sum_any h).mono fun _ _ h => ⟨h.1.trans (ret2 (by decide) (by decide)), h.2⟩

theorem awake5 (w : World) (t : TypeId) : Ints (w.alloc (.cells #[.int .i64 4611686018427387904, .int .i64 4611686018427387904, .int .i64 (-4611686018427387904), .int .i64 (-4611686018427387904), .int .i64 5] t)) (some ⟨w.heap.size, 0, none⟩) 5 5 [4611686018427387904, 4611686018427387904, -4611686018427387904, -4611686018427387904, 5] :=
  ⟨rfl, Nat.le_refl _, by decide, by unfold AllIn; decide, .inr ⟨_, rfl, ints_new w [4611686018427387904, 4611686018427387904, -4611686018427387904, -4611686018427387904, 5] t⟩⟩

theorem awake_any (w : World) : Calls Try.prog 27 #[] w fun e w' => e = .returned (.bool true) ∧ ∃ c t, w.alloc (.cells c t) = w' := by
  go_enter Try.func27, Try.ntmps27
  go_wp2_with (first
    | (go_at_call 9; refine (awake1 _).mono ?_; rintro e w' ⟨rfl, rfl⟩)
    | (go_at_call 13; refine (awake2 _).mono ?_; rintro e w' ⟨rfl, rfl⟩)
    | (go_at_call 25; refine (awake3 _).mono ?_; rintro e w' ⟨rfl, rfl⟩))
  refine (awake4 (awake5 w _)).mono ?_
  rintro e w' ⟨rfl, rfl⟩
  go_wp2
  go_ret
  exact ⟨rfl, _, _, rfl⟩
end Go.Proofs.Ytdckenkomjikbaa
