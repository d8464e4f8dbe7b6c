/- Rows: a sequence over a copy of the bytes. -/
import Derived.Test.YtloofajopgbfmaaWrIter
import Derived.Test.YtloofajopgbfmaaWjWr
import Derived.Test.YtloofajopgbfmaaShelf
namespace Go.Proofs.Ytloofajopgbfmaa
set_option linter.all false
open Go.RowKit Go.Shelf
set_option maxRecDepth 100000
def ClnP (k : Nat) (l : List UInt8) (w : World) (e : Ending) (w' : World) : Prop := ∃ a' c', e = .returned (.slice a' k c') ∧ Txt w' a' k c' l ∧ Below w.heap.size w w'
theorem bclone_any (a : Option Addr) (k cap : Nat) (l : List UInt8) (w : World) (ht : Txt w a k cap l) (hr : k ≤ 140737488351232) : Calls Try.prog 39 #[.slice a k cap] w (ClnP k l w) := by
  obtain ⟨hl, hnc, hm, ⟨rfl, rfl, rfl⟩ | ⟨x, rfl, hx⟩⟩ := ht
  · refine (Try.bytes_Clone_nil 0 0 w).mono ?_
    rintro e w' ⟨rfl, rfl⟩
    obtain rfl : l = [] := List.eq_nil_of_length_eq_zero hl
    exact ⟨none, 0, rfl, ⟨rfl, Nat.le_refl _, Nat.zero_le _, .inl ⟨rfl, rfl, rfl⟩⟩, Below.refl _ _⟩
  · refine (Try.bytes_Clone_at x k cap (l.map fun b => (b.toNat : Int)) w (by simpa using hl) (by omega) (fun i hi => ?_)).mono ?_
    · have hi' : i < l.length := by omega
      rw [hx i hi']
      simp [List.getD_eq_getElem?_getD, hi']
    · rintro e w' ⟨v, rfl, ho, _, hb⟩
      have hu : (l.map fun b => (b.toNat : Int)).map (Value.int .u8) = u8s l := by unfold u8s; rw [List.map_map]; rfl
      rw [hu] at ho
      obtain ⟨va, vc, rfl⟩ := own_slice ho
      exact ⟨va, vc, rfl, txt_of_owned ho, hb⟩
def RowsP (n : Nat) (l : List UInt8) (w : World) (e : Ending) (w' : World) : Prop :=
  ∃ Bn a' c', e = .returned (.func (.func 40) #[] #[.pointer (some ⟨Bn, 0, none⟩)]) ∧ It9 Bn a' n c' l w' ∧ w.heap.size ≤ Bn ∧ Below w.heap.size w w'
set_option maxHeartbeats 1000000 in
theorem rows_any (a : Option Addr) (n cap : Nat) (l : List UInt8) (w : World) (ht : Txt w a n cap l) (hr : n ≤ 140737488351232) :
    Calls Try.prog 18 #[.slice a n cap] w (RowsP n l w) := by
  have HC := Lib.hid (bclone_any a n cap l w ht hr)
  clear ht
  go_enter Try.func18, Try.ntmps18
  go_wp2_with fail
  refine HC.out.mono ?_
  rintro e w5 ⟨a', c', rfl, ht', hb⟩
  have HT' := Lib.hid ht'
  have HB := Lib.hid hb
  clear ht' hb
  go_wp2_with fail
  go_ret
  exact ⟨w5.heap.size, a', c', rfl, ⟨Boxed.new _ _ _, HT'.out.below ((Below.refl _ w5).alloc (Nat.le_refl _) _) (Nat.le_refl _)⟩, HB.out.size, HB.out.alloc HB.out.size _⟩
end Go.Proofs.Ytloofajopgbfmaa
