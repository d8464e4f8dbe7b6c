/- Each: a sequence over a copy of the text. -/
import Derived.Test.YtkhghbeojfgkhaaDoorTold
namespace Go.Proofs.YtkhghbeojfgkhaaDoor
open Go.RowKit Go.Shelf
set_option maxRecDepth 100000

theorem allF_take (l : List UInt8) : allF (l.take 32769) = allF l := by
  rcases Nat.lt_or_ge 32769 l.length with h | h
  · unfold allF
    rw [if_pos (by simp; omega), if_pos (by omega)]
  · rw [List.take_of_length_le h]
theorem slice_head {w : World} {a : Option Addr} {n cap : Nat} {l : List UInt8} (k : Nat) (ht : Txt w a n cap l) (hk : k ≤ n) :
    (∀ w', (Instr.slice 22 (.slice a n cap) none (some (.int .i64 (k : Int))) none).run Tryd.prog w' = .ok (.slice a k cap) w') ∧ Txt w a k cap (l.take k) := by
  have hnc := ht.2.1
  refine ⟨fun w' => ?_, txt_take k ht hk⟩
  rw [run_slice_h w' _ a n cap elem_text .i64 k (by omega) (by omega), elem_is, Tryd.sizeOf5]
  simp [Result.andThen, sliced]
  intro _
  cases a with
  | none => rfl
  | some x => simp [Addr.add]
def CloneP (k : Nat) (l : List UInt8) (w : World) (e : Ending) (w' : World) : Prop := ∃ a' c', e = .returned (.slice a' k c') ∧ Txt w' a' k c' l ∧ Below w.heap.size w w'
theorem clone_any (a : Option Addr) (k cap : Nat) (l : List UInt8) (w : World) (ht : Txt w a k cap l) (hr : k ≤ 140737488351232) : Calls Tryd.prog 24 #[.slice a k cap] w (CloneP k l w) := by
  obtain ⟨hl, hnc, hm, ⟨rfl, rfl, rfl⟩ | ⟨x, rfl, hx⟩⟩ := ht
  · refine (Tryd.bytes_Clone_nil 0 0 w).mono ?_
    rintro e w' ⟨rfl, rfl⟩
    obtain rfl : l = [] := List.eq_nil_of_length_eq_zero hl
    exact ⟨none, 0, rfl, txt_none _, Below.refl _ _⟩
  · refine (Tryd.bytes_Clone_at x k cap (l.map fun b => (b.toNat : Int)) w (by simpa using hl) (by omega) (fun i hi => ?_)).mono ?_
    · have hi' : i < l.length := by omega
      rw [hx i hi']
      simp [List.getD_eq_getElem?_getD, hi']
    · rintro e w' ⟨v, rfl, ho, _, hb⟩
      have hu : (l.map fun b => (b.toNat : Int)).map (Value.int .u8) = u8s l := by unfold u8s; rw [List.map_map]; rfl
      rw [hu] at ho
      obtain ⟨va, vc, rfl⟩ := own_form' ho
      exact ⟨va, vc, rfl, txt_of_owned ho, hb⟩

def EachP (l : List UInt8) (w : World) (e : Ending) (w' : World) : Prop :=
  ∃ Bn a' n' c', e = .returned (.func (.func 31) #[] #[.pointer (some ⟨Bn, 0, none⟩)]) ∧ Boxed w' Bn 22 (.slice a' n' c') ∧ Txt w' a' n' c' (l.take 32769) ∧ w.heap.size ≤ Bn ∧ Below w.heap.size w w'
theorem each_any (a : Option Addr) (n cap : Nat) (l : List UInt8) (w : World) (ht : Txt w a n cap l) (hr : n ≤ 140737488351232) :
    Calls Tryd.prog 13 #[.slice a n cap] w (EachP l w) := by
  have hl := ht.1
  rcases Nat.lt_or_ge 32769 n with h | h
  · obtain ⟨hs, hT⟩ := slice_head 32769 ht (by omega)
    have hs' : ∀ w', (Instr.slice 22 (.slice a n cap) none (some (.int .i64 32769)) none).run Tryd.prog w' = .ok (.slice a 32769 cap) w' := hs
    have d1 : min (n : Int) 32769 = 32769 := by omega
    have HT := Lib.hid hT
    clear hs hT ht hl
    go_enter Tryd.func13, Tryd.ntmps13
    go_wp2_with fail
    refine (clone_any a 32769 cap _ w HT.out (by omega)).mono ?_
    rintro e w5 ⟨a', c', rfl, ht', hb⟩
    have HT' := Lib.hid ht'
    have HB := Lib.hid hb
    clear ht' hb
    go_wp2_with fail
    refine ((callsIn_wide (n := 3)).1 (tokens_in 3 a' 32769 c' w5)).mono ?_
    rintro e w6 ⟨rfl, rfl⟩
    go_wp2_with fail
    go_ret
    exact ⟨w5.heap.size, a', 32769, c', rfl, Boxed.new _ _ _, HT'.out.below ((Below.refl _ w5).alloc (Nat.le_refl _) _) (Nat.le_refl _), HB.out.size, HB.out.alloc HB.out.size _⟩
  · obtain ⟨hs, hT⟩ := slice_head n ht (Nat.le_refl _)
    have he : l.take n = l.take 32769 := by rw [List.take_of_length_le (by omega), List.take_of_length_le (by omega)]
    rw [he] at hT
    have d1 : min (n : Int) 32769 = (n : Int) := by omega
    have HT := Lib.hid hT
    clear hT ht hl he
    go_enter Tryd.func13, Tryd.ntmps13
    go_wp2_with fail
    refine (clone_any a n cap _ w HT.out (by omega)).mono ?_
    rintro e w5 ⟨a', c', rfl, ht', hb⟩
    have HT' := Lib.hid ht'
    have HB := Lib.hid hb
    clear ht' hb
    go_wp2_with fail
    refine ((callsIn_wide (n := 3)).1 (tokens_in 3 a' n c' w5)).mono ?_
    rintro e w6 ⟨rfl, rfl⟩
    go_wp2_with fail
    go_ret
    exact ⟨w5.heap.size, a', n, c', rfl, Boxed.new _ _ _, HT'.out.below ((Below.refl _ w5).alloc (Nat.le_refl _) _) (Nat.le_refl _), HB.out.size, HB.out.alloc HB.out.size _⟩
end Go.Proofs.YtkhghbeojfgkhaaDoor
