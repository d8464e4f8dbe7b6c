/- strings.Cut at one byte. -/
import Derived.Test.YtkhghbeojfgkhaaDoorVUnq
namespace Go.Proofs.YtkhghbeojfgkhaaDoor
open Go.RowKit Go.Shelf
set_option maxRecDepth 100000

def CutP (s : ByteArray) (w : World) (e : Ending) (w' : World) : Prop := (∃ a b ok, e = .returned (.tuple #[.string a, .string b, .bool ok]) ∧ a.size ≤ s.size ∧ b.size ≤ s.size) ∧ Below w.heap.size w w'
set_option maxHeartbeats 1000000 in
theorem litecut_any (s : ByteArray) (c : UInt8) (w : World) (hm : s.size ≤ 140737488355328) : Calls Tryd.prog 103 #[.string s, .string ⟨#[c]⟩] w (CutP s w) := by
  have hi := Tryd.stringslite_Index_one s c
  have hge := Lib.indexByte_ge s.data.toList c
  by_cases hm1 : Lib.indexByte s.data.toList c = -1
  · rw [hm1] at hi
    have HI := Lib.hid hi
    clear hi hge hm1
    go_enter Tryd.func103, Tryd.ntmps103
    go_wp2_with (go_at_call 126; refine (HI.out _).mono ?_; rintro e w' ⟨rfl, rfl⟩)
    go_ret3
    exact ⟨⟨_, _, _, rfl, Nat.le_refl _, Nat.zero_le _⟩, Below.refl _ _⟩
  · obtain ⟨o, ho⟩ : ∃ o : Nat, Lib.indexByte s.data.toList c = o := ⟨(Lib.indexByte s.data.toList c).toNat, by omega⟩
    obtain ⟨g1, g2⟩ := Lib.indexByte_some ho
    have hlt : o < s.size := by
      have h := List.getElem?_eq_some_iff.1 g1
      obtain ⟨h, _⟩ := h
      rw [Array.length_toList] at h; exact h
    rw [ho] at hi
    have HI := Lib.hid hi
    have d0 : decide ((0 : Int) ≤ (o : Int)) = true := decide_eq_true (by omega)
    have z1 : (⟨#[c]⟩ : ByteArray).size = 1 := rfl
    have e1 : IntKind.i64.wrap ((o : Int) + 1) = (o : Int) + 1 := IntWalk.i64_in _ (by omega)
    have e2 : (0 : Int) ≤ (o : Int) + 1 := by omega
    have e3 : ((o : Int) + 1).toNat = o + 1 := by omega
    have e4 : (o : Int) + 1 ≤ (s.size : Int) := by omega
    have e5 : (o : Int) ≤ (s.size : Int) := by omega
    clear hi hge hm1 ho g1 g2
    go_enter Tryd.func103, Tryd.ntmps103
    go_wp2_with (go_at_call 126; refine (HI.out _).mono ?_; rintro e w' ⟨rfl, rfl⟩)
    go_region
    all_goals
      go_wp2
      go_ret3
      exact ⟨⟨_, _, _, rfl, by simp; omega, by simp⟩, below_drewN (Below.refl _ _) _⟩
theorem cut1_any (s : ByteArray) (c : UInt8) (w : World) (hm : s.size ≤ 140737488355328) : Calls Tryd.prog 74 #[.string s, .string ⟨#[c]⟩] w (CutP s w) := by
  have HL := Lib.hid (litecut_any s c · hm)
  go_enter Tryd.func74, Tryd.ntmps74
  go_wp2_with (go_at_call 103; refine (HL.out _).mono ?_; rintro e w' ⟨⟨a, b, ok, rfl, ha, hb⟩, hb2⟩)
  go_ret3
  exact ⟨⟨_, _, _, rfl, ha, hb⟩, hb2⟩
end Go.Proofs.YtkhghbeojfgkhaaDoor
