/- The walk of whole. -/
import Derived.Test.YtddeoemkjedonaaGreatDoorRows
import Derived.Test.YtddeoemkjedonaaGreatDoorMQuotePlain
import Derived.Test.YtddeoemkjedonaaGreatDoorMTextWalks
import Derived.Test.YtddeoemkjedonaaGreatDoorShelf
import Derived.WalkKit
import Derived.WalkSpells
import Derived.WalkLawsBesides
import Derived.Lib.Hide
import Derived.Lib.SmallJoins
namespace Go.Proofs.YtddeoemkjedonaaGreatDoor
open Go.RowKit
set_option maxRecDepth 100000

/-- what the two variables of strconv's hold -/
def Glob (w : World) : Prop := (∃ tp p, w.cell? ⟨3, 0, none⟩ = some (.iface tp p)) ∧ ∃ tp p, w.cell? ⟨4, 0, none⟩ = some (.iface tp p)
theorem Glob.below {w w' : World} {B : Nat} (h : Glob w) (hb : Below B w w') (hB : w.heap.size ≤ B) : Glob w' := by
  obtain ⟨⟨a, b, h1⟩, c, d, h2⟩ := h
  exact ⟨⟨a, b, (hb.cell (Nat.lt_of_lt_of_le (World.block_lt_of_cell? w _ h1) hB)).trans h1⟩, c, d, (hb.cell (Nat.lt_of_lt_of_le (World.block_lt_of_cell? w _ h2) hB)).trans h2⟩

theorem parse_ok (s : ByteArray) (w : World) (hs : s.size ≤ 281474976710656) (v : Int) (h : Lib.parseIntB 64 s.data.toList = .ok v) :
    Calls Tryz.prog 73 #[.string s, .int .i64 10, .int .i64 64] w fun e w' => e = .returned (.tuple #[.int .i64 v, .nilIface]) ∧ Below w.heap.size w w' := by
  refine (Tryz.strconv_ParseInt_10_at64_ok s (by omega) v h w).mono ?_
  rintro e w' ⟨rfl, hw⟩
  refine ⟨rfl, ?_⟩
  rcases hw with rfl | ⟨t, rfl⟩
  · exact Below.refl _ _
  · exact Joins.below_bytesWorld _ w _ t (Nat.le_refl _)

theorem parse_bad (s : ByteArray) (w : World) (hs : s.size ≤ 281474976710656) (hg : Glob w) (h : ∀ v, Lib.parseIntB 64 s.data.toList ≠ .ok v) :
    Calls Tryz.prog 73 #[.string s, .int .i64 10, .int .i64 64] w fun e w' => ∃ v N, e = .returned (.tuple #[.int .i64 v, .iface 155 (.pointer (some ⟨N, 0, none⟩))]) ∧ Below w.heap.size w w' := by
  obtain ⟨⟨t1, p1, h1⟩, t2, p2, h2⟩ := hg
  match hp : Lib.parseIntB 64 s.data.toList with
  | Lib.NumEnd.ok v => exact absurd hp (h v)
  | Lib.NumEnd.syntax =>
    refine (Tryz.strconv_ParseInt_10_at64_syntax s hs hp (.iface t1 p1) w h1 (.inr ⟨_, _, rfl⟩)).mono ?_
    rintro e w' ⟨N, rfl, _, _, hb⟩
    exact ⟨_, N, rfl, hb⟩
  | Lib.NumEnd.range =>
    refine (Tryz.strconv_ParseInt_10_at64_range s hs hp (.iface t2 p2) w h2 (.inr ⟨_, _, rfl⟩)).mono ?_
    rintro e w' ⟨N, rfl, _, _, hb⟩
    exact ⟨_, N, rfl, hb⟩

def wholeV : Option Int → Value
  | some v => .tuple #[.int .i64 v, .int .i64 0]
  | none => .tuple #[.int .i64 0, .int .i64 12]

theorem whole_any (a : Option Addr) (n cap : Nat) (l : List UInt8) (w : World) (ht : Txt w a n cap l) (hn : n ≤ 140737488351232) (hg : Glob w) :
    Calls Tryz.prog 52 #[.slice a n cap] w fun e w' => e = .returned (wholeV (wholeF l)) ∧ Below w.heap.size w w' := by
  have hcv := text_of ht
  obtain ⟨hl, hnc, hm, h4⟩ := ht
  obtain ⟨s, hs⟩ : ∃ s : ByteArray, s = ⟨l.toArray⟩ := ⟨_, rfl⟩
  rw [← hs] at hcv
  have hsz : s.size ≤ 281474976710656 := by rw [hs]; simp [ByteArray.size]; omega
  have hsl : s.data.toList = l := by rw [hs]
  by_cases hok : ∃ v, Lib.parseIntB 64 l = .ok v
  · obtain ⟨v, hv⟩ := hok
    have hC := Lib.hid (parse_ok s w hsz v (by rw [hsl]; exact hv))
    have HV := Lib.hid hv
    by_cases h1 : 1 < n
    · rcases h4 with ⟨_, h5, _⟩ | ⟨x, rfl, hx⟩
      · omega
      · obtain ⟨b, o, sp⟩ := x
        obtain ⟨rfl, hc⟩ := hx.spot (by omega)
        have hcell : w.cell? ⟨b, o, none⟩ = some (.int .u8 (bAt l 0).toNat) := by rw [bAt_lt (by omega)]; exact hc 0 (by omega)
        have HCELL := Lib.hid hcell
        have hd : decide ((1 : Int) < (n : Int)) = true := by simp; omega
        have hw : wholeF l = if 1 < l.length ∧ bAt l 0 = 48 then none else some v := by unfold wholeF; rw [HV.out]
        by_cases h0 : bAt l 0 = 48
        · have hq : (((bAt l 0).toNat : Int) == 48) = true := by rw [h0]; rfl
          rw [if_pos ⟨by omega, h0⟩] at hw
          have HW := Lib.hid hw
          clear hcell hc hx hs hsz hsl hv h0 hw hl
          rw [HW.out]
          go_enter Tryz.func52, Tryz.ntmps52
          go_wp2_with (go_at_call 73; refine hC.out.mono ?_; rintro e w' ⟨rfl, hb⟩; have HB := Lib.hid hb; have hcell2 := (hb.cell (World.block_lt_of_cell? w _ HCELL.out)).trans HCELL.out; clear hb)
          go_ret2
          exact ⟨rfl, HB.out⟩
        · have hq : (((bAt l 0).toNat : Int) == 48) = false := u8_neq (d := 48) h0
          rw [if_neg (fun h => h0 h.2)] at hw
          have HW := Lib.hid hw
          clear hcell hc hx hs hsz hsl hv h0 hw hl
          rw [HW.out]
          go_enter Tryz.func52, Tryz.ntmps52
          go_wp2_with (go_at_call 73; refine hC.out.mono ?_; rintro e w' ⟨rfl, hb⟩; have HB := Lib.hid hb; have hcell2 := (hb.cell (World.block_lt_of_cell? w _ HCELL.out)).trans HCELL.out; clear hb)
          go_ret2
          exact ⟨rfl, HB.out⟩
    · have hd : decide ((1 : Int) < (n : Int)) = false := by simp; omega
      have hw : wholeF l = some v := by unfold wholeF; rw [HV.out]; exact if_neg (fun h => by omega)
      have HW := Lib.hid hw
      clear hs hsz hsl hv hw hl h4
      rw [HW.out]
      go_enter Tryz.func52, Tryz.ntmps52
      go_wp2_with (go_at_call 73; refine hC.out.mono ?_; rintro e w' ⟨rfl, hb⟩; have HB := Lib.hid hb; clear hb)
      go_ret2
      exact ⟨rfl, HB.out⟩
  · have hC := Lib.hid (parse_bad s w hsz hg (by rw [hsl]; exact fun v hv => hok ⟨v, hv⟩))
    have hw : wholeF l = none := by
      unfold wholeF
      split
      · rename_i v hv; exact absurd ⟨v, hv⟩ hok
      · rfl
    have HW := Lib.hid hw
    clear hs hsz hsl hw hl h4 hok hg
    rw [HW.out]
    go_enter Tryz.func52, Tryz.ntmps52
    go_wp2_with (go_at_call 73; refine hC.out.mono ?_; rintro e w' ⟨v, N, rfl, hb⟩; have HB := Lib.hid hb; clear hb)
    go_ret2
    exact ⟨rfl, HB.out⟩
end Go.Proofs.YtddeoemkjedonaaGreatDoor
