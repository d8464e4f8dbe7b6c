/- value's unquote: it tells some text. -/
import Derived.Test.YtofjbakepneilaaGreatDoorVPart
import Derived.Test.YtofjbakepneilaaGreatDoorUnquote
namespace Go.Proofs.YtofjbakepneilaaGreatDoor
open Go.RowKit Go.Shelf
set_option maxRecDepth 100000

def szOf : Value → Nat
  | .string s => s.size
  | _ => 0
def VUnqRel (w : World) (N : Nat) (said rest : Value) (wr : World) : Prop :=
  ∃ (sa : Option Addr) (sc : Nat) (acc : List UInt8) (r : ByteArray), said = .slice sa acc.length sc ∧ rest = .string r ∧ wr.ownsRow w.heap.size 5 1 (.slice sa acc.length sc) acc.length (u8s acc) ∧ Below w.heap.size w wr ∧ acc.length + r.size ≤ N
set_option maxHeartbeats 2000000 in
theorem vunquote_any (s : ByteArray) (w : World) (h1 : 1 ≤ s.size) (hm : s.size ≤ 140737488355328) :
    Calls Tryz.prog 36 #[.string s] w fun e w' => (∃ tx, e = .returned (.string tx)) ∧ Below w.heap.size w w' := by
  obtain ⟨i0, hi, hz0, hz1, hz2⟩ := info_parts info5'
  go_enter Tryz.func36, Tryz.ntmps36
  go_wp2
  go_loopw [3, 4] (fun said rest wr => VUnqRel w s.size said rest wr) (fun _ rest _ => szOf rest)
  case atStart =>
    refine ⟨none, 0, [], _, rfl, rfl, World.ownsRow_nil _ _ _ _, Below.refl _ _, ?_⟩
    simp
  case round =>
    obtain ⟨sa, sc, acc, r, rfl, rfl, hown, hbel, hal⟩ := hrel
    have hz := hbel.size
    by_cases hlt : 1 < r.size
    · have HO := Lib.hid hown
      have HB := Lib.hid hbel
      have d1 : decide ((1 : Int) < (r.size : Int)) = true := decide_eq_true (by omega)
      clear hown hbel
      go_wp2_with (first | (go_at_call 63; refine (vpart_any r _ (by omega) (by omega)).mono ?_; rintro e w' ⟨⟨c, k, hk1, hkn, rfl⟩, rfl⟩) | (at_builtin; refine wpList_append_own _ rfl _ _ 37 rfl w.heap.size 5 i0 (.int .u8 0) 1 1 Tryz.underlying37 hi hz0 hz1 hz2 rfl (by decide) _ _ _ rfl (HO.out.alloc _) ⟨wr.heap.size, 0, none⟩ 1 1 (u8s [c]) rfl rfl (cells_new' _ _ _) (u8s_one _) (by unfold maxLen; omega) (by omega) (by simp; omega) ?_))
      intro v' w1 hown' hgrow _
      obtain ⟨g, c', rfl⟩ := ownsRow_succ hown'
      have hb1 : Below w.heap.size w w1 := (HB.out.alloc hz _).grown hgrow (by simp; omega) (fun b hb => (HO.out.lt b hb).1)
      have hown2 : w1.ownsRow w.heap.size 5 1 (.slice (some ⟨g, 0, none⟩) (acc ++ [c]).length c') (acc ++ [c]).length (u8s (acc ++ [c])) := by
        rw [u8s_append, List.length_append]; exact hown'
      have HR := Lib.hid (show VUnqRel w s.size (.slice (some ⟨g, 0, none⟩) (acc ++ [c]).length c') (.string (r.extract k r.size)) w1 from
        ⟨_, c', acc ++ [c], _, rfl, rfl, hown2, hb1, by simp; omega⟩)
      clear hown' hgrow hb1 hown2
      go_wp2
      go_roundw
      case rel => simpa using HR.out
      case measure => simp [szOf]; omega
    · have d1 : decide ((1 : Int) < (r.size : Int)) = false := decide_eq_false (by omega)
      have htx := txt_of_owned hown
      have hcv2 := text_of htx
      have HB := Lib.hid hbel
      clear htx hown hbel
      go_wp2
      go_ret
      exact ⟨⟨_, rfl⟩, HB.out⟩
end Go.Proofs.YtofjbakepneilaaGreatDoor
/- strings.Cut at one byte. -/
namespace Go.Proofs.YtofjbakepneilaaGreatDoor
open Go.RowKit Go.Shelf
set_option maxRecDepth 100000

def CutP (s : ByteArray) (w : World) (e : Ending) (w' : World) : Prop := (∃ a b ok, e = .returned (.tuple #[.string a, .string b, .bool ok]) ∧ a.size ≤ s.size ∧ b.size ≤ s.size) ∧ Below w.heap.size w w'
set_option maxHeartbeats 1000000 in
theorem litecut_any (s : ByteArray) (c : UInt8) (w : World) (hm : s.size ≤ 140737488355328) : Calls Tryz.prog 103 #[.string s, .string ⟨#[c]⟩] w (CutP s w) := by
  have hi := Tryz.stringslite_Index_one s c
  have hge := Lib.indexByte_ge s.data.toList c
  by_cases hm1 : Lib.indexByte s.data.toList c = -1
  · rw [hm1] at hi
    have HI := Lib.hid hi
    clear hi hge hm1
    go_enter Tryz.func103, Tryz.ntmps103
    go_wp2_with (go_at_call 145; refine (HI.out _).mono ?_; rintro e w' ⟨rfl, rfl⟩)
    go_ret3
    exact ⟨⟨_, _, _, rfl, Nat.le_refl _, Nat.zero_le _⟩, Below.refl _ _⟩
  · obtain ⟨o, ho⟩ : ∃ o : Nat, Lib.indexByte s.data.toList c = o := ⟨(Lib.indexByte s.data.toList c).toNat, by omega⟩
    obtain ⟨g1, g2⟩ := Lib.indexByte_some ho
    have hlt : o < s.size := by
      have h := List.getElem?_eq_some_iff.1 g1
      obtain ⟨h, _⟩ := h
      rw [Array.length_toList] at h; exact h
    rw [ho] at hi
    have HI := Lib.hid hi
    have d0 : decide ((0 : Int) ≤ (o : Int)) = true := decide_eq_true (by omega)
    have z1 : (⟨#[c]⟩ : ByteArray).size = 1 := rfl
    have e1 : IntKind.i64.wrap ((o : Int) + 1) = (o : Int) + 1 := IntWalk.i64_in _ (by omega)
    have e2 : (0 : Int) ≤ (o : Int) + 1 := by omega
    have e3 : ((o : Int) + 1).toNat = o + 1 := by omega
    have e4 : (o : Int) + 1 ≤ (s.size : Int) := by omega
    have e5 : (o : Int) ≤ (s.size : Int) := by omega
    clear hi hge hm1 ho g1 g2
    go_enter Tryz.func103, Tryz.ntmps103
    go_wp2_with (go_at_call 145; refine (HI.out _).mono ?_; rintro e w' ⟨rfl, rfl⟩)
    go_region
    all_goals
      go_wp2
      go_ret3
      exact ⟨⟨_, _, _, rfl, by simp; omega, by simp⟩, below_drewN (Below.refl _ _) _⟩
theorem cut1_any (s : ByteArray) (c : UInt8) (w : World) (hm : s.size ≤ 140737488355328) : Calls Tryz.prog 64 #[.string s, .string ⟨#[c]⟩] w (CutP s w) := by
  have HL := Lib.hid (litecut_any s c · hm)
  go_enter Tryz.func64, Tryz.ntmps64
  go_wp2_with (go_at_call 103; refine (HL.out _).mono ?_; rintro e w' ⟨⟨a, b, ok, rfl, ha, hb⟩, hb2⟩)
  go_ret3
  exact ⟨⟨_, _, _, rfl, ha, hb⟩, hb2⟩
end Go.Proofs.YtofjbakepneilaaGreatDoor
/- strings.Cut at one byte, exactly. -/
namespace Go.Proofs.YtofjbakepneilaaGreatDoor
open Go.RowKit Go.Shelf
set_option maxRecDepth 100000

def cutV (s : ByteArray) (c : UInt8) : Value :=
  if 0 ≤ Lib.indexByte s.data.toList c then .tuple #[.string (s.extract 0 (Lib.indexByte s.data.toList c).toNat), .string (s.extract ((Lib.indexByte s.data.toList c).toNat + 1) s.size), .bool true]
  else .tuple #[.string s, .string ⟨#[]⟩, .bool false]
set_option maxHeartbeats 1000000 in
theorem wlitecut_any (s : ByteArray) (c : UInt8) (w : World) (hm : s.size ≤ 140737488355328) : Calls Tryz.prog 103 #[.string s, .string ⟨#[c]⟩] w fun e w' => e = .returned (cutV s c) ∧ Below w.heap.size w w' := by
  have hi := Tryz.stringslite_Index_one s c
  have hge := Lib.indexByte_ge s.data.toList c
  by_cases hm1 : Lib.indexByte s.data.toList c = -1
  · have hv : cutV s c = .tuple #[.string s, .string ⟨#[]⟩, .bool false] := by unfold cutV; rw [if_neg (by omega)]
    rw [hv]
    rw [hm1] at hi
    have HI := Lib.hid hi
    clear hi hge hm1 hv
    go_enter Tryz.func103, Tryz.ntmps103
    go_wp2_with (go_at_call 145; refine (HI.out _).mono ?_; rintro e w' ⟨rfl, rfl⟩)
    go_ret3
    exact ⟨rfl, Below.refl _ _⟩
  · obtain ⟨o, ho⟩ : ∃ o : Nat, Lib.indexByte s.data.toList c = o := ⟨(Lib.indexByte s.data.toList c).toNat, by omega⟩
    obtain ⟨g1, g2⟩ := Lib.indexByte_some ho
    have hlt : o < s.size := by
      have h := List.getElem?_eq_some_iff.1 g1
      obtain ⟨h, _⟩ := h
      rw [Array.length_toList] at h; exact h
    have hv : cutV s c = .tuple #[.string (s.extract 0 o), .string (s.extract (o + 1) s.size), .bool true] := by unfold cutV; rw [ho, if_pos (by omega), Int.toNat_natCast]
    rw [hv]
    rw [ho] at hi
    have HI := Lib.hid hi
    have d0 : decide ((0 : Int) ≤ (o : Int)) = true := decide_eq_true (by omega)
    have z1 : (⟨#[c]⟩ : ByteArray).size = 1 := rfl
    have e1 : IntKind.i64.wrap ((o : Int) + 1) = (o : Int) + 1 := IntWalk.i64_in _ (by omega)
    have e2 : (0 : Int) ≤ (o : Int) + 1 := by omega
    have e3 : ((o : Int) + 1).toNat = o + 1 := by omega
    have e4 : (o : Int) + 1 ≤ (s.size : Int) := by omega
    have e5 : (o : Int) ≤ (s.size : Int) := by omega
    clear hi hge hm1 ho g1 g2 hv
    go_enter Tryz.func103, Tryz.ntmps103
    go_wp2_with (go_at_call 145; refine (HI.out _).mono ?_; rintro e w' ⟨rfl, rfl⟩)
    go_region
    all_goals
      go_wp2
      go_ret3
      exact ⟨rfl, below_drewN (Below.refl _ _) _⟩
theorem wcut_any (s : ByteArray) (c : UInt8) (w : World) (hm : s.size ≤ 140737488355328) : Calls Tryz.prog 64 #[.string s, .string ⟨#[c]⟩] w fun e w' => e = .returned (cutV s c) ∧ Below w.heap.size w w' := by
  have HL := Lib.hid (wlitecut_any s c · hm)
  have hc : ∃ a b ok, cutV s c = .tuple #[.string a, .string b, .bool ok] := by
    unfold cutV
    split
    · exact ⟨_, _, _, rfl⟩
    · exact ⟨_, _, _, rfl⟩
  obtain ⟨a, b, ok, hc⟩ := hc
  rw [hc] at HL ⊢
  clear hc
  go_enter Tryz.func64, Tryz.ntmps64
  go_wp2_with (go_at_call 103; refine (HL.out _).mono ?_; rintro e w' ⟨rfl, hb2⟩)
  go_ret3
  exact ⟨rfl, hb2⟩
end Go.Proofs.YtofjbakepneilaaGreatDoor
