/- readReal at a text that is a number: exactly. -/
import Derived.Test.YtofjbakepneilaaGreatDoorMVUnq
import Derived.Test.YtofjbakepneilaaGreatDoorMWNeg
import Derived.Test.YtofjbakepneilaaGreatDoorWText
import Derived.Test.YtofjbakepneilaaGreatDoorMWPlain
import Derived.Test.YtofjbakepneilaaGreatDoorVRead1
namespace Go.Proofs.YtofjbakepneilaaGreatDoor
open Go.RowKit Go.Shelf
set_option maxRecDepth 100000

set_option maxHeartbeats 2000000 in
theorem readReal_num (s a b : ByteArray) (v x : Int) (R : Nat) (w : World) (hm : s.size ≤ 140737488355328) (ha : a.size ≤ 140737488355328) (hb : b.size ≤ 140737488355328)
    (t1 : (s.toList == [110, 97, 110]) = false) (t2 : (s.toList == [105, 110, 102]) = false) (t3 : (s.toList == [45, 105, 110, 102]) = false) (t4 : (s.toList == [45, 48, 112, 48]) = false)
    (hc : cutV s 112 = .tuple #[.string a, .string b, .bool true]) (hp : Lib.parseIntB 64 a.data.toList = .ok v) (hq : Lib.atoiAll b.data.toList = .ok x) (x0 : -1074 ≤ x) (x1 : x ≤ 1023)
    (hl : ∀ W, Calls Tryz.prog 72 #[.float .f64 (floatOfInt .f64 v), .int .i64 x] W fun e w' => e = .returned (.float .f64 R) ∧ W = w') :
    Calls Tryz.prog 39 #[.string s] w fun e w' => e = .returned (.tuple #[.float .f64 R, .bool true]) ∧ Below w.heap.size w w' := by
  have hcut := fun W => wcut_any s 112 W hm
  rw [hc] at hcut
  have HC := Lib.hid hcut
  have HP := Lib.hid (parse_ok a · (by omega) v hp)
  have HQ := Lib.hid (atoi_ok b · (by omega) x hq)
  have HL := Lib.hid hl
  have d1 : decide (x < -1074) = false := decide_eq_false (by omega)
  have d2 : decide ((1023 : Int) < x) = false := decide_eq_false (by omega)
  clear hcut hc hp hq hl x0 x1
  go_enter Tryz.func39, Tryz.ntmps39
  go_wp2_with (first | (go_at_call 64; refine (HC.out _).mono ?_; rintro e w1 ⟨rfl, hb1⟩; have HB1 := Lib.hid hb1; clear hb1) | (go_at_call 38; refine (HP.out _).mono ?_; rintro e w2 ⟨rfl, hb2⟩; have HB2 := Lib.hid (HB1.out.trans (hb2.mono HB1.out.size)); clear hb2) | (go_at_call 71; refine (HQ.out _).mono ?_; rintro e w3 ⟨rfl, hb3⟩; have HB3 := Lib.hid (HB2.out.trans (hb3.mono HB2.out.size)); clear hb3) | (go_at_call 72; refine (HL.out _).mono ?_; rintro e w4 ⟨rfl, rfl⟩))
  go_ret2
  exact ⟨rfl, HB3.out⟩
theorem ex_take (l t : List UInt8) : ((⟨(l ++ 112 :: t).toArray⟩ : ByteArray).extract 0 l.length).data.toList = l := by
  rw [ByteArray.data_extract, Array.toList_extract, List.extract_eq_take_drop]
  simp
theorem ex_drop (l t : List UInt8) : ((⟨(l ++ 112 :: t).toArray⟩ : ByteArray).extract (l.length + 1) (⟨(l ++ 112 :: t).toArray⟩ : ByteArray).size).data.toList = t := by
  rw [drop_list]
  show (l ++ 112 :: t).drop (l.length + 1) = t
  rw [List.drop_append]
  simp
end Go.Proofs.YtofjbakepneilaaGreatDoor
