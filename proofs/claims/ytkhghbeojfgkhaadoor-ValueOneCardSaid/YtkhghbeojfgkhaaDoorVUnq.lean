/- value's unquote: it tells some text. -/
import Derived.Test.YtkhghbeojfgkhaaDoorVPart
import Derived.Test.YtkhghbeojfgkhaaDoorUnquote
namespace Go.Proofs.YtkhghbeojfgkhaaDoor
open Go.RowKit Go.Shelf
set_option maxRecDepth 100000

def szOf : Value → Nat
  | .string s => s.size
  | _ => 0
def VUnqRel (w : World) (N : Nat) (said rest : Value) (wr : World) : Prop :=
  ∃ (sa : Option Addr) (sc : Nat) (acc : List UInt8) (r : ByteArray), said = .slice sa acc.length sc ∧ rest = .string r ∧ wr.ownsRow w.heap.size 5 1 (.slice sa acc.length sc) acc.length (u8s acc) ∧ Below w.heap.size w wr ∧ acc.length + r.size ≤ N
set_option maxHeartbeats 2000000 in
theorem vunquote_any (s : ByteArray) (w : World) (h1 : 1 ≤ s.size) (hm : s.size ≤ 140737488355328) :
    Calls Tryd.prog 47 #[.string s] w fun e w' => (∃ tx, e = .returned (.string tx)) ∧ Below w.heap.size w w' := by
  obtain ⟨i0, hi, hz0, hz1, hz2⟩ := info_parts info5'
  go_enter Tryd.func47, Tryd.ntmps47
  go_wp2
  go_loopw [3, 4] (fun said rest wr => VUnqRel w s.size said rest wr) (fun _ rest _ => szOf rest)
  case atStart =>
    refine ⟨none, 0, [], _, rfl, rfl, World.ownsRow_nil _ _ _ _, Below.refl _ _, ?_⟩
    simp
  case round =>
    obtain ⟨sa, sc, acc, r, rfl, rfl, hown, hbel, hal⟩ := hrel
    have hz := hbel.size
    by_cases hlt : 1 < r.size
    · have HO := Lib.hid hown
      have HB := Lib.hid hbel
      have d1 : decide ((1 : Int) < (r.size : Int)) = true := decide_eq_true (by omega)
      clear hown hbel
      go_wp2_with (first | (go_at_call 73; refine (vpart_any r _ (by omega) (by omega)).mono ?_; rintro e w' ⟨⟨c, k, hk1, hkn, rfl⟩, rfl⟩) | (at_builtin; refine wpList_append_own _ rfl _ _ 22 rfl w.heap.size 5 i0 (.int .u8 0) 1 1 Tryd.underlying22 hi hz0 hz1 hz2 rfl (by decide) _ _ _ rfl (HO.out.alloc _) ⟨wr.heap.size, 0, none⟩ 1 1 (u8s [c]) rfl rfl (cells_new' _ _ _) (u8s_one _) (by unfold maxLen; omega) (by omega) (by simp; omega) ?_))
      intro v' w1 hown' hgrow _
      obtain ⟨g, c', rfl⟩ := ownsRow_succ hown'
      have hb1 : Below w.heap.size w w1 := (HB.out.alloc hz _).grown hgrow (by simp; omega) (fun b hb => (HO.out.lt b hb).1)
      have hown2 : w1.ownsRow w.heap.size 5 1 (.slice (some ⟨g, 0, none⟩) (acc ++ [c]).length c') (acc ++ [c]).length (u8s (acc ++ [c])) := by
        rw [u8s_append, List.length_append]; exact hown'
      have HR := Lib.hid (show VUnqRel w s.size (.slice (some ⟨g, 0, none⟩) (acc ++ [c]).length c') (.string (r.extract k r.size)) w1 from
        ⟨_, c', acc ++ [c], _, rfl, rfl, hown2, hb1, by simp; omega⟩)
      clear hown' hgrow hb1 hown2
      go_wp2
      go_roundw
      case rel => simpa using HR.out
      case measure => simp [szOf]; omega
    · have d1 : decide ((1 : Int) < (r.size : Int)) = false := decide_eq_false (by omega)
      have htx := txt_of_owned hown
      have hcv2 := text_of htx
      have HB := Lib.hid hbel
      clear htx hown hbel
      go_wp2
      go_ret
      exact ⟨⟨_, rfl⟩, HB.out⟩
end Go.Proofs.YtkhghbeojfgkhaaDoor
