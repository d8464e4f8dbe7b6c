/- Queue: all that both queues tell. -/
import Derived.Test.YtpemdfdmnbhpjaaQuOpt
set_option linter.all false
namespace Go.Proofs.Ytpemdfdmnbhpjaa
open Go.RowKit Go.Shelf
set_option maxRecDepth 100000
set_option maxHeartbeats 4000000 in
theorem told_any {w : World} {B : Nat} {p pr : Option Addr} {F Fr : List Nat} {o : Option Qs} (h : QO w B p F o) (k : RO w B pr Fr o) (hf : lenO o ≤ 8796093022207) :
    Calls Try.prog 21 #[.pointer p, .pointer pr] w (LkP (.bool true) w) := by
  have hb0 : Below w.heap.size w w := Below.refl _ _
  have Q1 := Lib.hid (fun (W : World) (hW : Below w.heap.size w W) => qlen (h.below hW))
  have Q2 := Lib.hid (fun (W : World) (hW : Below w.heap.size w W) => qroom (h.below hW))
  have Q3 := Lib.hid (fun (W : World) (hW : Below w.heap.size w W) => qlast (h.below hW))
  have Q4 := Lib.hid (fun (W : World) (hW : Below w.heap.size w W) (i : Int) => qat (h.below hW) i)
  have R1 := Lib.hid (fun (W : World) (hW : Below w.heap.size w W) => rlen (k.below hW))
  have R2 := Lib.hid (fun (W : World) (hW : Below w.heap.size w W) => rroom (k.below hW))
  have R3 := Lib.hid (fun (W : World) (hW : Below w.heap.size w W) => rlast (k.below hW))
  have R4 := Lib.hid (fun (W : World) (hW : Below w.heap.size w W) (i : Int) => rat (k.below hW) i (by omega))
  clear h k
  generalize lenO o = n at hf Q1 R1
  generalize roomO o = rm at Q2 R2
  generalize lastO o = la at Q3 R3
  have t1 : ((n : Int) != (n : Int)) = false := by simp
  have t2 : (rm != rm) = false := by simp
  have t3 : (la != la) = false := by simp
  go_enter Try.func21, Try.ntmps21
  go_wp2_with (first
    | (go_at_call 23; refine (Q1.out _ (by assumption)).mono ?_; rintro e wa ⟨rfl, hka⟩; have hba := Below.trans (by assumption) (hka.mono (Below.size (by assumption))); clear hka)
    | (go_at_call 35; refine (R1.out _ (by assumption)).mono ?_; rintro e wb ⟨rfl, hkb⟩; have hbb := hba.trans (hkb.mono hba.size); clear hkb)
    | (go_at_call 24; refine (Q2.out _ (by assumption)).mono ?_; rintro e wc ⟨rfl, hkc⟩; have hbc := hbb.trans (hkc.mono hbb.size); clear hkc)
    | (go_at_call 36; refine (R2.out _ (by assumption)).mono ?_; rintro e wd ⟨rfl, hkd⟩; have hbd := hbc.trans (hkd.mono hbc.size); clear hkd)
    | (go_at_call 25; refine (Q3.out _ (by assumption)).mono ?_; rintro e we ⟨rfl, hke⟩; have hbe := hbd.trans (hke.mono hbd.size); clear hke)
    | (go_at_call 37; refine (R3.out _ (by assumption)).mono ?_; rintro e wf ⟨rfl, hkf⟩; have hbf := hbe.trans (hkf.mono hbe.size); clear hkf))
  have HBF := Lib.hid hbf
  clear hba hbb hbc hbd hbe hbf Q2 Q3 R2 R3 t1 t2 t3
  go_loopw [5] (fun vi wr => ∃ i : Int, vi = .int .i64 i ∧ -1 ≤ i ∧ i ≤ (n : Int) + 1 ∧ Hid (Below w.heap.size w wr)) (fun vi _ => ((n : Int) + 1 - intOf vi).toNat)
  case atStart => exact ⟨-1, rfl, by omega, by omega, HBF⟩
  case round =>
    obtain ⟨i, rfl, hi0, hi1, HBi⟩ := hrel
    clear HBF
    have hbi := HBi.out
    have hi2 : IntKind.i64.wrap (i + 1) = i + 1 := by rw [IntKind.wrap_i64]; omega
    have A1 := Lib.hid (fun (W : World) (hW : Below w.heap.size w W) => Q4.out W hW i)
    have A2 := Lib.hid (fun (W : World) (hW : Below w.heap.size w W) => R4.out W hW i)
    generalize atF o i = av at A1 A2
    have t1 : (av.1.1 != av.1.1) = false := by simp
    have t2 : (av.1.2 != av.1.2) = false := by simp
    have t3 : (av.2 != av.2) = false := by simp
    by_cases hin : i ≤ (n : Int)
    · go_wp2_with (first
        | (go_at_call 35; refine (R1.out _ (by assumption)).mono ?_; rintro e wb ⟨rfl, hkb⟩; have hbb := hbi.trans (hkb.mono hbi.size); clear hkb)
        | (go_at_call 18; refine (A1.out _ (by assumption)).mono ?_; rintro e wc ⟨rfl, hkc⟩; have hbc := hbb.trans (hkc.mono hbb.size); clear hkc)
        | (go_at_call 19; refine (A2.out _ (by assumption)).mono ?_; rintro e wd ⟨rfl, hkd⟩; have hbd := hbc.trans (hkd.mono hbc.size); clear hkd))
      have HBD := Lib.hid hbd
      clear hbb hbc hbd hbi
      first
        | (go_roundw
           case rel => exact ⟨i + 1, rfl, by omega, by omega, HBD⟩
           case measure => simp [intOf]; omega)
        | exact ⟨⟨i + 1, rfl, by omega, by omega, HBD⟩, by simp [intOf]; omega⟩
    · go_wp2_with (go_at_call 35; refine (R1.out _ (by assumption)).mono ?_; rintro e wb ⟨rfl, hkb⟩; have hbb := hbi.trans (hkb.mono hbi.size); clear hkb)
      go_ret
      exact ⟨rfl, hbb⟩
end Go.Proofs.Ytpemdfdmnbhpjaa
