/- Wire, the reference's reading of a payload. -/
import Derived.Test.YtloofajopgbfmaaWjRef8
namespace Go.Proofs.Ytloofajopgbfmaa
set_option linter.all false
open Go.RowKit
set_option maxRecDepth 100000
def PaA (w : World) (p : Nat) (a : Option Addr) (n cap : Nat) (l : List UInt8) (q : List V9 × Option Nat) (e : Ending) (w' : World) : Prop := ∃ al cp, e = .returned (.slice al q.1.length cp) ∧ w'.ownsRow w.heap.size 27 5 (.slice al q.1.length cp) q.1.length (cellsP q.1) ∧ RSt w' p a n cap l q.2 ∧ Eff9 p w w'
set_option maxHeartbeats 4000000 in
/-- nothing there, or too many -/
theorem refPayload_bad (p C : Nat) (a : Option Addr) (n cap : Nat) (l : List UInt8) (o o1 : Option Nat) (w : World) (h : RSt w p a n cap l o) (hq : nuR l n o 1 = (C, o1)) (hC : C ≤ 255) (hbad : (C = 0 ∧ o1 = none) ∨ 6 < C) : Calls Try.prog 11 #[.pointer (some ⟨p, 0, none⟩)] w (PaA w p a n cap l ([], none)) := by
  have hn1 := number_r p a n cap 1 l o w h (by omega)
  rw [hq] at hn1
  unfold NuA at hn1
  have HN1 : Hid (Calls Try.prog 32 #[.pointer (some ⟨p, 0, none⟩), .int .i64 1] w fun e w' => e = .returned (.int .u64 C) ∧ RSt w' p a n cap l o1 ∧ Eff9 p w w') := Lib.hid hn1
  have hw : IntKind.i64.wrap (C : Int) = (C : Int) := by rw [IntKind.wrap_i64]; omega
  have HH := Lib.hid h
  have hplt := h.lt
  unfold PaA
  clear hn1 hq h
  have hz := fun W => rsizes_z [] (.slice none 0 0) W (fun x hx => by cases hx) (World.ownsRow_nil _ _ _ _) (by simp)
  have HZ : Hid (∀ W, Calls Try.prog 36 #[.slice none 0 0] W fun e w' => e = .returned (.int .i64 0) ∧ Below W.heap.size W w') := Lib.hid hz
  clear hz
  by_cases h6 : 6 < C
  · have d1 : decide ((6 : Int) < (C : Int)) = true := decide_eq_true (by omega)
    have d2 : decide (6 < C) = true := decide_eq_true h6
    have d3 : decide ((0 : Int) < (C : Int)) = true := decide_eq_true (by omega)
    have d4 : decide (0 < C) = true := decide_eq_true (by omega)
    go_enter Try.func11, Try.ntmps11
    go_upto_region 2 with (go_at_call 32; (with_reducible refine HN1.out.mono ?_); rintro e w1 ⟨rfl, hs1, he1⟩; have HS1 := Lib.hid hs1; have HE1 := Lib.hid he1; clear hs1 he1)
    obtain ⟨k9, b9, hb9, hk9, _, _⟩ := HS1.out.box
    have HB9 := Lib.hid hb9
    have p2 := hb9.c 2 rfl
    have fp2 := hb9.fz 2
    have lp := hb9.lt
    clear hb9
    go_upto_region 4 with (fail)
    have he2 : Eff9 p w1 (w1.setCell ⟨p, 2, none⟩ (.bool true)) := (Eff9.refl p w1).set 2 _
    have HS2 := Lib.hid (HS1.out.none he2 (HB9.out.set 2 (.bool true)) hk9)
    have HE2 := Lib.hid (HE1.out.trans he2)
    clear p2 fp2 lp he2 hbad
    generalize w1.setCell ⟨p, 2, none⟩ (.bool true) = w2 at *
    obtain ⟨k8, hb8, hk8⟩ := HS2.out.bad
    have HB8 := Lib.hid hb8
    have p2 := hb8.c 2 rfl
    clear hb8
    go_wp2_with fail
    go_loopw [5, 4] (fun ii vv wr => ii = .int .i64 0 ∧ vv = .slice none 0 0 ∧ wr = w2) (fun _ _ _ => 0)
    case atStart => exact ⟨rfl, rfl, rfl⟩
    case round =>
      obtain ⟨rfl, rfl, rfl⟩ := hrel
      go_wp2_with fail
      refine (HZ.out _).mono ?_
      rintro e w3 ⟨rfl, hb3⟩
      have HS3 := Lib.hid (HS2.out.below hb3)
      have HE3 := Lib.hid (HE2.out.below hb3)
      have p3 := (HB8.out.keep hb3 HB8.out.lt).c 2 rfl
      clear hb3 p2
      go_wp2_with fail
      go_ret
      exact ⟨none, 0, rfl, World.ownsRow_nil _ _ _ _, HS3.out, HE3.out⟩
  · have d1 : decide ((6 : Int) < (C : Int)) = false := decide_eq_false (by omega)
    have d2 : decide (6 < C) = false := decide_eq_false h6
    obtain ⟨rfl, rfl⟩ := hbad.resolve_right h6
    clear hbad
    go_enter Try.func11, Try.ntmps11
    go_upto_region 2 with (go_at_call 32; (with_reducible refine HN1.out.mono ?_); rintro e w1 ⟨rfl, hs1, he1⟩; have HS1 := Lib.hid hs1; have HE1 := Lib.hid he1; clear hs1 he1)
    obtain ⟨k8, hb8, hk8⟩ := HS1.out.bad
    have HB8 := Lib.hid hb8
    have p2 := hb8.c 2 rfl
    clear hb8
    go_wp2_with fail
    go_loopw [5, 4] (fun ii vv wr => ii = .int .i64 0 ∧ vv = .slice none 0 0 ∧ wr = w1) (fun _ _ _ => 0)
    case atStart => exact ⟨rfl, rfl, rfl⟩
    case round =>
      obtain ⟨rfl, rfl, rfl⟩ := hrel
      go_wp2_with fail
      refine (HZ.out _).mono ?_
      rintro e w3 ⟨rfl, hb3⟩
      have HS3 := Lib.hid (HS1.out.below hb3)
      have HE3 := Lib.hid (HE1.out.below hb3)
      have p3 := (HB8.out.keep hb3 HB8.out.lt).c 2 rfl
      clear hb3 p2
      go_wp2_with fail
      go_ret
      exact ⟨none, 0, rfl, World.ownsRow_nil _ _ _ _, HS3.out, HE3.out⟩
end Go.Proofs.Ytloofajopgbfmaa
