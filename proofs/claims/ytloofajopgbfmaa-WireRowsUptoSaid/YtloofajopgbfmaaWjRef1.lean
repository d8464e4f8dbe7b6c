/- Wire, the reference's reading: a text, a real, the end. -/
import Derived.Test.YtloofajopgbfmaaWjRef0
namespace Go.Proofs.Ytloofajopgbfmaa
set_option linter.all false
open Go.RowKit
set_option maxRecDepth 100000
/-- what a text's reading answers -/
def txR (l : List UInt8) (n : Nat) (o : Option Nat) (z : Nat) : List UInt8 × Option Nat :=
  match o with
  | some k => if k + z ≤ n then ((l.drop k).take z, some (k + z)) else ([], none)
  | none => ([], none)
def TxA (w : World) (p : Nat) (a : Option Addr) (n cap : Nat) (l : List UInt8) (q : List UInt8 × Option Nat) (e : Ending) (w' : World) : Prop := e = .returned (.string ⟨q.1.toArray⟩) ∧ RSt w' p a n cap l q.2 ∧ Eff9 p w w'
set_option maxHeartbeats 2000000 in
theorem text_bad (p : Nat) (a : Option Addr) (n cap z : Nat) (l : List UInt8) (w : World) (h : RSt w p a n cap l none) (hz : z ≤ 70000) : Calls Try.prog 34 #[.pointer (some ⟨p, 0, none⟩), .int .i64 z] w (TxA w p a n cap l ([], none)) := by
  obtain ⟨k, hb, hk⟩ := h.bad
  have H := Lib.hid h
  have HB := Lib.hid hb
  have c0 := hb.c 0 rfl
  have c1 := hb.c 1 rfl
  have c2 := hb.c 2 rfl
  have f2 := hb.fz 2
  have hl := hb.lt
  unfold TxA
  clear h hb
  go_enter Try.func34, Try.ntmps34
  go_wp2
  go_quiet (fail)
  all_goals
    go_wp2
    go_ret
    have he : Eff9 p w ((w.drewN nq).setCell ⟨p, 2, none⟩ (.bool true)) := ((Eff9.refl p w).below (drewN_below w nq)).set 2 _
    exact ⟨rfl, H.out.none he ((HB.out.keep (drewN_below w nq) hl).set 2 _) hk, he⟩
set_option maxHeartbeats 4000000 in
theorem text_few (p k : Nat) (a : Option Addr) (n cap z : Nat) (l : List UInt8) (w : World) (h : RSt w p a n cap l (some k)) (hz : z ≤ 70000) (hf : n < k + z) : Calls Try.prog 34 #[.pointer (some ⟨p, 0, none⟩), .int .i64 z] w (TxA w p a n cap l ([], none)) := by
  obtain ⟨hb, hk⟩ := h.at
  have hnm : n ≤ 9223372036854775807 := by have := h.txt.2.1; have := h.txt.2.2.1; unfold maxLen at *; omega
  have H := Lib.hid h
  have HB := Lib.hid hb
  have c0 := hb.c 0 rfl
  have c1 := hb.c 1 rfl
  have c2 := hb.c 2 rfl
  have f2 := hb.fz 2
  have hl := hb.lt
  have d1 : decide ((n : Int) - (k : Int) < (z : Int)) = true := decide_eq_true (by omega)
  have hw : IntKind.i64.wrap ((n : Int) - (k : Int)) = (n : Int) - (k : Int) := by rw [IntKind.wrap_i64]; omega
  unfold TxA
  clear h hb
  go_enter Try.func34, Try.ntmps34
  go_wp2
  go_quiet (fail)
  all_goals
    go_wp2
    go_ret
    have he : Eff9 p w ((w.drewN nq).setCell ⟨p, 2, none⟩ (.bool true)) := ((Eff9.refl p w).below (drewN_below w nq)).set 2 _
    exact ⟨rfl, H.out.none he ((HB.out.keep (drewN_below w nq) hl).set 2 _) hk, he⟩
set_option maxHeartbeats 4000000 in
theorem text_some (p k : Nat) (a : Option Addr) (n cap z : Nat) (l : List UInt8) (w : World) (h : RSt w p a n cap l (some k)) (hz : z ≤ 70000) (hf : k + z ≤ n) : Calls Try.prog 34 #[.pointer (some ⟨p, 0, none⟩), .int .i64 z] w (TxA w p a n cap l ((l.drop k).take z, some (k + z))) := by
  obtain ⟨hb, hk⟩ := h.at
  have hnm : n ≤ 9223372036854775807 := by have := h.txt.2.1; have := h.txt.2.2.1; unfold maxLen at *; omega
  have H := Lib.hid h
  have HB := Lib.hid hb
  have c0 := hb.c 0 rfl
  have c1 := hb.c 1 rfl
  have c2 := hb.c 2 rfl
  have f2 := hb.fz 2
  have hl := hb.lt
  have d1 : decide ((n : Int) - (k : Int) < (z : Int)) = false := decide_eq_false (by omega)
  have hw : IntKind.i64.wrap ((n : Int) - (k : Int)) = (n : Int) - (k : Int) := by rw [IntKind.wrap_i64]; omega
  have hw2 : IntKind.i64.wrap ((k : Int) + (z : Int)) = (k : Int) + (z : Int) := by rw [IntKind.wrap_i64]; omega
  obtain ⟨a2, hs, ht2⟩ := slice_mid k (k + z) h.txt (by omega) hf
  rw [show k + z - k = z by omega] at hs ht2
  have hs' : ∀ w', (Instr.slice 22 (.slice a n cap) (some (.int .i64 k)) (some (.int .i64 ((k : Int) + (z : Int)))) none).run Try.prog w' = .ok (.slice a2 z (cap - k)) w' := fun w' => by
    have := hs w'
    rw [show ((k + z : Nat) : Int) = (k : Int) + (z : Int) by omega] at this
    exact this
  have hcv : ∀ m, (convert 22 9 (.slice a2 z (cap - k))).run Try.prog (w.drewN m) = .ok (.string ⟨((l.drop k).take z).toArray⟩) (w.drewN m) := fun m => text_of (ht2.below (drewN_below w m) (Nat.le_refl _))
  have hcv0 : (convert 22 9 (.slice a2 z (cap - k))).run Try.prog w = .ok (.string ⟨((l.drop k).take z).toArray⟩) w := text_of ht2
  have fin : ∀ W, Below w.heap.size w W → RSt (W.setCell ⟨p, 1, none⟩ (.int .i64 ((k + z : Nat) : Int))) p a n cap l (some (k + z)) ∧ Eff9 p w (W.setCell ⟨p, 1, none⟩ (.int .i64 ((k + z : Nat) : Int))) := fun W hW =>
    have he : Eff9 p w (W.setCell ⟨p, 1, none⟩ (.int .i64 ((k + z : Nat) : Int))) := Eff9.set (Eff9.below (Eff9.refl p w) hW) 1 _
    ⟨H.out.some he ((HB.out.keep hW hl).set 1 _) hf, he⟩
  have FIN := Lib.hid fin
  have f1 := hb.fz 1
  have hkz : ((k : Int) + (z : Int)) = ((k + z : Nat) : Int) := by omega
  have HKZ := Lib.hid hkz
  unfold TxA
  generalize (l.drop k).take z = tx at *
  clear h hb hs ht2 fin hkz
  go_enter Try.func34, Try.ntmps34
  go_wp2
  go_quiet (fail)
  go_wp2
  go_quiet (fail)
  go_wp2
  go_ret
  exact ⟨rfl, FIN.out _ (by first | exact drewN_below w _ | exact (drewN_below w _).trans (drewN_below (w.drewN _) _))⟩
theorem text_r (p : Nat) (a : Option Addr) (n cap z : Nat) (l : List UInt8) (o : Option Nat) (w : World) (h : RSt w p a n cap l o) (hz : z ≤ 70000) : Calls Try.prog 34 #[.pointer (some ⟨p, 0, none⟩), .int .i64 z] w (TxA w p a n cap l (txR l n o z)) := by
  cases o with
  | none => exact text_bad p a n cap z l w h hz
  | some k =>
    unfold txR
    by_cases hk : k + z ≤ n
    · simp only
      rw [if_pos hk]
      exact text_some p k a n cap z l w h hz hk
    · simp only
      rw [if_neg hk]
      exact text_few p k a n cap z l w h hz (by omega)
/-- what a real's reading answers -/
def reR (l : List UInt8) (n : Nat) (o : Option Nat) : Nat × Option Nat := ((nuR l n o 8).1, if okR (nuR l n o 8).1 then (nuR l n o 8).2 else none)
def ReA (w : World) (p : Nat) (a : Option Addr) (n cap : Nat) (l : List UInt8) (q : Nat × Option Nat) (e : Ending) (w' : World) : Prop := e = .returned (.float .f64 q.1) ∧ RSt w' p a n cap l q.2 ∧ Eff9 p w w'
set_option maxHeartbeats 4000000 in
theorem real_r (p : Nat) (a : Option Addr) (n cap : Nat) (l : List UInt8) (o : Option Nat) (w : World) (h : RSt w p a n cap l o) : Calls Try.prog 33 #[.pointer (some ⟨p, 0, none⟩)] w (ReA w p a n cap l (reR l n o)) := by
  have hnu := number_r p a n cap 8 l o w h (Nat.le_refl _)
  unfold reR
  generalize nuR l n o 8 = q at *
  obtain ⟨m, o2⟩ := q
  simp only
  unfold NuA at hnu
  have HN := Lib.hid hnu
  have hf := f64from m
  unfold ReA
  clear hnu
  cases hb : nanB m with
  | false =>
    have hq := eqB_self m
    unfold eqB at hq
    rw [hb] at hq
    have h1 : (FloatKind.f64.format.order m m == some Ordering.eq) = true := hq
    have h2 : (FloatKind.f64.format.order m m != some Ordering.eq) = false := by rw [bne, h1]; rfl
    have hok : okR m = true := by unfold okR; rw [hb]; rfl
    rw [hok]
    clear hq hb hok
    go_enter Try.func33, Try.ntmps33
    go_wp2_with fail
    refine HN.out.mono ?_
    rintro e w1 ⟨rfl, hs, he⟩
    have HS := Lib.hid hs
    have HE := Lib.hid he
    clear hs he
    go_wp2_with fail
    go_ret
    exact ⟨rfl, HS.out, HE.out⟩
  | true =>
    have hq := eqB_self m
    unfold eqB at hq
    rw [hb] at hq
    have h1 : (FloatKind.f64.format.order m m == some Ordering.eq) = false := hq
    have h2 : (FloatKind.f64.format.order m m != some Ordering.eq) = true := by rw [bne, h1]; rfl
    by_cases hm : m = noneW
    · have hok : okR m = true := by unfold okR; rw [hb, hm]; rfl
      rw [hok]
      have t1 : ((m : Int) == 9221120237041090561) = true := by rw [hm]; rfl
      have t2 : ((m : Int) != 9221120237041090561) = false := by rw [hm]; rfl
      clear hq hb hok hm
      go_enter Try.func33, Try.ntmps33
      go_wp2_with fail
      refine HN.out.mono ?_
      rintro e w1 ⟨rfl, hs, he⟩
      have HS := Lib.hid hs
      have HE := Lib.hid he
      clear hs he
      go_wp2_with fail
      go_ret
      exact ⟨rfl, HS.out, HE.out⟩
    · have hok : okR m = false := by unfold okR; rw [hb]; simpa using hm
      rw [hok]
      have hmi : (m : Int) ≠ 9221120237041090561 := by intro e; exact hm (by unfold noneW; omega)
      have t1 : ((m : Int) == 9221120237041090561) = false := by simpa using hmi
      have t2 : ((m : Int) != 9221120237041090561) = true := by simpa using hmi
      clear hq hb hok hm hmi
      go_enter Try.func33, Try.ntmps33
      go_wp2_with fail
      refine HN.out.mono ?_
      rintro e w1 ⟨rfl, hs, he⟩
      have HS := Lib.hid hs
      have HE := Lib.hid he
      clear he
      obtain ⟨k, b, hbx, hk, _, _⟩ := hs.box
      have HBX := Lib.hid hbx
      have c2 := hbx.c 2 rfl
      have f2 := hbx.fz 2
      have hl := hbx.lt
      clear hs hbx
      go_wp2_with fail
      go_ret
      have he2 : Eff9 p w1 (w1.setCell ⟨p, 2, none⟩ (.bool true)) := (Eff9.refl p w1).set 2 _
      exact ⟨rfl, HS.out.none he2 (HBX.out.set 2 _) hk, HE.out.trans he2⟩
/-- what the end of a reading answers -/
def endV : Option Nat → Value
  | some k => .tuple #[.int .i64 k, .int .i64 0]
  | none => .tuple #[.int .i64 0, .int .i64 110]
theorem end_r (p : Nat) (a : Option Addr) (n cap : Nat) (l : List UInt8) (o : Option Nat) (w : World) (h : RSt w p a n cap l o) : Calls Try.prog 13 #[.pointer (some ⟨p, 0, none⟩)] w fun e w' => e = .returned (endV o) ∧ w = w' := by
  cases o with
  | none =>
    obtain ⟨k, hb, hk⟩ := h.bad
    have c2 := hb.c 2 rfl
    unfold endV
    clear h hb
    go_enter Try.func13, Try.ntmps13
    go_wp2
    go_ret2
    exact ⟨rfl, rfl⟩
  | some k =>
    obtain ⟨hb, hk⟩ := h.at
    have c1 := hb.c 1 rfl
    have c2 := hb.c 2 rfl
    unfold endV
    clear h hb
    go_enter Try.func13, Try.ntmps13
    go_wp2
    go_ret2
    exact ⟨rfl, rfl⟩
end Go.Proofs.Ytloofajopgbfmaa
