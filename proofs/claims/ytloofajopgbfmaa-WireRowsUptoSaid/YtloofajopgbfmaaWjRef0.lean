/- Wire, the reference's reading: a number. -/
import Derived.Test.YtloofajopgbfmaaWjRdP
import Derived.Deep.QuietTactic
import Derived.BigQuiet
import Derived.StillTailTactics
namespace Go.Proofs.Ytloofajopgbfmaa
set_option linter.all false
open Go.RowKit
set_option maxRecDepth 100000
/-- new memory, and what is written into one block -/
abbrev Eff9 (p : Nat) (w w' : World) : Prop := w.grownBy w' (some p)
theorem Eff9.refl (p : Nat) (w : World) : Eff9 p w w := ⟨rfl, rfl, rfl, Nat.le_refl _, fun _ _ _ => rfl⟩
theorem Eff9.trans {p : Nat} {a b c : World} (h : Eff9 p a b) (k : Eff9 p b c) : Eff9 p a c :=
  ⟨k.os.trans h.os, k.tape.trans h.tape, k.output.trans h.output, Nat.le_trans h.size k.size, fun i hi hn => (k.block i (Nat.lt_of_lt_of_le hi h.size) hn).trans (h.block i hi hn)⟩
theorem Eff9.below {p : Nat} {a b c : World} (h : Eff9 p a b) (k : Below b.heap.size b c) : Eff9 p a c :=
  ⟨k.os.trans h.os, k.tape.trans h.tape, k.output.trans h.output, Nat.le_trans h.size k.size, fun i hi hn => (k.block i (Nat.lt_of_lt_of_le hi h.size)).trans (h.block i hi hn)⟩
theorem Eff9.set {p : Nat} {a b : World} (h : Eff9 p a b) (j : Nat) (v : Value) : Eff9 p a (b.setCell ⟨p, j, none⟩ v) := by
  refine h.trans ⟨rfl, rfl, rfl, by simp, fun i _ hn => Below.heap_setCell _ _ _ _ (fun e => hn ?_)⟩
  show some i = some p
  rw [e]
theorem Eff9.to {B p : Nat} {w a b : World} (h : Eff9 p a b) (hB : Below B w a) (hp : B ≤ p) (hs : B ≤ a.heap.size) : Below B w b := hB.grown h hs (fun k e => by cases e; exact hp)
theorem Txt.eff {w w' : World} {p : Nat} {a : Option Addr} {n cap : Nat} {l : List UInt8} (h : Txt w a n cap l) (he : Eff9 p w w') (ho : ∀ x, a = some x → x.block ≠ p) : Txt w' a n cap l := by
  obtain ⟨h1, h2, h3, h4⟩ := h
  refine ⟨h1, h2, h3, h4.imp id ?_⟩
  rintro ⟨x, rfl, hx⟩
  refine ⟨x, rfl, fun i hi => ?_⟩
  refine he.cell (hx i hi) ?_
  have : (x.add i).block = x.block := by unfold Addr.add; split <;> rfl
  rw [this]
  intro e
  exact ho x rfl (Option.some.inj e)
/-- a reading: how far it is, or that it is bad -/
structure RSt (w : World) (p : Nat) (a : Option Addr) (n cap : Nat) (l : List UInt8) (o : Option Nat) : Prop where
  txt : Txt w a n cap l
  off : ∀ x, a = some x → x.block ≠ p
  box : ∃ (k : Nat) (b : Bool), Bk w p 40 [.slice a n cap, .int .i64 k, .bool b] ∧ k ≤ n ∧ (∀ m, o = some m → k = m ∧ b = false) ∧ (o = none → b = true)
theorem RSt.lt {w : World} {p : Nat} {a : Option Addr} {n cap : Nat} {l : List UInt8} {o : Option Nat} (h : RSt w p a n cap l o) : p < w.heap.size := by
  obtain ⟨k, b, hb, _⟩ := h.box
  exact hb.lt
theorem RSt.eff {w w' : World} {p q : Nat} {a : Option Addr} {n cap : Nat} {l : List UInt8} {o : Option Nat} (h : RSt w p a n cap l o) (he : Eff9 q w w') (hpq : p ≠ q) (hq : ∀ x, a = some x → x.block ≠ q) : RSt w' p a n cap l o := by
  obtain ⟨k, b, hb, hr⟩ := h.box
  exact ⟨h.txt.eff he hq, h.off, k, b, (he.block p hb.lt (fun e => hpq (Option.some.inj e))).trans hb, hr⟩
theorem RSt.below {w w' : World} {p : Nat} {a : Option Addr} {n cap : Nat} {l : List UInt8} {o : Option Nat} (h : RSt w p a n cap l o) (he : Below w.heap.size w w') : RSt w' p a n cap l o := by
  obtain ⟨k, b, hb, hr⟩ := h.box
  exact ⟨h.txt.below he (Nat.le_refl _), h.off, k, b, hb.keep he hb.lt, hr⟩
theorem RSt.at {w : World} {p : Nat} {a : Option Addr} {n cap : Nat} {l : List UInt8} {k : Nat} (h : RSt w p a n cap l (some k)) : Bk w p 40 [.slice a n cap, .int .i64 k, .bool false] ∧ k ≤ n := by
  obtain ⟨k', b, hb, hk, hs, _⟩ := h.box
  obtain ⟨rfl, rfl⟩ := hs k rfl
  exact ⟨hb, hk⟩
theorem RSt.bad {w : World} {p : Nat} {a : Option Addr} {n cap : Nat} {l : List UInt8} (h : RSt w p a n cap l none) : ∃ k : Nat, Bk w p 40 [.slice a n cap, .int .i64 k, .bool true] ∧ k ≤ n := by
  obtain ⟨k', b, hb, hk, _, hn⟩ := h.box
  obtain rfl := hn rfl
  exact ⟨k', hb, hk⟩
theorem RSt.none {w w1 : World} {p k : Nat} {a : Option Addr} {n cap : Nat} {l : List UInt8} {o : Option Nat} (h : RSt w p a n cap l o) (he : Eff9 p w w1) (hb : Bk w1 p 40 [.slice a n cap, .int .i64 k, .bool true]) (hk : k ≤ n) : RSt w1 p a n cap l Option.none :=
  ⟨h.txt.eff he h.off, h.off, k, true, hb, hk, fun m e => by (cases e), fun _ => rfl⟩
theorem RSt.some {w w1 : World} {p k : Nat} {a : Option Addr} {n cap : Nat} {l : List UInt8} {o : Option Nat} (h : RSt w p a n cap l o) (he : Eff9 p w w1) (hb : Bk w1 p 40 [.slice a n cap, .int .i64 k, .bool false]) (hk : k ≤ n) : RSt w1 p a n cap l (Option.some k) :=
  ⟨h.txt.eff he h.off, h.off, k, false, hb, hk, fun m e => by (cases e; exact ⟨rfl, rfl⟩), fun e => by (cases e)⟩
theorem drewN_below (w : World) (k : Nat) : Below w.heap.size w (w.drewN k) := ⟨rfl, rfl, rfl, Nat.le_refl _, fun _ _ => rfl⟩
/-- what a number's reading answers -/
def nuR (l : List UInt8) (n : Nat) (o : Option Nat) (z : Nat) : Nat × Option Nat :=
  match o with
  | some k => if k + z ≤ n then (numW ((l.drop k).take z), some (k + z)) else (0, none)
  | none => (0, none)
def NuA (w : World) (p : Nat) (a : Option Addr) (n cap : Nat) (l : List UInt8) (q : Nat × Option Nat) (e : Ending) (w' : World) : Prop := e = .returned (.int .u64 q.1) ∧ RSt w' p a n cap l q.2 ∧ Eff9 p w w'
set_option maxHeartbeats 2000000 in
theorem number_bad (p : Nat) (a : Option Addr) (n cap z : Nat) (l : List UInt8) (w : World) (h : RSt w p a n cap l none) (hz : z ≤ 8) : Calls Try.prog 32 #[.pointer (some ⟨p, 0, none⟩), .int .i64 z] w (NuA w p a n cap l (0, none)) := by
  obtain ⟨k, hb, hk⟩ := h.bad
  have H := Lib.hid h
  have HB := Lib.hid hb
  have c0 := hb.c 0 rfl
  have c1 := hb.c 1 rfl
  have c2 := hb.c 2 rfl
  have f2 := hb.fz 2
  have hl := hb.lt
  unfold NuA
  clear h hb
  go_enter Try.func32, Try.ntmps32
  go_wp2
  go_quiet (fail)
  all_goals
    go_wp2
    go_ret
    have he : Eff9 p w ((w.drewN nq).setCell ⟨p, 2, none⟩ (.bool true)) := ((Eff9.refl p w).below (drewN_below w nq)).set 2 _
    exact ⟨rfl, H.out.none he ((HB.out.keep (drewN_below w nq) hl).set 2 _) hk, he⟩
set_option maxHeartbeats 4000000 in
theorem number_few (p k : Nat) (a : Option Addr) (n cap z : Nat) (l : List UInt8) (w : World) (h : RSt w p a n cap l (some k)) (hz : z ≤ 8) (hf : n < k + z) : Calls Try.prog 32 #[.pointer (some ⟨p, 0, none⟩), .int .i64 z] w (NuA w p a n cap l (0, none)) := by
  obtain ⟨hb, hk⟩ := h.at
  have hnm : n ≤ 9223372036854775807 := by have := h.txt.2.1; have := h.txt.2.2.1; unfold maxLen at *; omega
  have H := Lib.hid h
  have HB := Lib.hid hb
  have c0 := hb.c 0 rfl
  have c1 := hb.c 1 rfl
  have c2 := hb.c 2 rfl
  have f2 := hb.fz 2
  have hl := hb.lt
  have d1 : decide ((n : Int) - (k : Int) < (z : Int)) = true := decide_eq_true (by omega)
  have hw : IntKind.i64.wrap ((n : Int) - (k : Int)) = (n : Int) - (k : Int) := by rw [IntKind.wrap_i64]; omega
  unfold NuA
  clear h hb
  go_enter Try.func32, Try.ntmps32
  go_wp2
  go_quiet (fail)
  all_goals
    go_wp2
    go_ret
    have he : Eff9 p w ((w.drewN nq).setCell ⟨p, 2, none⟩ (.bool true)) := ((Eff9.refl p w).below (drewN_below w nq)).set 2 _
    exact ⟨rfl, H.out.none he ((HB.out.keep (drewN_below w nq) hl).set 2 _) hk, he⟩
set_option maxHeartbeats 4000000 in
theorem number_some (p k : Nat) (a : Option Addr) (n cap z : Nat) (l : List UInt8) (w : World) (h : RSt w p a n cap l (some k)) (hz : z ≤ 8) (hf : k + z ≤ n) : Calls Try.prog 32 #[.pointer (some ⟨p, 0, none⟩), .int .i64 z] w (NuA w p a n cap l (numW ((l.drop k).take z), some (k + z))) := by
  obtain ⟨hb, hk⟩ := h.at
  have hnm : n ≤ 9223372036854775807 := by have := h.txt.2.1; have := h.txt.2.2.1; unfold maxLen at *; omega
  have hln := h.txt.1
  have H := Lib.hid h
  have HB := Lib.hid hb
  have c0 := hb.c 0 rfl
  have c1 := hb.c 1 rfl
  have c2 := hb.c 2 rfl
  have f2 := hb.fz 2
  have hl := hb.lt
  have d1 : decide ((n : Int) - (k : Int) < (z : Int)) = false := decide_eq_false (by omega)
  have hw : IntKind.i64.wrap ((n : Int) - (k : Int)) = (n : Int) - (k : Int) := by rw [IntKind.wrap_i64]; omega
  have HLN := Lib.hid hln
  have hoff := H.out.off
  have HO := Lib.hid hoff
  unfold NuA
  clear h hb hln hoff
  go_enter Try.func32, Try.ntmps32
  go_wp2
  go_quiet (fail)
  all_goals
    go_wp2
    clear hw d1 c0 c1 c2 f2
    go_loopw [5, 6] (fun v i wr => ∃ j : Nat, i = .int .i64 j ∧ j ≤ z ∧ v = .int .u64 (numW ((l.drop k).take j)) ∧ Hid (Below w.heap.size w wr)) (fun _ i _ => z - (intOf i).toNat)
    case atStart => exact ⟨0, rfl, Nat.zero_le _, rfl, Lib.hid (drewN_below w _)⟩
    case round =>
      obtain ⟨j, rfl, hj, rfl, HBR⟩ := hrel
      have hbr := HB.out.keep HBR.out hl
      have c0 := hbr.c 0 rfl
      have c1 := hbr.c 1 rfl
      rcases Nat.lt_or_ge j z with hlt | hge
      · clear hbr
        obtain ⟨b, o, rfl, hc⟩ := txt_cells (H.out.txt.below HBR.out (Nat.le_refl _)) (by omega)
        have e1 := hc (k + j) (by rw [HLN.out]; omega)
        have hkj : k + j < l.length := by rw [HLN.out]; omega
        have hstep : ((numW ((l.drop k).take (j + 1)) : Nat) : Int) = 256 * ((numW ((l.drop k).take j) : Nat) : Int) + ((l[k + j].toNat : Nat) : Int) := by
          rw [List.take_succ_eq_append_getElem (by rw [List.length_drop]; omega), numW_snoc, List.getElem_drop]
          omega
        have hsmall : numW ((l.drop k).take j) < 72057594037927936 := by
          have h1 := numW_lt ((l.drop k).take j)
          have h2 : ((l.drop k).take j).length = j := by rw [List.length_take, List.length_drop]; omega
          rw [h2] at h1
          have h3 : 256 ^ j ≤ 256 ^ 7 := Nat.pow_le_pow_right (by decide) (by omega)
          exact Nat.lt_of_lt_of_le h1 h3
        have hcb : l[k + j].toNat < 256 := l[k + j].toNat_lt
        have HST := Lib.hid hstep
        generalize numW ((l.drop k).take j) = N at *
        generalize l[k + j].toNat = C at *
        have w1 : IntKind.i64.wrap ((k : Int) + (j : Int)) = (k : Int) + (j : Int) := by rw [IntKind.wrap_i64]; omega
        have w2 : (0 : Int) ≤ (k : Int) + (j : Int) := by omega
        have w3 : ((k : Int) + (j : Int)).toNat = k + j := by omega
        have w4 : (k : Int) + (j : Int) < (n : Int) := by omega
        have w5 : IntKind.u64.wrap (256 * (N : Int)) = 256 * (N : Int) := by rw [IntKind.wrap_u64]; omega
        have w6 : IntKind.u64.wrap (C : Int) = (C : Int) := by rw [IntKind.wrap_u64]; omega
        have w7 : IntKind.u64.wrap (256 * (N : Int) + (C : Int)) = 256 * (N : Int) + (C : Int) := by rw [IntKind.wrap_u64]; omega
        have w8 : (j : Int) + 1 ≤ 100 := by omega
        clear hstep hsmall hcb hc
        go_wp2
        go_quiet (fail)
        go_wp2
        go_roundw
        case rel => exact ⟨j + 1, by go_num, by omega, by rw [HST.out], Lib.hid (HBR.out.trans ((drewN_below wr _).mono HBR.out.size))⟩
        case measure => simp [intOf]; omega
      · obtain rfl : j = z := by omega
        have f1 := hbr.fz 1
        have w1 : IntKind.i64.wrap ((k : Int) + (j : Int)) = (k : Int) + (j : Int) := by rw [IntKind.wrap_i64]; omega
        have he : Eff9 p w (wr.setCell ⟨p, 1, none⟩ (.int .i64 ((k + j : Nat) : Int))) := Eff9.set (Eff9.below (Eff9.refl p w) HBR.out) 1 _
        have hs2 := H.out.some he (hbr.set 1 _) hf
        have HE := Lib.hid he
        have HS2 := Lib.hid hs2
        have hlr := hbr.lt
        clear he hs2 hbr
        go_wp2
        go_ret
        exact ⟨rfl, HS2.out, HE.out⟩
theorem number_r (p : Nat) (a : Option Addr) (n cap z : Nat) (l : List UInt8) (o : Option Nat) (w : World) (h : RSt w p a n cap l o) (hz : z ≤ 8) : Calls Try.prog 32 #[.pointer (some ⟨p, 0, none⟩), .int .i64 z] w (NuA w p a n cap l (nuR l n o z)) := by
  cases o with
  | none => exact number_bad p a n cap z l w h hz
  | some k =>
    unfold nuR
    by_cases hk : k + z ≤ n
    · simp only
      rw [if_pos hk]
      exact number_some p k a n cap z l w h hz hk
    · simp only
      rw [if_neg hk]
      exact number_few p k a n cap z l w h hz (by omega)
end Go.Proofs.Ytloofajopgbfmaa
