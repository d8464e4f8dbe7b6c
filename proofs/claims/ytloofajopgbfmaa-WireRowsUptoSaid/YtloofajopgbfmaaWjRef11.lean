/- Wire, the reference's reading of a payload, from anywhere; of a message. -/
import Derived.Test.YtloofajopgbfmaaWjRef10
import Derived.Test.YtloofajopgbfmaaWjRdM
namespace Go.Proofs.Ytloofajopgbfmaa
set_option linter.all false
open Go.RowKit
set_option maxRecDepth 100000
/-- what a payload's reading answers -/
def plR (l : List UInt8) : Option Nat → List V9 × Option Nat
  | some k => match rdP (l.drop k) with
    | some (vs, m) => (vs, some (k + m))
    | none => ([], none)
  | none => ([], none)
theorem refPayload_any (p : Nat) (a : Option Addr) (n cap : Nat) (l : List UInt8) (o : Option Nat) (w : World) (h : RSt w p a n cap l o) : Calls Try.prog 11 #[.pointer (some ⟨p, 0, none⟩)] w (PaA w p a n cap l (plR l o)) := by
  have hln := h.txt.1
  cases o with
  | none => exact refPayload_bad p 0 a n cap l none none w h (nuR_none l n 1) (by omega) (.inl ⟨rfl, rfl⟩)
  | some k =>
    have hk := h.at.2
    rcases Nat.lt_or_ge n (k + 1) with h1 | h1
    · have hd : l.drop k = [] := List.drop_eq_nil_of_le (by omega)
      have hp : plR l (some k) = ([], none) := by unfold plR; simp only; rw [hd]; rfl
      rw [hp]
      exact refPayload_bad p 0 a n cap l (some k) none w h (nuR_no h1) (by omega) (.inl ⟨rfl, rfl⟩)
    · have hd : l.drop k = l[k]'(by omega) :: l.drop (k + 1) := List.drop_eq_getElem_cons (by omega)
      generalize hc : l[k]'(by omega) = c at *
      have hq : nuR l n (some k) 1 = (c.toNat, some (k + 1)) := by rw [nuR_yes h1, hd]; simp [numW]
      have hcl : c.toNat ≤ 255 := by have := c.toNat_lt; omega
      by_cases h6 : 6 < c.toNat
      · have hp : plR l (some k) = ([], none) := by unfold plR; simp only; rw [hd]; simp only [rdP, if_pos h6]
        rw [hp]
        exact refPayload_bad p c.toNat a n cap l (some k) _ w h hq hcl (.inr h6)
      · have hp : plR l (some k) = plC c.toNat (l.drop (k + 1)) (k + 1) := by
          unfold plR plC
          simp only
          rw [hd]
          simp only [rdP, if_neg h6]
          cases rdVs c.toNat (l.drop (k + 1)) with
          | none => rfl
          | some q =>
            obtain ⟨vs, m⟩ := q
            simp only [Option.bind_some]
            by_cases hs : 1024 < sizeP vs
            · rw [if_pos hs, if_pos hs]
            · rw [if_neg hs, if_neg hs]
              simp only [Nat.add_assoc]
        rw [hp]
        exact refPayload_few p c.toNat (k + 1) a n cap l (some k) w h hq (by omega)
def MeA (w : World) (p : Nat) (a : Option Addr) (n cap : Nat) (l : List UInt8) (q : M9 × Option Nat) (e : Ending) (w' : World) : Prop := ∃ al cp, e = .returned (.agg #[.int .i64 q.1.id, .string ⟨q.1.tag.toArray⟩, .slice al q.1.vs.length cp]) ∧ w'.ownsRow w.heap.size 27 5 (.slice al q.1.vs.length cp) q.1.vs.length (cellsP q.1.vs) ∧ RSt w' p a n cap l q.2 ∧ Eff9 p w w'
def zeroM9 : M9 := ⟨0, [], []⟩
def pickM (m : M9) : Option Nat → M9 × Option Nat
  | some k => (m, some k)
  | none => (zeroM9, none)
set_option maxHeartbeats 16000000 in
theorem refMessage_in (p k id t : Nat) (tg : List UInt8) (vs : List V9) (a : Option Addr) (n cap : Nat) (l : List UInt8) (o1 o2 o3 o4 o5 : Option Nat) (w : World) (h : RSt w p a n cap l (some k)) (hr1 : nuR l n (some k) 4 = (id, o1)) (hr2 : nuR l n o1 1 = (t, o2)) (ho3 : 1048575 < id ∨ t < 1 ∨ 32 < t → o3 = none) (ho4 : id ≤ 1048575 ∧ 1 ≤ t ∧ t ≤ 32 → o3 = o2) (hr3 : txR l n o3 t = (tg, o4)) (hr4 : plR l o4 = (vs, o5)) (hid : id < 4294967296) (ht : t ≤ 255) :
    Calls Try.prog 12 #[.pointer (some ⟨p, 0, none⟩)] w (MeA w p a n cap l (pickM ⟨id, tg, vs⟩ o5)) := by
  have hplt := h.lt
  have HH := Lib.hid h
  obtain ⟨W0, hW0⟩ : ∃ W0, W0 = (w.alloc (.cells #[.int .i64 0, .string ⟨#[]⟩, .slice none 0 0] 35)).alloc (.cells #[.int .i64 0, .string ⟨#[]⟩, .slice none 0 0] 35) := ⟨_, rfl⟩
  have hb0 : Below w.heap.size w W0 := by rw [hW0]; exact ((Below.refl _ w).alloc (Nat.le_refl _) _).alloc (by simp) _
  have hx0 : Bk W0 w.heap.size 35 zeroM := by rw [hW0]; exact (Bk.new w _ _).alloc _
  have hy0 : Bk W0 (w.heap.size + 1) 35 zeroM := by rw [hW0]; exact heap_alloc2_new w _ _
  have hs0 := h.below hb0
  have hn1 := number_r p a n cap 4 l (some k) W0 hs0 (by omega)
  rw [hr1] at hn1
  unfold NuA at hn1
  have HN1 : Hid (Calls Try.prog 32 #[.pointer (some ⟨p, 0, none⟩), .int .i64 4] W0 fun e w' => e = .returned (.int .u64 id) ∧ RSt w' p a n cap l o1 ∧ Eff9 p W0 w') := Lib.hid hn1
  have hw1 : IntKind.i64.wrap (id : Int) = (id : Int) := by rw [IntKind.wrap_i64]; omega
  have hw2 : IntKind.i64.wrap (t : Int) = (t : Int) := by rw [IntKind.wrap_i64]; omega
  have HN2 : Hid (∀ W, RSt W p a n cap l o1 → Calls Try.prog 32 #[.pointer (some ⟨p, 0, none⟩), .int .i64 1] W fun e w' => e = .returned (.int .u64 t) ∧ RSt w' p a n cap l o2 ∧ Eff9 p W w') := Lib.hid (fun W hW => by
    have := number_r p a n cap 1 l o1 W hW (by omega)
    rw [hr2] at this
    exact this)
  have HW0 := Lib.hid hW0
  have HX0 := Lib.hid hx0
  have HY0 := Lib.hid hy0
  have HE0 := Lib.hid (Eff9.below (Eff9.refl p w) hb0)
  have y0 := hy0.c 0 rfl
  have fy0 := hy0.fz 0
  have ly := hy0.lt
  unfold MeA
  clear hW0 hb0 hx0 hy0 hs0 hn1 h hr1 hr2
  go_enter Try.func12, Try.ntmps12
  go_upto_region 2 with (fail)
  rw [← HW0.out]
  go_upto_region 3 with (go_at_call 32; (with_reducible refine HN1.out.mono ?_); rintro e w1 ⟨rfl, hs1, he1⟩; have HS1 := Lib.hid hs1; have hx1 := HX0.out.eff he1 (by omega); have HX1 := Lib.hid hx1; have hy1 := HY0.out.eff he1 (by omega); have HY1 := Lib.hid hy1; have HE1 := Lib.hid (HE0.out.trans he1); clear hs1 he1 hx1 y0 fy0 ly; have yy := hy1.c 0 rfl; have fyy := hy1.fz 0; have ly1 := hy1.lt; clear hy1)
  have HX1b := Lib.hid (HX1.out.other (x := w.heap.size + 1) (by omega) 0 (.int .i64 id))
  have HY1b := Lib.hid (HY1.out.set 0 (.int .i64 id))
  have HS1b := Lib.hid (RSt.other HH.out HS1.out (show w.heap.size ≤ w.heap.size + 1 by omega) 0 (.int .i64 id))
  have HE1b := Lib.hid (HE1.out.new (show w.heap.size ≤ w.heap.size + 1 by omega) 0 (.int .i64 id))
  clear yy fyy ly1
  generalize w1.setCell ⟨w.heap.size + 1, 0, none⟩ (.int .i64 id) = W1 at *
  have HN5 := Lib.hid (HN2.out _ HS1b.out)
  clear HX0 HY0 HE0 HX1 HY1 HS1 HE1 HN1 HN2
  go_upto_region 4 with (go_at_call 32; (with_reducible refine HN5.out.mono ?_); rintro e w2 ⟨rfl, hs2, he2⟩; have HS2 := Lib.hid hs2; have HX2 := Lib.hid (HX1b.out.eff he2 (by omega)); have HY2 := Lib.hid (HY1b.out.eff he2 (by omega)); have HE2 := Lib.hid (HE1b.out.trans he2); clear hs2 he2)
  clear HX1b HY1b HS1b HE1b HN5
  have y0 := HY2.out.c 0 rfl
  have HN3 := Lib.hid (fun W (hW : RSt W p a n cap l o3) => by
    have := text_r p a n cap t l o3 W hW (by omega)
    rw [hr3] at this
    exact this)
  by_cases g1 : 1048575 < id
  · have d1 : decide ((1048575 : Int) < (id : Int)) = true := decide_eq_true (by omega)
    have d2 : decide (1048575 < id) = true := decide_eq_true g1
    obtain ⟨k9, b9, hb9, hk9, _, _⟩ := HS2.out.box
    have HB9 := Lib.hid hb9
    have p2 := hb9.c 2 rfl
    have fp2 := hb9.fz 2
    have lp := hb9.lt
    clear hb9
    go_upto_region 6 with (fail)
    have he3 : Eff9 p w2 (w2.setCell ⟨p, 2, none⟩ (.bool true)) := (Eff9.refl p w2).set 2 _
    have HS3 : Hid (RSt (w2.setCell ⟨p, 2, none⟩ (.bool true)) p a n cap l none) := Lib.hid (HS2.out.none he3 (HB9.out.set 2 (.bool true)) hk9)
    have HX3 := Lib.hid (HX2.out.other (x := p) (by omega) 2 (.bool true))
    have HY3 := Lib.hid (HY2.out.other (x := p) (by omega) 2 (.bool true))
    have HE3 := Lib.hid (HE2.out.trans he3)
    clear p2 fp2 lp he3 y0
    generalize w2.setCell ⟨p, 2, none⟩ (.bool true) = w3 at *
    obtain rfl : o3 = none := (ho3 (.inl g1))
    have HT5 := Lib.hid (HN3.out _ HS3.out)
    unfold TxA at HT5
    have y1 := HY3.out.c 1 rfl
    have fy1 := HY3.out.fz 1
    have ly := HY3.out.lt
    go_upto_region 7 with (go_at_call 34; (with_reducible refine HT5.out.mono ?_); rintro e w4 ⟨rfl, hs4, he4⟩; have HS4 := Lib.hid hs4; have hx4 := HX3.out.eff he4 (by omega); have HX4 := Lib.hid hx4; have hy4 := HY3.out.eff he4 (by omega); have HY4 := Lib.hid hy4; have HE4 := Lib.hid (HE3.out.trans he4); clear hs4 he4 hx4 y1 fy1 ly; have yy := hy4.c 1 rfl; have fyy := hy4.fz 1; have ly4 := hy4.lt; clear hy4)
    have HX5 := Lib.hid (HX4.out.other (x := w.heap.size + 1) (by omega) 1 (.string ⟨tg.toArray⟩))
    have HY5 := Lib.hid (HY4.out.set 1 (.string ⟨tg.toArray⟩))
    have HS5 := Lib.hid (RSt.other HH.out HS4.out (show w.heap.size ≤ w.heap.size + 1 by omega) 1 (.string ⟨tg.toArray⟩))
    have HE5 := Lib.hid (HE4.out.new (show w.heap.size ≤ w.heap.size + 1 by omega) 1 (.string ⟨tg.toArray⟩))
    clear yy fyy ly4
    generalize w4.setCell ⟨w.heap.size + 1, 1, none⟩ (.string ⟨tg.toArray⟩) = W5 at *
    clear HX4 HY4 HS4 HE4 HX3 HY3 HS3 HE3 HN3 HT5
    have hpay := refPayload_any p a n cap l o4 W5 HS5.out
    rw [hr4] at hpay
    unfold PaA at hpay
    have HP5 := Lib.hid hpay
    have hl5 := HY5.out.lt
    have HL5 := Lib.hid hl5
    clear hpay hl5
    have y2 := HY5.out.c 2 rfl
    have fy2 := HY5.out.fz 2
    have ly := HY5.out.lt
    go_upto_region 8 with (go_at_call 11; (with_reducible refine HP5.out.mono ?_); rintro e w6 ⟨al, cp, rfl, hr6, hs6, he6⟩; have HR6 := Lib.hid hr6; have HS6 := Lib.hid hs6; have hx6 := HX5.out.eff he6 (by omega); have HX6 := Lib.hid hx6; have hy6 := HY5.out.eff he6 (by omega); have HY6 := Lib.hid hy6; have HE6 := Lib.hid (HE5.out.trans he6); clear hr6 hs6 he6 hx6 y2 fy2 ly; have yy := hy6.c 2 rfl; have fyy := hy6.fz 2; have ly6 := hy6.lt; clear hy6)
    have HX7 := Lib.hid (HX6.out.other (x := w.heap.size + 1) (by omega) 2 (.slice al vs.length cp))
    have HY7 := Lib.hid (HY6.out.set 2 (.slice al vs.length cp))
    have HS7 := Lib.hid (RSt.other HH.out HS6.out (show w.heap.size ≤ w.heap.size + 1 by omega) 2 (.slice al vs.length cp))
    have HE7 := Lib.hid (HE6.out.new (show w.heap.size ≤ w.heap.size + 1 by omega) 2 (.slice al vs.length cp))
    have HR7 := Lib.hid (own_set9 HR6.out HL5.out 2 (.slice al vs.length cp))
    clear yy fyy ly6
    generalize w6.setCell ⟨w.heap.size + 1, 2, none⟩ (.slice al vs.length cp) = W7 at *
    clear HX6 HY6 HS6 HE6 HR6
    have x0 := HX7.out.c 0 rfl
    have x1 := HX7.out.c 1 rfl
    have x2 := HX7.out.c 2 rfl
    have fx0 := HX7.out.fz 0
    have fx1 := HX7.out.fz 1
    have fx2 := HX7.out.fz 2
    have lx := HX7.out.lt
    cases o5 with
    | none =>
      obtain ⟨k9, hb9, hk9⟩ := HS7.out.bad
      have p2 := hb9.c 2 rfl
      clear hb9
      go_wp2_with fail
      have K := HX7.out.put zeroM rfl
      simp only [zeroM, putL, Nat.reduceAdd] at K
      have z0 := K.c 0 rfl
      have z1 := K.c 1 rfl
      have z2 := K.c 2 rfl
      exact bodyPost_ret (v := .agg #[.int .i64 0, .string ⟨#[]⟩, .slice none 0 0]) (by simp [results, Try.results12, go_sem, z0, z1, z2]) rfl ⟨none, 0, rfl, World.ownsRow_nil _ _ _ _, RSt.putL HH.out (Nat.le_refl _) zeroM 0 HS7.out, Eff9.putL (Nat.le_refl _) zeroM 0 HE7.out⟩
    | some k5 =>
      obtain ⟨hb9, hk9⟩ := HS7.out.at
      have p2 := hb9.c 2 rfl
      have y0 := HY7.out.c 0 rfl
      have y1 := HY7.out.c 1 rfl
      have y2 := HY7.out.c 2 rfl
      clear hb9
      go_wp2_with fail
      have K := HX7.out.put [.int .i64 id, .string ⟨tg.toArray⟩, .slice al vs.length cp] rfl
      simp only [putL, Nat.reduceAdd] at K
      have z0 := K.c 0 rfl
      have z1 := K.c 1 rfl
      have z2 := K.c 2 rfl
      exact bodyPost_ret (v := .agg #[.int .i64 id, .string ⟨tg.toArray⟩, .slice al vs.length cp]) (by simp [results, Try.results12, go_sem, z0, z1, z2]) rfl ⟨al, cp, rfl, own_base9 (own_putL (by have := HL5.out; omega) [.int .i64 id, .string ⟨tg.toArray⟩, .slice al vs.length cp] _ 0 HR7.out) (by have := HL5.out; omega), RSt.putL HH.out (Nat.le_refl _) [.int .i64 id, .string ⟨tg.toArray⟩, .slice al vs.length cp] 0 HS7.out, Eff9.putL (Nat.le_refl _) [.int .i64 id, .string ⟨tg.toArray⟩, .slice al vs.length cp] 0 HE7.out⟩
  · have d1 : decide ((1048575 : Int) < (id : Int)) = false := decide_eq_false (by omega)
    have d2 : decide (1048575 < id) = false := decide_eq_false g1
    by_cases g2 : t < 1
    · have d3 : decide ((t : Int) < 1) = true := decide_eq_true (by omega)
      have d4 : decide (t < 1) = true := decide_eq_true g2
      have d5 : decide (t = 0) = true := decide_eq_true (by omega)
      obtain ⟨k9, b9, hb9, hk9, _, _⟩ := HS2.out.box
      have HB9 := Lib.hid hb9
      have p2 := hb9.c 2 rfl
      have fp2 := hb9.fz 2
      have lp := hb9.lt
      clear hb9
      go_upto_region 6 with (fail)
      have he3 : Eff9 p w2 (w2.setCell ⟨p, 2, none⟩ (.bool true)) := (Eff9.refl p w2).set 2 _
      have HS3 : Hid (RSt (w2.setCell ⟨p, 2, none⟩ (.bool true)) p a n cap l none) := Lib.hid (HS2.out.none he3 (HB9.out.set 2 (.bool true)) hk9)
      have HX3 := Lib.hid (HX2.out.other (x := p) (by omega) 2 (.bool true))
      have HY3 := Lib.hid (HY2.out.other (x := p) (by omega) 2 (.bool true))
      have HE3 := Lib.hid (HE2.out.trans he3)
      clear p2 fp2 lp he3 y0
      generalize w2.setCell ⟨p, 2, none⟩ (.bool true) = w3 at *
      obtain rfl : o3 = none := (ho3 (.inr (.inl g2)))
      have HT5 := Lib.hid (HN3.out _ HS3.out)
      unfold TxA at HT5
      have y1 := HY3.out.c 1 rfl
      have fy1 := HY3.out.fz 1
      have ly := HY3.out.lt
      go_upto_region 7 with (go_at_call 34; (with_reducible refine HT5.out.mono ?_); rintro e w4 ⟨rfl, hs4, he4⟩; have HS4 := Lib.hid hs4; have hx4 := HX3.out.eff he4 (by omega); have HX4 := Lib.hid hx4; have hy4 := HY3.out.eff he4 (by omega); have HY4 := Lib.hid hy4; have HE4 := Lib.hid (HE3.out.trans he4); clear hs4 he4 hx4 y1 fy1 ly; have yy := hy4.c 1 rfl; have fyy := hy4.fz 1; have ly4 := hy4.lt; clear hy4)
      have HX5 := Lib.hid (HX4.out.other (x := w.heap.size + 1) (by omega) 1 (.string ⟨tg.toArray⟩))
      have HY5 := Lib.hid (HY4.out.set 1 (.string ⟨tg.toArray⟩))
      have HS5 := Lib.hid (RSt.other HH.out HS4.out (show w.heap.size ≤ w.heap.size + 1 by omega) 1 (.string ⟨tg.toArray⟩))
      have HE5 := Lib.hid (HE4.out.new (show w.heap.size ≤ w.heap.size + 1 by omega) 1 (.string ⟨tg.toArray⟩))
      clear yy fyy ly4
      generalize w4.setCell ⟨w.heap.size + 1, 1, none⟩ (.string ⟨tg.toArray⟩) = W5 at *
      clear HX4 HY4 HS4 HE4 HX3 HY3 HS3 HE3 HN3 HT5
      have hpay := refPayload_any p a n cap l o4 W5 HS5.out
      rw [hr4] at hpay
      unfold PaA at hpay
      have HP5 := Lib.hid hpay
      have hl5 := HY5.out.lt
      have HL5 := Lib.hid hl5
      clear hpay hl5
      have y2 := HY5.out.c 2 rfl
      have fy2 := HY5.out.fz 2
      have ly := HY5.out.lt
      go_upto_region 8 with (go_at_call 11; (with_reducible refine HP5.out.mono ?_); rintro e w6 ⟨al, cp, rfl, hr6, hs6, he6⟩; have HR6 := Lib.hid hr6; have HS6 := Lib.hid hs6; have hx6 := HX5.out.eff he6 (by omega); have HX6 := Lib.hid hx6; have hy6 := HY5.out.eff he6 (by omega); have HY6 := Lib.hid hy6; have HE6 := Lib.hid (HE5.out.trans he6); clear hr6 hs6 he6 hx6 y2 fy2 ly; have yy := hy6.c 2 rfl; have fyy := hy6.fz 2; have ly6 := hy6.lt; clear hy6)
      have HX7 := Lib.hid (HX6.out.other (x := w.heap.size + 1) (by omega) 2 (.slice al vs.length cp))
      have HY7 := Lib.hid (HY6.out.set 2 (.slice al vs.length cp))
      have HS7 := Lib.hid (RSt.other HH.out HS6.out (show w.heap.size ≤ w.heap.size + 1 by omega) 2 (.slice al vs.length cp))
      have HE7 := Lib.hid (HE6.out.new (show w.heap.size ≤ w.heap.size + 1 by omega) 2 (.slice al vs.length cp))
      have HR7 := Lib.hid (own_set9 HR6.out HL5.out 2 (.slice al vs.length cp))
      clear yy fyy ly6
      generalize w6.setCell ⟨w.heap.size + 1, 2, none⟩ (.slice al vs.length cp) = W7 at *
      clear HX6 HY6 HS6 HE6 HR6
      have x0 := HX7.out.c 0 rfl
      have x1 := HX7.out.c 1 rfl
      have x2 := HX7.out.c 2 rfl
      have fx0 := HX7.out.fz 0
      have fx1 := HX7.out.fz 1
      have fx2 := HX7.out.fz 2
      have lx := HX7.out.lt
      cases o5 with
      | none =>
        obtain ⟨k9, hb9, hk9⟩ := HS7.out.bad
        have p2 := hb9.c 2 rfl
        clear hb9
        go_wp2_with fail
        have K := HX7.out.put zeroM rfl
        simp only [zeroM, putL, Nat.reduceAdd] at K
        have z0 := K.c 0 rfl
        have z1 := K.c 1 rfl
        have z2 := K.c 2 rfl
        exact bodyPost_ret (v := .agg #[.int .i64 0, .string ⟨#[]⟩, .slice none 0 0]) (by simp [results, Try.results12, go_sem, z0, z1, z2]) rfl ⟨none, 0, rfl, World.ownsRow_nil _ _ _ _, RSt.putL HH.out (Nat.le_refl _) zeroM 0 HS7.out, Eff9.putL (Nat.le_refl _) zeroM 0 HE7.out⟩
      | some k5 =>
        obtain ⟨hb9, hk9⟩ := HS7.out.at
        have p2 := hb9.c 2 rfl
        have y0 := HY7.out.c 0 rfl
        have y1 := HY7.out.c 1 rfl
        have y2 := HY7.out.c 2 rfl
        clear hb9
        go_wp2_with fail
        have K := HX7.out.put [.int .i64 id, .string ⟨tg.toArray⟩, .slice al vs.length cp] rfl
        simp only [putL, Nat.reduceAdd] at K
        have z0 := K.c 0 rfl
        have z1 := K.c 1 rfl
        have z2 := K.c 2 rfl
        exact bodyPost_ret (v := .agg #[.int .i64 id, .string ⟨tg.toArray⟩, .slice al vs.length cp]) (by simp [results, Try.results12, go_sem, z0, z1, z2]) rfl ⟨al, cp, rfl, own_base9 (own_putL (by have := HL5.out; omega) [.int .i64 id, .string ⟨tg.toArray⟩, .slice al vs.length cp] _ 0 HR7.out) (by have := HL5.out; omega), RSt.putL HH.out (Nat.le_refl _) [.int .i64 id, .string ⟨tg.toArray⟩, .slice al vs.length cp] 0 HS7.out, Eff9.putL (Nat.le_refl _) [.int .i64 id, .string ⟨tg.toArray⟩, .slice al vs.length cp] 0 HE7.out⟩
    · have d3 : decide ((t : Int) < 1) = false := decide_eq_false (by omega)
      have d4 : decide (t < 1) = false := decide_eq_false g2
      have d5 : decide (t = 0) = false := decide_eq_false (by omega)
      by_cases g3 : 32 < t
      · have d6 : decide ((32 : Int) < (t : Int)) = true := decide_eq_true (by omega)
        have d7 : decide (32 < t) = true := decide_eq_true g3
        obtain ⟨k9, b9, hb9, hk9, _, _⟩ := HS2.out.box
        have HB9 := Lib.hid hb9
        have p2 := hb9.c 2 rfl
        have fp2 := hb9.fz 2
        have lp := hb9.lt
        clear hb9
        go_upto_region 6 with (fail)
        have he3 : Eff9 p w2 (w2.setCell ⟨p, 2, none⟩ (.bool true)) := (Eff9.refl p w2).set 2 _
        have HS3 : Hid (RSt (w2.setCell ⟨p, 2, none⟩ (.bool true)) p a n cap l none) := Lib.hid (HS2.out.none he3 (HB9.out.set 2 (.bool true)) hk9)
        have HX3 := Lib.hid (HX2.out.other (x := p) (by omega) 2 (.bool true))
        have HY3 := Lib.hid (HY2.out.other (x := p) (by omega) 2 (.bool true))
        have HE3 := Lib.hid (HE2.out.trans he3)
        clear p2 fp2 lp he3 y0
        generalize w2.setCell ⟨p, 2, none⟩ (.bool true) = w3 at *
        obtain rfl : o3 = none := (ho3 (.inr (.inr g3)))
        have HT5 := Lib.hid (HN3.out _ HS3.out)
        unfold TxA at HT5
        have y1 := HY3.out.c 1 rfl
        have fy1 := HY3.out.fz 1
        have ly := HY3.out.lt
        go_upto_region 7 with (go_at_call 34; (with_reducible refine HT5.out.mono ?_); rintro e w4 ⟨rfl, hs4, he4⟩; have HS4 := Lib.hid hs4; have hx4 := HX3.out.eff he4 (by omega); have HX4 := Lib.hid hx4; have hy4 := HY3.out.eff he4 (by omega); have HY4 := Lib.hid hy4; have HE4 := Lib.hid (HE3.out.trans he4); clear hs4 he4 hx4 y1 fy1 ly; have yy := hy4.c 1 rfl; have fyy := hy4.fz 1; have ly4 := hy4.lt; clear hy4)
        have HX5 := Lib.hid (HX4.out.other (x := w.heap.size + 1) (by omega) 1 (.string ⟨tg.toArray⟩))
        have HY5 := Lib.hid (HY4.out.set 1 (.string ⟨tg.toArray⟩))
        have HS5 := Lib.hid (RSt.other HH.out HS4.out (show w.heap.size ≤ w.heap.size + 1 by omega) 1 (.string ⟨tg.toArray⟩))
        have HE5 := Lib.hid (HE4.out.new (show w.heap.size ≤ w.heap.size + 1 by omega) 1 (.string ⟨tg.toArray⟩))
        clear yy fyy ly4
        generalize w4.setCell ⟨w.heap.size + 1, 1, none⟩ (.string ⟨tg.toArray⟩) = W5 at *
        clear HX4 HY4 HS4 HE4 HX3 HY3 HS3 HE3 HN3 HT5
        have hpay := refPayload_any p a n cap l o4 W5 HS5.out
        rw [hr4] at hpay
        unfold PaA at hpay
        have HP5 := Lib.hid hpay
        have hl5 := HY5.out.lt
        have HL5 := Lib.hid hl5
        clear hpay hl5
        have y2 := HY5.out.c 2 rfl
        have fy2 := HY5.out.fz 2
        have ly := HY5.out.lt
        go_upto_region 8 with (go_at_call 11; (with_reducible refine HP5.out.mono ?_); rintro e w6 ⟨al, cp, rfl, hr6, hs6, he6⟩; have HR6 := Lib.hid hr6; have HS6 := Lib.hid hs6; have hx6 := HX5.out.eff he6 (by omega); have HX6 := Lib.hid hx6; have hy6 := HY5.out.eff he6 (by omega); have HY6 := Lib.hid hy6; have HE6 := Lib.hid (HE5.out.trans he6); clear hr6 hs6 he6 hx6 y2 fy2 ly; have yy := hy6.c 2 rfl; have fyy := hy6.fz 2; have ly6 := hy6.lt; clear hy6)
        have HX7 := Lib.hid (HX6.out.other (x := w.heap.size + 1) (by omega) 2 (.slice al vs.length cp))
        have HY7 := Lib.hid (HY6.out.set 2 (.slice al vs.length cp))
        have HS7 := Lib.hid (RSt.other HH.out HS6.out (show w.heap.size ≤ w.heap.size + 1 by omega) 2 (.slice al vs.length cp))
        have HE7 := Lib.hid (HE6.out.new (show w.heap.size ≤ w.heap.size + 1 by omega) 2 (.slice al vs.length cp))
        have HR7 := Lib.hid (own_set9 HR6.out HL5.out 2 (.slice al vs.length cp))
        clear yy fyy ly6
        generalize w6.setCell ⟨w.heap.size + 1, 2, none⟩ (.slice al vs.length cp) = W7 at *
        clear HX6 HY6 HS6 HE6 HR6
        have x0 := HX7.out.c 0 rfl
        have x1 := HX7.out.c 1 rfl
        have x2 := HX7.out.c 2 rfl
        have fx0 := HX7.out.fz 0
        have fx1 := HX7.out.fz 1
        have fx2 := HX7.out.fz 2
        have lx := HX7.out.lt
        cases o5 with
        | none =>
          obtain ⟨k9, hb9, hk9⟩ := HS7.out.bad
          have p2 := hb9.c 2 rfl
          clear hb9
          go_wp2_with fail
          have K := HX7.out.put zeroM rfl
          simp only [zeroM, putL, Nat.reduceAdd] at K
          have z0 := K.c 0 rfl
          have z1 := K.c 1 rfl
          have z2 := K.c 2 rfl
          exact bodyPost_ret (v := .agg #[.int .i64 0, .string ⟨#[]⟩, .slice none 0 0]) (by simp [results, Try.results12, go_sem, z0, z1, z2]) rfl ⟨none, 0, rfl, World.ownsRow_nil _ _ _ _, RSt.putL HH.out (Nat.le_refl _) zeroM 0 HS7.out, Eff9.putL (Nat.le_refl _) zeroM 0 HE7.out⟩
        | some k5 =>
          obtain ⟨hb9, hk9⟩ := HS7.out.at
          have p2 := hb9.c 2 rfl
          have y0 := HY7.out.c 0 rfl
          have y1 := HY7.out.c 1 rfl
          have y2 := HY7.out.c 2 rfl
          clear hb9
          go_wp2_with fail
          have K := HX7.out.put [.int .i64 id, .string ⟨tg.toArray⟩, .slice al vs.length cp] rfl
          simp only [putL, Nat.reduceAdd] at K
          have z0 := K.c 0 rfl
          have z1 := K.c 1 rfl
          have z2 := K.c 2 rfl
          exact bodyPost_ret (v := .agg #[.int .i64 id, .string ⟨tg.toArray⟩, .slice al vs.length cp]) (by simp [results, Try.results12, go_sem, z0, z1, z2]) rfl ⟨al, cp, rfl, own_base9 (own_putL (by have := HL5.out; omega) [.int .i64 id, .string ⟨tg.toArray⟩, .slice al vs.length cp] _ 0 HR7.out) (by have := HL5.out; omega), RSt.putL HH.out (Nat.le_refl _) [.int .i64 id, .string ⟨tg.toArray⟩, .slice al vs.length cp] 0 HS7.out, Eff9.putL (Nat.le_refl _) [.int .i64 id, .string ⟨tg.toArray⟩, .slice al vs.length cp] 0 HE7.out⟩
      · have d6 : decide ((32 : Int) < (t : Int)) = false := decide_eq_false (by omega)
        have d7 : decide (32 < t) = false := decide_eq_false g3
        go_upto_region 6 with (fail)
        obtain rfl : o3 = o2 := ho4 ⟨by omega, by omega, by omega⟩
        have HS3 := HS2
        have HX3 := HX2
        have HY3 := HY2
        have HE3 := HE2
        clear y0
        have HT5 := Lib.hid (HN3.out _ HS3.out)
        unfold TxA at HT5
        have y1 := HY3.out.c 1 rfl
        have fy1 := HY3.out.fz 1
        have ly := HY3.out.lt
        go_upto_region 7 with (go_at_call 34; (with_reducible refine HT5.out.mono ?_); rintro e w4 ⟨rfl, hs4, he4⟩; have HS4 := Lib.hid hs4; have hx4 := HX3.out.eff he4 (by omega); have HX4 := Lib.hid hx4; have hy4 := HY3.out.eff he4 (by omega); have HY4 := Lib.hid hy4; have HE4 := Lib.hid (HE3.out.trans he4); clear hs4 he4 hx4 y1 fy1 ly; have yy := hy4.c 1 rfl; have fyy := hy4.fz 1; have ly4 := hy4.lt; clear hy4)
        have HX5 := Lib.hid (HX4.out.other (x := w.heap.size + 1) (by omega) 1 (.string ⟨tg.toArray⟩))
        have HY5 := Lib.hid (HY4.out.set 1 (.string ⟨tg.toArray⟩))
        have HS5 := Lib.hid (RSt.other HH.out HS4.out (show w.heap.size ≤ w.heap.size + 1 by omega) 1 (.string ⟨tg.toArray⟩))
        have HE5 := Lib.hid (HE4.out.new (show w.heap.size ≤ w.heap.size + 1 by omega) 1 (.string ⟨tg.toArray⟩))
        clear yy fyy ly4
        generalize w4.setCell ⟨w.heap.size + 1, 1, none⟩ (.string ⟨tg.toArray⟩) = W5 at *
        clear HX4 HY4 HS4 HE4 HX3 HY3 HS3 HE3 HN3 HT5
        have hpay := refPayload_any p a n cap l o4 W5 HS5.out
        rw [hr4] at hpay
        unfold PaA at hpay
        have HP5 := Lib.hid hpay
        have hl5 := HY5.out.lt
        have HL5 := Lib.hid hl5
        clear hpay hl5
        have y2 := HY5.out.c 2 rfl
        have fy2 := HY5.out.fz 2
        have ly := HY5.out.lt
        go_upto_region 8 with (go_at_call 11; (with_reducible refine HP5.out.mono ?_); rintro e w6 ⟨al, cp, rfl, hr6, hs6, he6⟩; have HR6 := Lib.hid hr6; have HS6 := Lib.hid hs6; have hx6 := HX5.out.eff he6 (by omega); have HX6 := Lib.hid hx6; have hy6 := HY5.out.eff he6 (by omega); have HY6 := Lib.hid hy6; have HE6 := Lib.hid (HE5.out.trans he6); clear hr6 hs6 he6 hx6 y2 fy2 ly; have yy := hy6.c 2 rfl; have fyy := hy6.fz 2; have ly6 := hy6.lt; clear hy6)
        have HX7 := Lib.hid (HX6.out.other (x := w.heap.size + 1) (by omega) 2 (.slice al vs.length cp))
        have HY7 := Lib.hid (HY6.out.set 2 (.slice al vs.length cp))
        have HS7 := Lib.hid (RSt.other HH.out HS6.out (show w.heap.size ≤ w.heap.size + 1 by omega) 2 (.slice al vs.length cp))
        have HE7 := Lib.hid (HE6.out.new (show w.heap.size ≤ w.heap.size + 1 by omega) 2 (.slice al vs.length cp))
        have HR7 := Lib.hid (own_set9 HR6.out HL5.out 2 (.slice al vs.length cp))
        clear yy fyy ly6
        generalize w6.setCell ⟨w.heap.size + 1, 2, none⟩ (.slice al vs.length cp) = W7 at *
        clear HX6 HY6 HS6 HE6 HR6
        have x0 := HX7.out.c 0 rfl
        have x1 := HX7.out.c 1 rfl
        have x2 := HX7.out.c 2 rfl
        have fx0 := HX7.out.fz 0
        have fx1 := HX7.out.fz 1
        have fx2 := HX7.out.fz 2
        have lx := HX7.out.lt
        cases o5 with
        | none =>
          obtain ⟨k9, hb9, hk9⟩ := HS7.out.bad
          have p2 := hb9.c 2 rfl
          clear hb9
          go_wp2_with fail
          have K := HX7.out.put zeroM rfl
          simp only [zeroM, putL, Nat.reduceAdd] at K
          have z0 := K.c 0 rfl
          have z1 := K.c 1 rfl
          have z2 := K.c 2 rfl
          exact bodyPost_ret (v := .agg #[.int .i64 0, .string ⟨#[]⟩, .slice none 0 0]) (by simp [results, Try.results12, go_sem, z0, z1, z2]) rfl ⟨none, 0, rfl, World.ownsRow_nil _ _ _ _, RSt.putL HH.out (Nat.le_refl _) zeroM 0 HS7.out, Eff9.putL (Nat.le_refl _) zeroM 0 HE7.out⟩
        | some k5 =>
          obtain ⟨hb9, hk9⟩ := HS7.out.at
          have p2 := hb9.c 2 rfl
          have y0 := HY7.out.c 0 rfl
          have y1 := HY7.out.c 1 rfl
          have y2 := HY7.out.c 2 rfl
          clear hb9
          go_wp2_with fail
          have K := HX7.out.put [.int .i64 id, .string ⟨tg.toArray⟩, .slice al vs.length cp] rfl
          simp only [putL, Nat.reduceAdd] at K
          have z0 := K.c 0 rfl
          have z1 := K.c 1 rfl
          have z2 := K.c 2 rfl
          exact bodyPost_ret (v := .agg #[.int .i64 id, .string ⟨tg.toArray⟩, .slice al vs.length cp]) (by simp [results, Try.results12, go_sem, z0, z1, z2]) rfl ⟨al, cp, rfl, own_base9 (own_putL (by have := HL5.out; omega) [.int .i64 id, .string ⟨tg.toArray⟩, .slice al vs.length cp] _ 0 HR7.out) (by have := HL5.out; omega), RSt.putL HH.out (Nat.le_refl _) [.int .i64 id, .string ⟨tg.toArray⟩, .slice al vs.length cp] 0 HS7.out, Eff9.putL (Nat.le_refl _) [.int .i64 id, .string ⟨tg.toArray⟩, .slice al vs.length cp] 0 HE7.out⟩
end Go.Proofs.Ytloofajopgbfmaa
