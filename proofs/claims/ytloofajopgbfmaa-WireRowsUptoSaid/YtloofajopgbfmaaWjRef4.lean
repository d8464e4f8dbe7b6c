/- Wire, the reference's reading of a value. -/
import Derived.Test.YtloofajopgbfmaaWjRef3
namespace Go.Proofs.Ytloofajopgbfmaa
set_option linter.all false
open Go.RowKit
set_option maxRecDepth 100000
def VaA (w : World) (p : Nat) (a : Option Addr) (n cap : Nat) (l : List UInt8) (q : V9 × Option Nat) (e : Ending) (w' : World) : Prop := e = .returned (valO q.1) ∧ RSt w' p a n cap l q.2 ∧ Eff9 p w w'
/-- a value that is read, where the reading is not bad -/
def pick9 (v : V9) : Option Nat → V9 × Option Nat
  | some k => (v, some k)
  | none => (zero9, none)
theorem Bk.eff {w w' : World} {p g : Nat} {T : TypeId} {cs : List Value} (h : Bk w g T cs) (he : Eff9 p w w') (hg : g ≠ p) : Bk w' g T cs := (he.block g h.lt (fun e => hg (Option.some.inj e))).trans h
theorem Txt.other {w W : World} {a : Option Addr} {n cap Y : Nat} {l : List UInt8} (h0 : Txt w a n cap l) (h : Txt W a n cap l) (hY : w.heap.size ≤ Y) (j : Nat) (v : Value) : Txt (W.setCell ⟨Y, j, none⟩ v) a n cap l := by
  obtain ⟨h1, h2, h3, h4⟩ := h
  refine ⟨h1, h2, h3, h4.imp id ?_⟩
  rintro ⟨x, rfl, hx⟩
  refine ⟨x, rfl, fun i hi => ?_⟩
  obtain ⟨_, _, _, g4⟩ := h0
  rcases g4 with ⟨g, _⟩ | ⟨y, g, hy⟩
  · cases g
  · cases g
    have hb := World.block_lt_of_cell? w _ (hy i hi)
    exact (World.cell?_of_block (Below.heap_setCell W ⟨Y, j, none⟩ v (x.add i).block (by show _ ≠ Y; omega))).trans (hx i hi)
theorem RSt.other {w W : World} {p : Nat} {a : Option Addr} {n cap Y : Nat} {l : List UInt8} {o o2 : Option Nat} (h0 : RSt w p a n cap l o2) (h : RSt W p a n cap l o) (hY : w.heap.size ≤ Y) (j : Nat) (v : Value) : RSt (W.setCell ⟨Y, j, Option.none⟩ v) p a n cap l o := by
  obtain ⟨k, b, hb, hr⟩ := h.box
  have := h0.lt
  exact ⟨h0.txt.other h.txt hY j v, h.off, k, b, hb.other (x := Y) (by omega) j v, hr⟩
theorem RSt.putL {w : World} {p : Nat} {a : Option Addr} {n cap Y : Nat} {l : List UInt8} {o o2 : Option Nat} (h0 : RSt w p a n cap l o2) (hY : w.heap.size ≤ Y) : ∀ (vs : List Value) {W : World} (i : Nat), RSt W p a n cap l o → RSt (Go.Proofs.Ytloofajopgbfmaa.putL Y W i vs) p a n cap l o
  | [], _, _, h => h
  | v :: vs, _, i, h => RSt.putL h0 hY vs (i + 1) (RSt.other h0 h hY i v)
theorem Eff9.new {w W : World} {p Y : Nat} (h : Eff9 p w W) (hY : w.heap.size ≤ Y) (j : Nat) (v : Value) : Eff9 p w (W.setCell ⟨Y, j, none⟩ v) :=
  ⟨h.os, h.tape, h.output, by have := h.size; simpa using this, fun i hi hn => (Below.heap_setCell _ _ _ _ (by show i ≠ Y; omega)).trans (h.block i hi hn)⟩
theorem Eff9.putL {w : World} {p Y : Nat} (hY : w.heap.size ≤ Y) : ∀ (vs : List Value) {W : World} (i : Nat), Eff9 p w W → Eff9 p w (Go.Proofs.Ytloofajopgbfmaa.putL Y W i vs)
  | [], _, _, h => h
  | v :: vs, _, i, h => Eff9.putL hY vs (i + 1) (h.new hY i v)
set_option maxHeartbeats 8000000 in
theorem refValue_else (p k : Nat) (a : Option Addr) (n cap : Nat) (l : List UInt8) (w : World) (h : RSt w p a n cap l (some k)) (kd : Nat) (o1 : Option Nat) (hq : nuR l n (some k) 1 = (kd, o1)) (hkd : kd = 0 ∨ 5 ≤ kd) (hk9 : kd ≤ 255) : Calls Try.prog 10 #[.pointer (some ⟨p, 0, none⟩)] w (VaA w p a n cap l (zero9, none)) := by
  have e1 : (kd : Int) ≠ 1 := by omega
  have e2 : (kd : Int) ≠ 2 := by omega
  have e3 : (kd : Int) ≠ 3 := by omega
  have e4 : (kd : Int) ≠ 4 := by omega
  have t1 : ((kd : Int) == 1) = false := by simpa using e1
  have t2 : ((kd : Int) == 2) = false := by simpa using e2
  have t3 : ((kd : Int) == 3) = false := by simpa using e3
  have t4 : ((kd : Int) == 4) = false := by simpa using e4
  have u1 : (kd == 1) = false := by rw [beq_eq_false_iff_ne]; omega
  have u2 : (kd == 2) = false := by rw [beq_eq_false_iff_ne]; omega
  have u3 : (kd == 3) = false := by rw [beq_eq_false_iff_ne]; omega
  have u4 : (kd == 4) = false := by rw [beq_eq_false_iff_ne]; omega
  clear e1 e2 e3 e4 hkd
  have sf : ∀ (p : Addr) (b : Nat) (mo : Mode) (w' : World), (store p (.float .f64 b) mo).run Try.prog w' = stored Try.prog w' p (.float .f64 b) mo := fun p b mo w' => run_store _ w' p _ mo rfl
  have sc : ∀ (p : Addr) (b c : Nat) (mo : Mode) (w' : World), (store p (.complex .f64 b c) mo).run Try.prog w' = stored Try.prog w' p (.complex .f64 b c) mo := fun p b c mo w' => run_store _ w' p _ mo rfl
  have hplt := h.lt
  have HH := Lib.hid h
  obtain ⟨W0, hW0⟩ : ∃ W0, W0 = w.alloc (.cells #[.int .i64 0, .int .i64 0, .float .f64 0, .complex .f64 0 0, .string ⟨#[]⟩] 27) := ⟨_, rfl⟩
  have hb0 : Below w.heap.size w W0 := by rw [hW0]; exact (Below.refl _ w).alloc (Nat.le_refl _) _
  have hx0 : Bk W0 w.heap.size 27 zeroC := by rw [hW0]; exact Bk.new w _ _
  have hs0 := h.below hb0
  have hn1 := number_r p a n cap 1 l (some k) W0 hs0 (by omega)
  rw [hq] at hn1
  unfold NuA at hn1
  have HN1 : Hid (Calls Try.prog 32 #[.pointer (some ⟨p, 0, none⟩), .int .i64 1] W0 fun e w' => e = .returned (.int .u64 (kd : Int)) ∧ RSt w' p a n cap l o1 ∧ Eff9 p W0 w') := Lib.hid hn1
  have HW0 := Lib.hid hW0
  have HB0 := Lib.hid hb0
  have HX0 := Lib.hid hx0
  unfold VaA
  clear hW0 hb0 hx0 hs0 hn1 h hq
  go_enter Try.func10, Try.ntmps10
  go_upto_region 1 with (fail)
  rw [← HW0.out]
  go_upto_region 2 with (go_at_call 32; (with_reducible refine HN1.out.mono ?_); rintro e w1 ⟨rfl, hs1, he1⟩; have HS1 := Lib.hid hs1; have HE1 := Lib.hid he1; clear hs1 he1)
  obtain ⟨W2, hW2⟩ : ∃ W2, W2 = w1.alloc (.cells #[.int .i64 (kd : Int), .int .i64 0, .float .f64 0, .complex .f64 0 0, .string ⟨#[]⟩] 27) := ⟨_, rfl⟩
  have hbw : Below w1.heap.size w1 W2 := by rw [hW2]; exact (Below.refl _ w1).alloc (Nat.le_refl _) _
  have hx1 := HX0.out.eff HE1.out (by omega)
  have HX2 := Lib.hid (hx1.keep hbw hx1.lt)
  have HY2 := Lib.hid (show Bk W2 w1.heap.size 27 [.int .i64 (kd : Int), .int .i64 0, .float .f64 0, .complex .f64 0 0, .string ⟨#[]⟩] by rw [hW2]; exact Bk.new w1 _ _)
  have HS2 := Lib.hid (HS1.out.below hbw)
  have HE2 := Lib.hid ((((Eff9.refl p w).below HB0.out).trans HE1.out).below hbw)
  have hxY := hx1.lt
  rw [← hW2]
  generalize w1.heap.size = Y at *
  clear hW2 hbw hx1
  obtain ⟨k9, b9, hb9, hk9', _, _⟩ := HS2.out.box
  have HB9 := Lib.hid hb9
  have p2 := hb9.c 2 rfl
  have fp2 := hb9.fz 2
  have lp := hb9.lt
  clear hb9
  have y0 := HY2.out.c 0 rfl
  have y1 := HY2.out.c 1 rfl
  have y2 := HY2.out.c 2 rfl
  have y3 := HY2.out.c 3 rfl
  have y4 := HY2.out.c 4 rfl
  have ly := HY2.out.lt
  go_upto_region 17 with (fail)
  have he5 : Eff9 p w (W2.setCell ⟨p, 2, none⟩ (.bool true)) := HE2.out.set 2 _
  have HB5 := Lib.hid (HB9.out.set 2 (.bool true))
  have HX5 := Lib.hid (HX2.out.other (x := p) (by omega) 2 (.bool true))
  have HS5 := Lib.hid (HH.out.none he5 HB5.out hk9')
  have HE5 := Lib.hid he5
  clear he5 p2 fp2 lp
  clear y0 y1 y2 y3 y4 ly
  generalize W2.setCell ⟨p, 2, none⟩ (.bool true) = W5 at *
  have c2 := HB5.out.c 2 rfl
  have x0 := HX5.out.c 0 rfl
  have x1 := HX5.out.c 1 rfl
  have x2 := HX5.out.c 2 rfl
  have x3 := HX5.out.c 3 rfl
  have x4 := HX5.out.c 4 rfl
  have fx0 := HX5.out.fz 0
  have fx1 := HX5.out.fz 1
  have fx2 := HX5.out.fz 2
  have fx3 := HX5.out.fz 3
  have fx4 := HX5.out.fz 4
  have lx := HX5.out.lt
  go_wp2_with fail
  have K := HX5.out.put zeroC rfl
  simp only [zeroC, putL, Nat.reduceAdd] at K
  have z0 := K.c 0 rfl
  have z1 := K.c 1 rfl
  have z2 := K.c 2 rfl
  have z3 := K.c 3 rfl
  have z4 := K.c 4 rfl
  exact bodyPost_ret (v := valO zero9) (by simp [results, Try.results10, go_sem, z0, z1, z2, z3, z4, valO, valV, zero9]) rfl ⟨rfl, RSt.putL HH.out (Nat.le_refl _) zeroC 0 HS5.out, Eff9.putL (Nat.le_refl _) zeroC 0 HE5.out⟩
end Go.Proofs.Ytloofajopgbfmaa
