/- Wire: the value with which bytes begin: ReadValue. -/
import Derived.Test.YtloofajopgbfmaaWjFwd
namespace Go.Proofs.Ytloofajopgbfmaa
set_option linter.all false
open Go.RowKit
set_option maxRecDepth 100000
def valO (v : V9) : Value := valV v.kd v.iv v.rl v.re v.im ⟨v.tx.toArray⟩
/-- what reading a value answers -/
def ansV : Option (V9 × Nat) → Value
  | some (v, n) => .tuple #[valO v, .int .i64 n, .int .i64 0]
  | none => .tuple #[valV 0 0 0 0 0 ⟨#[]⟩, .int .i64 0, .int .i64 110]
abbrev zeroC : List Value := [.int .i64 0, .int .i64 0, .float .f64 0, .complex .f64 0 0, .string ⟨#[]⟩]
/-- what is there when the two blocks are made -/
structure RdSt (w W0 : World) (a : Option Addr) (n cap : Nat) (l : List UInt8) (sz : Nat) : Prop where
  eq : W0 = (w.alloc (.cells #[.int .i64 0, .int .i64 0, .float .f64 0, .complex .f64 0 0, .string ⟨#[]⟩] 27)).alloc (.cells #[.int .i64 0, .int .i64 0, .float .f64 0, .complex .f64 0 0, .string ⟨#[]⟩] 27)
  bel : Below w.heap.size w W0
  x : Bk W0 w.heap.size 27 zeroC
  y : Bk W0 (w.heap.size + 1) 27 zeroC
  t : Txt w a n cap l
  size : Calls Try.prog 25 #[.slice a n cap] W0 fun e w' => e = .returned (.int .i64 sz) ∧ W0 = w'
theorem rdSt (a : Option Addr) (n cap : Nat) (l : List UInt8) (w : World) (ht : Txt w a n cap l) : ∃ W0, RdSt w W0 a n cap l (vsz l) := by
  obtain ⟨W0, hW0⟩ : ∃ W0, W0 = (w.alloc (.cells zeroC.toArray 27)).alloc (.cells zeroC.toArray 27) := ⟨_, rfl⟩
  have hb0 : Below w.heap.size w W0 := by rw [hW0]; exact ((Below.refl _ w).alloc (Nat.le_refl _) _).alloc (by simp) _
  have ht0 := ht.below hb0 (Nat.le_refl _)
  exact ⟨W0, hW0, hb0, by rw [hW0]; exact (Bk.new w _ _).alloc _, by rw [hW0]; exact heap_alloc2_new w _ _, ht, valueSize_any a n cap l W0 ht0⟩
theorem RdSt.kind {w W0 : World} {a : Option Addr} {n cap : Nat} {l : List UInt8} {sz : Nat} (h : RdSt w W0 a n cap l sz) (kd : Int) : ∃ W1, W1 = W0.setCell ⟨w.heap.size + 1, 0, none⟩ (.int .i64 kd) ∧ Below w.heap.size w W1 ∧ Bk W1 w.heap.size 27 zeroC ∧ Bk W1 (w.heap.size + 1) 27 [.int .i64 kd, .int .i64 0, .float .f64 0, .complex .f64 0 0, .string ⟨#[]⟩] ∧ Txt W1 a n cap l := by
  have hb : Below w.heap.size w (W0.setCell ⟨w.heap.size + 1, 0, none⟩ (.int .i64 kd)) := h.bel.setCell (by simp) _
  exact ⟨_, rfl, hb, h.x.other (by omega) _ _, h.y.set 0 _, h.t.below hb (Nat.le_refl _)⟩
set_option maxHeartbeats 4000000 in
/-- fewer bytes than are wanted -/
theorem readValue_few (a : Option Addr) (n cap : Nat) (l : List UInt8) (w W0 : World) (sz : Nat) (h : RdSt w W0 a n cap l sz) (hsz : n < sz) (hs2 : sz ≤ 100000) : Calls Try.prog 7 #[.slice a n cap] w fun e w' => e = .returned (ansV none) ∧ Below w.heap.size w w' := by
  have H := Lib.hid h
  have d1 : decide ((n : Int) < (sz : Int)) = true := decide_eq_true (by omega)
  have d2 : decide (n < sz) = true := decide_eq_true (by omega)
  have HX := Lib.hid h.x
  have HB := Lib.hid h.bel
  have c0 := HX.out.c 0 rfl
  have c1 := HX.out.c 1 rfl
  have c2 := HX.out.c 2 rfl
  have c3 := HX.out.c 3 rfl
  have c4 := HX.out.c 4 rfl
  have fc0 := HX.out.fz 0
  have fc1 := HX.out.fz 1
  have fc2 := HX.out.fz 2
  have fc3 := HX.out.fz 3
  have fc4 := HX.out.fz 4
  have lc := HX.out.lt
  have sf : ∀ (p : Addr) (b : Nat) (mo : Mode) (w' : World), (store p (.float .f64 b) mo).run Try.prog w' = stored Try.prog w' p (.float .f64 b) mo := fun p b mo w' => run_store _ w' p _ mo rfl
  have sc : ∀ (p : Addr) (b c : Nat) (mo : Mode) (w' : World), (store p (.complex .f64 b c) mo).run Try.prog w' = stored Try.prog w' p (.complex .f64 b c) mo := fun p b c mo w' => run_store _ w' p _ mo rfl
  clear h hsz
  go_enter Try.func7, Try.ntmps7
  go_wp2_with fail
  refine wp_scope_fwd 0 rfl ?_
  go_wp2_with fail
  rw [← H.out.eq]
  refine H.out.size.mono ?_
  rintro e w' ⟨rfl, rfl⟩
  go_wp2_with fail
  try go_step3
  refine And.intro rfl ?_
  go_wp2_with fail
  rw [Exit.noGoto_ret]
  have Z := HX.out.put zeroC rfl
  simp only [zeroC, putL, Nat.reduceAdd] at Z
  have z0 := Z.c 0 rfl
  have z1 := Z.c 1 rfl
  have z2 := Z.c 2 rfl
  have z3 := Z.c 3 rfl
  have z4 := Z.c 4 rfl
  exact bodyPost_ret (v := .tuple #[valV 0 0 0 0 0 ⟨#[]⟩, .int .i64 0, .int .i64 110]) (by simp [results, Try.results7, go_sem, z0, z1, z2, z3, z4, valV]) rfl ⟨rfl, below_putL (g := w.heap.size) (Nat.le_refl _) zeroC 0 HB.out⟩
end Go.Proofs.Ytloofajopgbfmaa
