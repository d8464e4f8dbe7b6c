/- Wire: value.Plain of a plain value. -/
import Derived.Test.YtloofajopgbfmaaWjAdd3
import Derived.Test.YtloofajopgbfmaaWjMay
import Derived.Test.YtloofajopgbfmaaWjRdM
import Derived.Test.YtloofajopgbfmaaShelf
import Derived.Deep.RegionWith
set_option linter.all false
namespace Go.Proofs.Ytloofajopgbfmaa
open Go.RowKit Go.Shelf
set_option maxRecDepth 100000
set_option maxHeartbeats 1000000 in
theorem mathNaN_any (w : World) : Calls Try.prog 55 #[] w fun e w' => e = .returned (.float .f64 9221120237041090561) ∧ w = w' := by
  have h1 := f64from 9221120237041090561
  go_enter Try.func55, Try.ntmps55
  go_wp2
  go_ret
  exact ⟨rfl, rfl⟩
set_option maxHeartbeats 1000000 in
theorem plainReal_ok (b : Nat) (h : okR b = true) (w : World) : Calls Try.prog 43 #[.float .f64 b] w fun e w' => e = .returned (.float .f64 b) ∧ w = w' := by
  have HN := Lib.hid (fun W => isNaN_any b W)
  have HQ := Lib.hid (fun W => mathNaN_any W)
  have hb := okR_bits h
  unfold bitsW noneW at hb
  clear h
  cases hn : nanB b with
  | true =>
    rw [hn] at hb HN
    rw [if_pos rfl] at hb
    have HB := Lib.hid hb
    clear hb hn
    go_enter Try.func43, Try.ntmps43
    go_wp2_with (first | (go_at_call 54; (refine (HN.out _).mono ?_); rintro e w' ⟨rfl, rfl⟩) | (go_at_call 55; (refine (HQ.out _).mono ?_); rintro e w' ⟨rfl, rfl⟩))
    go_ret
    exact ⟨congrArg (fun b => Ending.returned (Value.float .f64 b)) HB.out, rfl⟩
  | false =>
    rw [hn] at HN
    clear hb hn
    go_enter Try.func43, Try.ntmps43
    go_wp2_with (first | (go_at_call 54; (refine (HN.out _).mono ?_); rintro e w' ⟨rfl, rfl⟩))
    go_ret
    exact ⟨rfl, rfl⟩
set_option maxHeartbeats 1000000 in
theorem sclone_any (t : ByteArray) (w : World) (h : t.size ≤ 256) : Calls Try.prog 44 #[.string t] w fun e w' => e = .returned (.string t) ∧ Below w.heap.size w w' := by
  have HC := Lib.hid (Try.stringslite_Clone t w (by omega))
  clear h
  go_enter Try.func44, Try.ntmps44
  go_wp2_with (go_at_call 56; refine HC.out.mono ?_; rintro e w1 ⟨rfl, hb1⟩; have HB := Lib.hid hb1; clear hb1)
  go_ret
  exact ⟨rfl, HB.out⟩
theorem plain_mayB {x : V9} (h : Plain9 x) : mayB x.kd x.iv ⟨x.tx.toArray⟩ = true := by
  unfold mayB
  have hl := h.len
  rcases h.kd with e | e | e | e
  · rw [if_pos (.inl e)]
  · rw [if_pos (.inr (.inl e))]
  · rw [if_pos (.inr (.inr e))]
  · rw [if_neg (by omega), if_pos e]
    exact decide_eq_true hl
/-- the two blocks of value.Plain -/
structure PnSt (w W0 : World) (cs : List Value) : Prop where
  eq : W0 = (w.alloc (.cells cs.toArray 27)).alloc (.cells #[.int .i64 0, .int .i64 0, .float .f64 0, .complex .f64 0 0, .string ⟨#[]⟩] 27)
  bel : Below w.heap.size w W0
  x : Bk W0 w.heap.size 27 cs
  y : Bk W0 (w.heap.size + 1) 27 [.int .i64 0, .int .i64 0, .float .f64 0, .complex .f64 0 0, .string ⟨#[]⟩]
theorem pnSt (w : World) (cs : List Value) : ∃ W0, PnSt w W0 cs := by
  refine ⟨_, rfl, ((Below.refl _ w).alloc (Nat.le_refl _) _).alloc (by simp) _, (Bk.new w _ _).alloc _, heap_alloc2_new w _ _⟩
set_option maxHeartbeats 4000000 in
theorem pln_int (iv : Int) (w : World)  : Calls Try.prog 21 #[.agg #[.int .i64 1, .int .i64 iv, .float .f64 0, .complex .f64 0 0, .string ⟨#[]⟩]] w fun e w' => e = .returned (.agg #[.int .i64 1, .int .i64 iv, .float .f64 0, .complex .f64 0 0, .string ⟨#[]⟩]) ∧ Below w.heap.size w w' := by
  have sf : ∀ (p : Addr) (b : Nat) (mo : Mode) (w' : World), (store p (.float .f64 b) mo).run Try.prog w' = stored Try.prog w' p (.float .f64 b) mo := fun p b mo w' => run_store _ w' p _ mo rfl
  have sc : ∀ (p : Addr) (b c : Nat) (mo : Mode) (w' : World), (store p (.complex .f64 b c) mo).run Try.prog w' = stored Try.prog w' p (.complex .f64 b c) mo := fun p b c mo w' => run_store _ w' p _ mo rfl
  obtain ⟨W0, hst⟩ := pnSt w [.int .i64 1, .int .i64 iv, .float .f64 0, .complex .f64 0 0, .string ⟨#[]⟩]
  have H := Lib.hid hst
  have hm := fun W => may_any 1 iv 0 0 0 ⟨#[]⟩ W
  rw [show mayB 1 iv ⟨#[]⟩ = true from rfl] at hm
  unfold valV at hm
  have HM := Lib.hid hm
  have v0 := hst.x.c 0 rfl
  have v1 := hst.x.c 1 rfl
  have v2 := hst.x.c 2 rfl
  have v3 := hst.x.c 3 rfl
  have v4 := hst.x.c 4 rfl
  clear hst hm
  go_enter Try.func21, Try.ntmps21
  go_upto_region 1 with (fail)
  rw [show (w.alloc (.cells #[.int .i64 1, .int .i64 iv, .float .f64 0, .complex .f64 0 0, .string ⟨#[]⟩] 27)).alloc (.cells #[.int .i64 0, .int .i64 0, .float .f64 0, .complex .f64 0 0, .string ⟨#[]⟩] 27) = W0 from H.out.eq.symm]
  go_upto_region 3 with (go_at_call 42; (with_reducible refine (HM.out _).mono ?_); rintro e w1 ⟨rfl, hb1⟩; have HB1 := Lib.hid (H.out.bel.trans (hb1.mono H.out.bel.size)); have HX1 := Lib.hid (H.out.x.keep hb1 H.out.x.lt); have HY1 := Lib.hid (H.out.y.keep hb1 H.out.y.lt); clear hb1)
  clear v0 v1 v2 v3 v4 HM
  have v0 := HX1.out.c 0 rfl
  have v1 := HX1.out.c 1 rfl
  have v2 := HX1.out.c 2 rfl
  have v3 := HX1.out.c 3 rfl
  have v4 := HX1.out.c 4 rfl
  have n0 := HY1.out.c 0 rfl
  have n1 := HY1.out.c 1 rfl
  have n2 := HY1.out.c 2 rfl
  have n3 := HY1.out.c 3 rfl
  have n4 := HY1.out.c 4 rfl
  have f0 := HY1.out.fz 0
  have f1 := HY1.out.fz 1
  have f2 := HY1.out.fz 2
  have f3 := HY1.out.fz 3
  have f4 := HY1.out.fz 4
  have hgr := HX1.out.lt
  have hgy := HY1.out.lt
  go_wp2_with fail
  have Z := HY1.out.put [.int .i64 1, .int .i64 iv, .float .f64 0, .complex .f64 0 0, .string ⟨#[]⟩] rfl
  simp only [putL, Nat.reduceAdd] at Z
  have z0 := Z.c 0 rfl
  have z1 := Z.c 1 rfl
  have z2 := Z.c 2 rfl
  have z3 := Z.c 3 rfl
  have z4 := Z.c 4 rfl
  exact bodyPost_ret (v := .agg #[.int .i64 1, .int .i64 iv, .float .f64 0, .complex .f64 0 0, .string ⟨#[]⟩]) (by simp [results, Try.results21, go_sem, z0, z1, z2, z3, z4]) rfl ⟨rfl, below_putL (g := w.heap.size + 1) (Nat.le_succ _) [.int .i64 1, .int .i64 iv, .float .f64 0, .complex .f64 0 0, .string ⟨#[]⟩] 0 HB1.out⟩
set_option maxHeartbeats 4000000 in
theorem pln_real (rl : Nat) (w : World) (hok : okR rl = true) : Calls Try.prog 21 #[.agg #[.int .i64 2, .int .i64 0, .float .f64 rl, .complex .f64 0 0, .string ⟨#[]⟩]] w fun e w' => e = .returned (.agg #[.int .i64 2, .int .i64 0, .float .f64 rl, .complex .f64 0 0, .string ⟨#[]⟩]) ∧ Below w.heap.size w w' := by
  have sf : ∀ (p : Addr) (b : Nat) (mo : Mode) (w' : World), (store p (.float .f64 b) mo).run Try.prog w' = stored Try.prog w' p (.float .f64 b) mo := fun p b mo w' => run_store _ w' p _ mo rfl
  have sc : ∀ (p : Addr) (b c : Nat) (mo : Mode) (w' : World), (store p (.complex .f64 b c) mo).run Try.prog w' = stored Try.prog w' p (.complex .f64 b c) mo := fun p b c mo w' => run_store _ w' p _ mo rfl
  obtain ⟨W0, hst⟩ := pnSt w [.int .i64 2, .int .i64 0, .float .f64 rl, .complex .f64 0 0, .string ⟨#[]⟩]
  have H := Lib.hid hst
  have hm := fun W => may_any 2 0 rl 0 0 ⟨#[]⟩ W
  rw [show mayB 2 0 ⟨#[]⟩ = true from rfl] at hm
  unfold valV at hm
  have HM := Lib.hid hm
  have v0 := hst.x.c 0 rfl
  have v1 := hst.x.c 1 rfl
  have v2 := hst.x.c 2 rfl
  have v3 := hst.x.c 3 rfl
  have v4 := hst.x.c 4 rfl
  have HP := Lib.hid (fun W => plainReal_ok rl hok W)
  clear hst hm
  go_enter Try.func21, Try.ntmps21
  go_upto_region 1 with (fail)
  rw [show (w.alloc (.cells #[.int .i64 2, .int .i64 0, .float .f64 rl, .complex .f64 0 0, .string ⟨#[]⟩] 27)).alloc (.cells #[.int .i64 0, .int .i64 0, .float .f64 0, .complex .f64 0 0, .string ⟨#[]⟩] 27) = W0 from H.out.eq.symm]
  go_upto_region 3 with (go_at_call 42; (with_reducible refine (HM.out _).mono ?_); rintro e w1 ⟨rfl, hb1⟩; have HB1 := Lib.hid (H.out.bel.trans (hb1.mono H.out.bel.size)); have HX1 := Lib.hid (H.out.x.keep hb1 H.out.x.lt); have HY1 := Lib.hid (H.out.y.keep hb1 H.out.y.lt); clear hb1)
  clear v0 v1 v2 v3 v4 HM
  have v0 := HX1.out.c 0 rfl
  have v1 := HX1.out.c 1 rfl
  have v2 := HX1.out.c 2 rfl
  have v3 := HX1.out.c 3 rfl
  have v4 := HX1.out.c 4 rfl
  have n0 := HY1.out.c 0 rfl
  have n1 := HY1.out.c 1 rfl
  have n2 := HY1.out.c 2 rfl
  have n3 := HY1.out.c 3 rfl
  have n4 := HY1.out.c 4 rfl
  have f0 := HY1.out.fz 0
  have f1 := HY1.out.fz 1
  have f2 := HY1.out.fz 2
  have f3 := HY1.out.fz 3
  have f4 := HY1.out.fz 4
  have hgr := HX1.out.lt
  have hgy := HY1.out.lt
  go_wp2_with (go_at_call 43; (refine (HP.out _).mono ?_); rintro e w' ⟨rfl, rfl⟩)
  have Z := HY1.out.put [.int .i64 2, .int .i64 0, .float .f64 rl, .complex .f64 0 0, .string ⟨#[]⟩] rfl
  simp only [putL, Nat.reduceAdd] at Z
  have z0 := Z.c 0 rfl
  have z1 := Z.c 1 rfl
  have z2 := Z.c 2 rfl
  have z3 := Z.c 3 rfl
  have z4 := Z.c 4 rfl
  exact bodyPost_ret (v := .agg #[.int .i64 2, .int .i64 0, .float .f64 rl, .complex .f64 0 0, .string ⟨#[]⟩]) (by simp [results, Try.results21, go_sem, z0, z1, z2, z3, z4]) rfl ⟨rfl, below_putL (g := w.heap.size + 1) (Nat.le_succ _) [.int .i64 2, .int .i64 0, .float .f64 rl, .complex .f64 0 0, .string ⟨#[]⟩] 0 HB1.out⟩
set_option maxHeartbeats 4000000 in
theorem pln_comp (re im : Nat) (w : World) (h1 : okR re = true) (h2 : okR im = true) : Calls Try.prog 21 #[.agg #[.int .i64 3, .int .i64 0, .float .f64 0, .complex .f64 re im, .string ⟨#[]⟩]] w fun e w' => e = .returned (.agg #[.int .i64 3, .int .i64 0, .float .f64 0, .complex .f64 re im, .string ⟨#[]⟩]) ∧ Below w.heap.size w w' := by
  have sf : ∀ (p : Addr) (b : Nat) (mo : Mode) (w' : World), (store p (.float .f64 b) mo).run Try.prog w' = stored Try.prog w' p (.float .f64 b) mo := fun p b mo w' => run_store _ w' p _ mo rfl
  have sc : ∀ (p : Addr) (b c : Nat) (mo : Mode) (w' : World), (store p (.complex .f64 b c) mo).run Try.prog w' = stored Try.prog w' p (.complex .f64 b c) mo := fun p b c mo w' => run_store _ w' p _ mo rfl
  obtain ⟨W0, hst⟩ := pnSt w [.int .i64 3, .int .i64 0, .float .f64 0, .complex .f64 re im, .string ⟨#[]⟩]
  have H := Lib.hid hst
  have hm := fun W => may_any 3 0 0 re im ⟨#[]⟩ W
  rw [show mayB 3 0 ⟨#[]⟩ = true from rfl] at hm
  unfold valV at hm
  have HM := Lib.hid hm
  have v0 := hst.x.c 0 rfl
  have v1 := hst.x.c 1 rfl
  have v2 := hst.x.c 2 rfl
  have v3 := hst.x.c 3 rfl
  have v4 := hst.x.c 4 rfl
  have HP := Lib.hid (fun W => plainReal_ok re h1 W)
  have HQ := Lib.hid (fun W => plainReal_ok im h2 W)
  clear h1 h2
  clear hst hm
  go_enter Try.func21, Try.ntmps21
  go_upto_region 1 with (fail)
  rw [show (w.alloc (.cells #[.int .i64 3, .int .i64 0, .float .f64 0, .complex .f64 re im, .string ⟨#[]⟩] 27)).alloc (.cells #[.int .i64 0, .int .i64 0, .float .f64 0, .complex .f64 0 0, .string ⟨#[]⟩] 27) = W0 from H.out.eq.symm]
  go_upto_region 3 with (go_at_call 42; (with_reducible refine (HM.out _).mono ?_); rintro e w1 ⟨rfl, hb1⟩; have HB1 := Lib.hid (H.out.bel.trans (hb1.mono H.out.bel.size)); have HX1 := Lib.hid (H.out.x.keep hb1 H.out.x.lt); have HY1 := Lib.hid (H.out.y.keep hb1 H.out.y.lt); clear hb1)
  clear v0 v1 v2 v3 v4 HM
  have v0 := HX1.out.c 0 rfl
  have v1 := HX1.out.c 1 rfl
  have v2 := HX1.out.c 2 rfl
  have v3 := HX1.out.c 3 rfl
  have v4 := HX1.out.c 4 rfl
  have n0 := HY1.out.c 0 rfl
  have n1 := HY1.out.c 1 rfl
  have n2 := HY1.out.c 2 rfl
  have n3 := HY1.out.c 3 rfl
  have n4 := HY1.out.c 4 rfl
  have f0 := HY1.out.fz 0
  have f1 := HY1.out.fz 1
  have f2 := HY1.out.fz 2
  have f3 := HY1.out.fz 3
  have f4 := HY1.out.fz 4
  have hgr := HX1.out.lt
  have hgy := HY1.out.lt
  go_upto_region 7 with (fail)
  have Z := HY1.out.put [.int .i64 3, .int .i64 0, .float .f64 0, .complex .f64 re im, .string ⟨#[]⟩] rfl
  simp only [putL, Nat.reduceAdd] at Z
  have BZ := below_putL (g := w.heap.size + 1) (Nat.le_succ _) [.int .i64 3, .int .i64 0, .float .f64 0, .complex .f64 re im, .string ⟨#[]⟩] 0 HB1.out
  simp only [putL, Nat.reduceAdd] at BZ
  have HZ1 := Lib.hid (Z.keep (drew_below _) Z.lt)
  have HZ2 := Lib.hid BZ.drew
  clear v0 v1 v2 v4 Z BZ
  go_cut [] (fun wx => Hid (Bk wx (w.heap.size + 1) 27 [.int .i64 3, .int .i64 0, .float .f64 0, .complex .f64 re im, .string ⟨#[]⟩]) ∧ Hid (Below w.heap.size w wx))
  case first =>
    go_region_with (first | (go_at_call_of 43 (Value.float .f64 re); (refine (HP.out _).mono ?_); rintro e w' ⟨rfl, rfl⟩) | (go_at_call_of 43 (Value.float .f64 im); (refine (HQ.out _).mono ?_); rintro e w' ⟨rfl, rfl⟩))
    all_goals
      go_wp2_with fail
      go_meet
      exact ⟨HZ1, HZ2⟩
  obtain ⟨HZ3, HZ4⟩ := hcut
  clear v3 n0 n1 n2 n3 n4 f0 f1 f2 f3 f4 hgr hgy HZ1 HZ2
  go_wp2_with fail
  have z0 := HZ3.out.c 0 rfl
  have z1 := HZ3.out.c 1 rfl
  have z2 := HZ3.out.c 2 rfl
  have z3 := HZ3.out.c 3 rfl
  have z4 := HZ3.out.c 4 rfl
  exact bodyPost_ret (v := .agg #[.int .i64 3, .int .i64 0, .float .f64 0, .complex .f64 re im, .string ⟨#[]⟩]) (by simp [results, Try.results21, go_sem, z0, z1, z2, z3, z4]) rfl ⟨rfl, HZ4.out⟩
set_option maxHeartbeats 4000000 in
theorem pln_text (s : ByteArray) (w : World) (hs : s.size ≤ 256) : Calls Try.prog 21 #[.agg #[.int .i64 4, .int .i64 0, .float .f64 0, .complex .f64 0 0, .string s]] w fun e w' => e = .returned (.agg #[.int .i64 4, .int .i64 0, .float .f64 0, .complex .f64 0 0, .string s]) ∧ Below w.heap.size w w' := by
  have sf : ∀ (p : Addr) (b : Nat) (mo : Mode) (w' : World), (store p (.float .f64 b) mo).run Try.prog w' = stored Try.prog w' p (.float .f64 b) mo := fun p b mo w' => run_store _ w' p _ mo rfl
  have sc : ∀ (p : Addr) (b c : Nat) (mo : Mode) (w' : World), (store p (.complex .f64 b c) mo).run Try.prog w' = stored Try.prog w' p (.complex .f64 b c) mo := fun p b c mo w' => run_store _ w' p _ mo rfl
  obtain ⟨W0, hst⟩ := pnSt w [.int .i64 4, .int .i64 0, .float .f64 0, .complex .f64 0 0, .string s]
  have H := Lib.hid hst
  have hm := fun W => may_any 4 0 0 0 0 s W
  rw [show mayB 4 0 s = true from decide_eq_true hs] at hm
  unfold valV at hm
  have HM := Lib.hid hm
  have v0 := hst.x.c 0 rfl
  have v1 := hst.x.c 1 rfl
  have v2 := hst.x.c 2 rfl
  have v3 := hst.x.c 3 rfl
  have v4 := hst.x.c 4 rfl
  have HC := Lib.hid (fun W => sclone_any s W hs)
  clear hst hm
  go_enter Try.func21, Try.ntmps21
  go_upto_region 1 with (fail)
  rw [show (w.alloc (.cells #[.int .i64 4, .int .i64 0, .float .f64 0, .complex .f64 0 0, .string s] 27)).alloc (.cells #[.int .i64 0, .int .i64 0, .float .f64 0, .complex .f64 0 0, .string ⟨#[]⟩] 27) = W0 from H.out.eq.symm]
  go_upto_region 3 with (go_at_call 42; (with_reducible refine (HM.out _).mono ?_); rintro e w1 ⟨rfl, hb1⟩; have HB1 := Lib.hid (H.out.bel.trans (hb1.mono H.out.bel.size)); have HX1 := Lib.hid (H.out.x.keep hb1 H.out.x.lt); have HY1 := Lib.hid (H.out.y.keep hb1 H.out.y.lt); clear hb1)
  clear v0 v1 v2 v3 v4 HM
  have v0 := HX1.out.c 0 rfl
  have v1 := HX1.out.c 1 rfl
  have v2 := HX1.out.c 2 rfl
  have v3 := HX1.out.c 3 rfl
  have v4 := HX1.out.c 4 rfl
  have n0 := HY1.out.c 0 rfl
  have n1 := HY1.out.c 1 rfl
  have n2 := HY1.out.c 2 rfl
  have n3 := HY1.out.c 3 rfl
  have n4 := HY1.out.c 4 rfl
  have f0 := HY1.out.fz 0
  have f1 := HY1.out.fz 1
  have f2 := HY1.out.fz 2
  have f3 := HY1.out.fz 3
  have f4 := HY1.out.fz 4
  have hgr := HX1.out.lt
  have hgy := HY1.out.lt
  clear n0 n1 n2 n3 n4 f0 f1 f2 f3 f4
  go_wp2_with (go_at_call 44; refine (HC.out _).mono ?_; rintro e w2 ⟨rfl, hb2⟩; have HB2 := Lib.hid (HB1.out.trans (hb2.mono HB1.out.size)); have HY2 := Lib.hid (HY1.out.keep hb2 HY1.out.lt); clear hb2; have n0 := HY2.out.c 0 rfl; have n1 := HY2.out.c 1 rfl; have n2 := HY2.out.c 2 rfl; have n3 := HY2.out.c 3 rfl; have n4 := HY2.out.c 4 rfl; have f0 := HY2.out.fz 0; have f1 := HY2.out.fz 1; have f2 := HY2.out.fz 2; have f3 := HY2.out.fz 3; have f4 := HY2.out.fz 4; have hgz := HY2.out.lt)
  have Z := HY2.out.put [.int .i64 4, .int .i64 0, .float .f64 0, .complex .f64 0 0, .string s] rfl
  simp only [putL, Nat.reduceAdd] at Z
  have z0 := Z.c 0 rfl
  have z1 := Z.c 1 rfl
  have z2 := Z.c 2 rfl
  have z3 := Z.c 3 rfl
  have z4 := Z.c 4 rfl
  exact bodyPost_ret (v := .agg #[.int .i64 4, .int .i64 0, .float .f64 0, .complex .f64 0 0, .string s]) (by simp [results, Try.results21, go_sem, z0, z1, z2, z3, z4]) rfl ⟨rfl, below_putL (g := w.heap.size + 1) (Nat.le_succ _) [.int .i64 4, .int .i64 0, .float .f64 0, .complex .f64 0 0, .string s] 0 HB2.out⟩
theorem vplain_any (x : V9) (hp : Plain9 x) (w : World) : Calls Try.prog 21 #[fVal9 x] w fun e w' => e = .returned (fVal9 x) ∧ Below w.heap.size w w' := by
  have h1 := hp.iv
  have h2 := hp.rl
  have h3 := hp.re
  have h4 := hp.tx
  have ho := hp.ok
  have hl := hp.len
  have hk := hp.kd
  obtain ⟨kd, iv, rl, re, im, tx⟩ := x
  simp only at h1 h2 h3 h4 ho hl hk
  unfold fVal9
  simp only
  rcases hk with rfl | rfl | rfl | rfl
  · obtain rfl := h2 (by decide)
    obtain ⟨rfl, rfl⟩ := h3 (by decide)
    obtain rfl := h4 (by decide)
    exact pln_int iv w
  · obtain rfl := h1 (by decide)
    obtain ⟨rfl, rfl⟩ := h3 (by decide)
    obtain rfl := h4 (by decide)
    exact pln_real rl w ho.1
  · obtain rfl := h1 (by decide)
    obtain rfl := h2 (by decide)
    obtain rfl := h4 (by decide)
    exact pln_comp re im w ho.2.1 ho.2.2
  · obtain rfl := h1 (by decide)
    obtain rfl := h2 (by decide)
    obtain ⟨rfl, rfl⟩ := h3 (by decide)
    exact pln_text _ w hl
end Go.Proofs.Ytloofajopgbfmaa
