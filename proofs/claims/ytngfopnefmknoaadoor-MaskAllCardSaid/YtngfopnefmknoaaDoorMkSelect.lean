/- Masks: Select and Numbers: a sequence gone over. -/
import Derived.Test.YtngfopnefmknoaaDoorMkEach
import Derived.OwnWalkIn
set_option linter.all false
namespace Go.Proofs.YtngfopnefmknoaaDoor
open Go.RowKit Go.Shelf
attribute [local go_sem] Oper.semAt_some
set_option maxRecDepth 100000
abbrev kAt (k : Int) (n : Nat) : Int := IntKind.i64.wrap (k - (n : Int))
theorem kAt_next (k : Int) (n : Nat) : IntKind.i64.wrap (kAt k n - 1) = kAt k (n + 1) := by
  unfold kAt
  simp only [IntKind.wrap_i64]
  omega
theorem kAt_zero {k : Int} {n : Nat} (hk : In k) (hn : n ≤ 64) : (kAt k n == 0) = decide (k = (n : Int)) := by
  unfold kAt
  rw [IntKind.wrap_i64, Bool.eq_iff_iff, beq_iff_eq, decide_eq_true_eq]
  omega
theorem kAt_start {k : Int} (hk : In k) : kAt k 0 = k := by
  unfold kAt
  rw [IntKind.wrap_i64]
  omega
/-- what stands between the rounds -/
structure Se (P : Nat) (m : Nat) (k : Int) (n : Nat) (W : World) : Prop where
  kb : Boxed W P 3 (.int .i64 (kAt k n))
  r0 : Boxed W (P + 1) 3 (.int .i64 0)
  r1 : Boxed W (P + 1 + 1) 4 (.bool false)
  cap : Boxed W (P + 3) 23 (.int .u64 (m : Int))
  glob : GlobM W
theorem Se.below {P m : Nat} {k : Int} {n : Nat} {W W' : World} (h : Se P m k n W) (hb : Below W.heap.size W W') : Se P m k n W' :=
  ⟨boxed_below h.kb hb, boxed_below h.r0 hb, boxed_below h.r1 hb, boxed_below h.cap hb, globM_below h.glob hb (Nat.le_refl _)⟩
theorem globM_below2 {w w' : World} {B : Nat} (h : GlobM w) (hg : ∀ g, (Tryd.prog).globalNamed "math/bits.deBruijn64tab" = some g → g < B) (hb : Below B w w') : GlobM w' := by
  unfold GlobM Lib.TabIs World.var? at h ⊢
  cases hg' : (Tryd.prog).globalNamed "math/bits.deBruijn64tab" with
  | none => rw [hg'] at h; simp at h
  | some g =>
    rw [hg'] at h
    simp only [Option.bind_some] at h ⊢
    rw [hb.block g (hg g hg')]
    exact h
theorem globM_lt {w : World} (h : GlobM w) : ∀ g, (Tryd.prog).globalNamed "math/bits.deBruijn64tab" = some g → g < w.heap.size := by
  intro g hg
  unfold GlobM Lib.TabIs World.var? at h
  rw [hg] at h
  simp only [Option.bind_some] at h
  rcases Nat.lt_or_ge g w.heap.size with h' | h'
  · exact h'
  · rw [Array.getElem?_eq_none h'] at h; cases h
theorem Se.kc {P m : Nat} {k : Int} {n : Nat} {W W' : World} (h : Se P m k n W) (hk : KC W W') (hg : GlobM W') : Se P m k n W' := ⟨hk _ _ _ _ h.kb, hk _ _ _ _ h.r0, hk _ _ _ _ h.r1, hk _ _ _ _ h.cap, hg⟩
def SelP (r : Option Nat) (w : World) (e : Ending) (w' : World) : Prop := e = .returned (optV r) ∧ Below w.heap.size w w'
set_option maxHeartbeats 4000000 in
theorem select_in (n : Nat) {m : Nat} (hm : Wd m) (k : Int) (hk : In k) (w : World) (hG : GlobM w) (hn : 4 ≤ n) : CallsIn Fence.wide n Tryd.prog 9 #[.int .u64 (m : Int), .int .i64 k] w (SelP (selF m.testBit k) w) := by
  have h1 : 1 ≤ n := by omega
  obtain ⟨P, hP⟩ : ∃ P, P = w.heap.size := ⟨_, rfl⟩
  obtain ⟨w1, hw1⟩ : ∃ w1, w1 = w.alloc (.cells #[.int .i64 k] 3) := ⟨_, rfl⟩
  obtain ⟨w2, hw2⟩ : ∃ w2, w2 = w1.alloc (.cells #[.int .i64 0] 3) := ⟨_, rfl⟩
  obtain ⟨w3, hw3⟩ : ∃ w3, w3 = w2.alloc (.cells #[.bool false] 4) := ⟨_, rfl⟩
  have z1 : w1.heap.size = P + 1 := by rw [hw1, hP]; simp
  have z2 : w2.heap.size = P + 2 := by rw [hw2, World.size_alloc, z1]
  have z3 : w3.heap.size = P + 3 := by rw [hw3, World.size_alloc, z2]
  have b1 : Boxed w3 P 3 (.int .i64 k) := by rw [hw3, hw2, hw1, hP]; exact ((Boxed.new w _ _).alloc _).alloc _
  have b2 : Boxed w3 (P + 1) 3 (.int .i64 0) := by rw [hw3, hw2, ← z1]; exact (Boxed.new w1 _ _).alloc _
  have b3 : Boxed w3 (P + 2) 4 (.bool false) := by rw [hw3, ← z2]; exact Boxed.new w2 _ _
  have hb3 : Below w.heap.size w w3 := by rw [hw3, hw2, hw1]; exact (((Below.refl _ w).alloc (Nat.le_refl _) _).alloc (by simp) _).alloc (by simp; omega) _
  have hE3 : ((w.alloc (.cells #[.int .i64 k] 3)).alloc (.cells #[.int .i64 0] 3)).alloc (.cells #[.bool false] 4) = w3 := by rw [hw3, hw2, hw1]
  obtain ⟨W6, hW6⟩ : ∃ W6, W6 = w3.alloc (.cells #[.int .u64 (m : Int)] 23) := ⟨_, rfl⟩
  have hb6 : Below w3.heap.size w3 W6 := by rw [hW6]; exact (Below.refl _ w3).alloc (Nat.le_refl _) _
  have HSE := Lib.hid (show Se P m k 0 W6 from ⟨by rw [kAt_start hk]; exact boxed_below b1 hb6, boxed_below b2 hb6, boxed_below b3 hb6, by rw [hW6, ← z3]; exact Boxed.new w3 _ _, globM_below (globM_below hG hb3 (Nat.le_refl _)) hb6 (Nat.le_refl _)⟩)
  have HB6 := Lib.hid (hb3.trans (hb6.mono hb3.size))
  have HE3 := Lib.hid hE3
  have HE6 := Lib.hid hW6
  have HP := Lib.hid hP
  have HZ3 := Lib.hid z3
  have HZ6 := Lib.hid (show W6.heap.size = P + 4 by rw [hW6, World.size_alloc, z3])
  have HM := Lib.hid hm
  have HK := Lib.hid hk
  have HGL := Lib.hid (globM_lt hG)
  have HSZ := Lib.hid z1
  clear hW6 hE3 hb3 b1 b2 b3 hw1 hw2 hw3 z1 z2 z3 hb6 hP hm hG hk
  refine callsIn_of_wp_marks Tryd.func9 rfl trivial ?_ rfl
  simp only [Tryd.ntmps9, List.size_toArray, List.length_cons, List.length_nil, Nat.reduceAdd, Nat.reduceSub, Array.replicate_succ, Array.replicate_zero, List.push_toArray, List.append_toArray, List.nil_append, List.cons_append]
  gi_wp2_with fail
  rw [HE3.out]
  refine ⟨trivial, ?_⟩
  refine (callsIn_wide.2 (each_any m w3)).mono ?_
  rintro e w4 ⟨rfl, rfl⟩
  rw [← HE6.out, HZ3.out]
  gi_wp2_with fail
  rw [← HP.out]
  refine lp_range2 rfl h1 (gf := 41) (lb := #[.pointer (some ⟨P + 3, 0, none⟩)]) rfl trivial (enters_of Tryd.func41 (by kernel_rfl) rfl) ?_
  intro fn rc hfn hrc W1 hlp hb1 hz1
  refine CallsIn.mono (each1_any (n - 1) (P + 3) m HM.out (W6.heap.size + 1)
    (fun l W => Lp rc W6.heap.size .ready none W ∧ (k < 0 ∨ (l.length : Int) ≤ k) ∧ Se P m k l.length W ∧ Below w.heap.size w W)
    (fun _ W => ∃ x, selF m.testBit k = some x ∧ Lp rc W6.heap.size .done (some .ret) W ∧ Boxed W (P + 1) 3 (.int .i64 (x : Int)) ∧ Boxed W (P + 1 + 1) 4 (.bool true) ∧ Below w.heap.size w W)
    W1 (by omega) ?hS ?hY ?h0) ?hfin
  case hS => exact fun l A h => ⟨h.2.2.1.cap, h.2.2.1.glob⟩
  case h0 => exact ⟨hlp, by simp; omega, HSE.out.below hb1, HB6.out.trans (hb1.mono HB6.out.size)⟩
  case hfin =>
    rintro e W9 ⟨hv, ⟨a1, a2, a3, a4⟩ | ⟨x0, hx0, hx1, x, a1, a2, a3, a4, a5⟩⟩
    · refine ⟨hv, .inl ⟨a1, ?_⟩⟩
      rw [nums_len] at a2
      have hsel : selF m.testBit k = none := sel_none fun i hi hf => by have := cntF_lt m.testBit hi hf; omega
      have hp := a1.put (st' := .exhausted) (j' := none)
      obtain ⟨WA, hWA⟩ : ∃ WA, WA = W9.putObj (W6.heap.size + 1) (.loop (rc .exhausted none)) := ⟨_, rfl⟩
      have hbA : Below w.heap.size W9 WA := by rw [hWA]; exact below_put (by have := HZ6.out; have := HP.out; omega) a1.rcd
      have HSA := Lib.hid (show Se P m k (numsF m.testBit 64).length WA by rw [hWA]; exact a3.kc (KC.put _ a1.rcd) (by rw [← hWA]; exact globM_below2 a3.glob HGL.out hbA))
      rw [← hWA] at hp ⊢
      have HDA := Lib.hid hp.dfr
      have HBA := Lib.hid (a4.trans hbA)
      have HSEL := Lib.hid hsel
      clear hp hWA hbA a1 a2 a3 a4 hsel hlp hrc hb1 hz1
      have f0 := HSA.out.r0.frozen
      have f1 := HSA.out.r1.frozen
      have c0 := HSA.out.r0.cell
      have c1 := HSA.out.r1.cell
      gi_wp2_with fail
      obtain ⟨V, hV⟩ : ∃ V, V = (WA.setCell ⟨P + 1, 0, none⟩ (.int .i64 0)).setCell ⟨P + 1 + 1, 0, none⟩ (.bool false) := ⟨_, rfl⟩
      have v0 : Boxed V (P + 1) 3 (.int .i64 0) := by rw [hV]; exact boxed_other (HSA.out.r0.set _) (by omega) _
      have v1 : Boxed V (P + 1 + 1) 4 (.bool false) := by rw [hV]; exact (boxed_other HSA.out.r1 (by omega) _).set _
      have hd : V.heap[W6.heap.size]? = some (.deferred (some [])) := by
        rw [hV]
        exact (heap_setCell_other _ ⟨P + 1 + 1, 0, none⟩ _ _ (by show W6.heap.size ≠ P + 1 + 1; have := HZ6.out; omega)).trans ((heap_setCell_other _ ⟨P + 1, 0, none⟩ _ _ (by show W6.heap.size ≠ P + 1; have := HZ6.out; omega)).trans HDA.out)
      have hbV : Below w.heap.size w V := by
        rw [hV]
        exact (HBA.out.setCell (p := ⟨P + 1, 0, none⟩) (by show w.heap.size ≤ P + 1; have := HP.out; omega) _).setCell (p := ⟨P + 1 + 1, 0, none⟩) (by show w.heap.size ≤ P + 1 + 1; have := HP.out; omega) _
      rw [← hV]
      have hbE : Below w.heap.size w (V.putObj W6.heap.size (.deferred none)) := hbV.trans (below_put (by have := HZ6.out; have := HP.out; omega) hd)
      have u0 := Boxed.cell (show Boxed (V.putObj W6.heap.size (.deferred none)) (P + 1) 3 (.int .i64 0) from (World.putObj_heap_other (by have := HZ6.out; omega)).trans v0)
      have u1 := Boxed.cell (show Boxed (V.putObj W6.heap.size (.deferred none)) (P + 1 + 1) 4 (.bool false) from (World.putObj_heap_other (by have := HZ6.out; omega)).trans v1)
      refine ⟨by simp, .inl ⟨_, _, rfl, run_takeDeferred hd, ?_⟩⟩
      refine ⟨optV none, ?_, by rw [HSEL.out], hbE⟩
      simp [results, Tryd.f9, go_sem, u0, u1]
    · refine ⟨hv, .inr ⟨_, a2, wpIn_ret ?_⟩⟩
      have hp := a2.put (st' := .exhausted) (j' := some .ret)
      obtain ⟨WA, hWA⟩ : ∃ WA, WA = W9.putObj (W6.heap.size + 1) (.loop (rc .exhausted (some .ret))) := ⟨_, rfl⟩
      have hbA : Below w.heap.size W9 WA := by rw [hWA]; exact below_put (by have := HZ6.out; have := HP.out; omega) a2.rcd
      rw [← hWA] at hp ⊢
      have v0 : Boxed WA (P + 1) 3 (.int .i64 (x : Int)) := by rw [hWA]; exact KC.put _ a2.rcd _ _ _ _ a3
      have v1 : Boxed WA (P + 1 + 1) 4 (.bool true) := by rw [hWA]; exact KC.put _ a2.rcd _ _ _ _ a4
      have hd := hp.dfr
      have hbE : Below w.heap.size w (WA.putObj W6.heap.size (.deferred none)) := (a5.trans hbA).trans (below_put (by have := HZ6.out; have := HP.out; omega) hd)
      have u0 := Boxed.cell (show Boxed (WA.putObj W6.heap.size (.deferred none)) (P + 1) 3 (.int .i64 (x : Int)) from (World.putObj_heap_other (by have := HZ6.out; omega)).trans v0)
      have u1 := Boxed.cell (show Boxed (WA.putObj W6.heap.size (.deferred none)) (P + 1 + 1) 4 (.bool true) from (World.putObj_heap_other (by have := HZ6.out; omega)).trans v1)
      refine ⟨by simp, .inl ⟨_, _, rfl, run_takeDeferred hd, ?_⟩⟩
      refine ⟨optV (some x), ?_, by rw [a1], hbE⟩
      simp [results, Tryd.f9, go_sem, u0, u1]
  case hY =>
    rintro x W2 hx64 hxb ⟨j1, j2, j3, j4⟩
    refine lp_yield2 hrc hfn j1 rfl ?_
    clear hrc
    have hln : (numsF m.testBit x).length = cntF m.testBit x := nums_len _ _
    rw [hln] at j2 j3
    have HL2 := Lib.hid j1
    have HJ2 := Lib.hid j3
    have HB2 := Lib.hid j4
    have HC := Lib.hid (show cntF m.testBit x ≤ 64 by have := cntF_le m.testBit x; omega)
    have HX := Lib.hid (And.intro hx64 hxb)
    clear j1 j3 j4 hlp hb1 hz1 hln hx64 hxb
    gi_wp2_with fail
    refine ⟨HL2.out, ?_⟩
    obtain ⟨W4, hW4⟩ : ∃ W4, W4 = W2.putObj (W6.heap.size + 1) (.loop (rc .busy none)) := ⟨_, rfl⟩
    have hp := HL2.out.put (st' := .busy) (j' := none)
    rw [← hW4] at hp
    have HL4 := Lib.hid hp
    have hb24 : Below w.heap.size W2 W4 := by rw [hW4]; exact below_put (by have := HZ6.out; have := HP.out; omega) HL2.out.rcd
    have HJ4 := Lib.hid (show Se P m k (cntF m.testBit x) W4 by rw [hW4]; exact HJ2.out.kc (KC.put _ HL2.out.rcd) (by rw [← hW4]; exact globM_below2 HJ2.out.glob HGL.out hb24))
    have HB4 := Lib.hid (HB2.out.trans hb24)
    rw [← hW4]
    clear hp hW4 HL2 HJ2 HB2 hb24
    have c1 := HJ4.out.kb.cell
    have f1 := HJ4.out.kb.frozen
    have HZT := Lib.hid (kAt_zero HK.out HC.out)
    have HNX := Lib.hid (kAt_next k (cntF m.testBit x))
    obtain ⟨q, hq⟩ : ∃ q, q = kAt k (cntF m.testBit x) := ⟨_, rfl⟩
    rw [← hq] at c1 HZT HNX
    clear hq
    by_cases he : k = (cntF m.testBit x : Int)
    · have t0 : (q == 0) = true := by rw [HZT.out, decide_eq_true he]
      have HSEL := Lib.hid (show selF m.testBit k = some x from sel_some HX.out.1 HX.out.2 he.symm)
      have c2 := HJ4.out.r0.cell
      have f2 := HJ4.out.r0.frozen
      have c3 := HJ4.out.r1.cell
      have f3 := HJ4.out.r1.frozen
      clear he
      gi_wp2_with fail
      obtain ⟨V, hV⟩ : ∃ V, V = (W4.setCell ⟨P + 1, 0, none⟩ (.int .i64 (x : Int))).setCell ⟨P + 1 + 1, 0, none⟩ (.bool true) := ⟨_, rfl⟩
      have v0 : Boxed V (P + 1) 3 (.int .i64 (x : Int)) := by rw [hV]; exact boxed_other (HJ4.out.r0.set _) (by omega) _
      have v1 : Boxed V (P + 1 + 1) 4 (.bool true) := by rw [hV]; exact (boxed_other HJ4.out.r1 (by omega) _).set _
      have hl : Lp rc W6.heap.size .busy none V := by rw [hV]; exact (HL4.out.other (by have := HZ6.out; omega) _).other (by have := HZ6.out; omega) _
      have hbV : Below w.heap.size w V := by
        rw [hV]
        exact (HB4.out.setCell (p := ⟨P + 1, 0, none⟩) (by show w.heap.size ≤ P + 1; have := HP.out; omega) _).setCell (p := ⟨P + 1 + 1, 0, none⟩) (by show w.heap.size ≤ P + 1 + 1; have := HP.out; omega) _
      rw [← hV]
      refine ⟨hl, .inr ⟨rfl, x, HSEL.out, hl.put, KC.put _ hl.rcd _ _ _ _ v0, KC.put _ hl.rcd _ _ _ _ v1, hbV.trans (below_put (by have := HZ6.out; have := HP.out; omega) hl.rcd)⟩⟩
    · have t0 : (q == 0) = false := by rw [HZT.out, decide_eq_false he]
      have HE := Lib.hid he
      obtain ⟨q2, hq2⟩ : ∃ q2, q2 = kAt k (cntF m.testBit x + 1) := ⟨_, rfl⟩
      have hw := HNX.out
      rw [← hq2] at hw
      have HQ := Lib.hid hq2
      clear he hq2
      gi_wp2_with fail
      obtain ⟨V, hV⟩ : ∃ V, V = W4.setCell ⟨P, 0, none⟩ (.int .i64 q2) := ⟨_, rfl⟩
      have hl : Lp rc W6.heap.size .busy none V := by rw [hV]; exact HL4.out.other (by have := HZ6.out; omega) _
      have hse : Se P m k (cntF m.testBit x + 1) V := by
        rw [hV]
        exact ⟨by rw [← HQ.out]; exact HJ4.out.kb.set _, boxed_other HJ4.out.r0 (by omega) _, boxed_other HJ4.out.r1 (by omega) _, boxed_other HJ4.out.cap (by omega) _, globM_below2 HJ4.out.glob HGL.out ((Below.refl _ W4).setCell (p := ⟨P, 0, none⟩) (by show w.heap.size ≤ P; have := HP.out; omega) _)⟩
      have hbV : Below w.heap.size w V := by rw [hV]; exact HB4.out.setCell (p := ⟨P, 0, none⟩) (by show w.heap.size ≤ P; have := HP.out; omega) _
      rw [← hV]
      have hlen : (numsF m.testBit (x + 1)).length = cntF m.testBit x + 1 := by rw [nums_len, cntF, HX.out.2]; rfl
      have hbW := below_put (B := w.heap.size) (o' := .loop (rc .ready none)) (by have := HZ6.out; have := HP.out; omega) hl.rcd
      refine ⟨hl, .inl ⟨rfl, hl.put, by rw [hlen]; have := HE.out; omega, by rw [hlen]; exact hse.kc (KC.put _ hl.rcd) (globM_below2 hse.glob HGL.out hbW), hbV.trans hbW⟩⟩
theorem select_any {m : Nat} (hm : Wd m) (k : Int) (hk : In k) (w : World) (hG : GlobM w) : Calls Tryd.prog 9 #[.int .u64 (m : Int), .int .i64 k] w (SelP (selF m.testBit k) w) :=
  (callsIn_wide (n := 4)).1 (select_in 4 hm k hk w hG (Nat.le_refl _))
end Go.Proofs.YtngfopnefmknoaaDoor
