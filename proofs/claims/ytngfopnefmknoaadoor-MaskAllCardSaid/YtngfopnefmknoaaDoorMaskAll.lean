/- MaskAll: the walk: the subsets. -/
import Derived.Test.YtngfopnefmknoaaDoorMkAwake
import Derived.Test.YtngfopnefmknoaaDoorMkFixed2
import Derived.Test.YtngfopnefmknoaaDoorMkSubs2
import Derived.Test.YtngfopnefmknoaaDoorMkGrow
import Derived.Deep.RegionHeld3
set_option linter.all false
namespace Go.Proofs.YtngfopnefmknoaaDoor
open Go.RowKit Go.Shelf
attribute [local go_sem] Oper.semAt_some
set_option maxRecDepth 100000
/-- what stands between the rounds: the answer, the mask, how many, the last one, the sequence's mask -/
structure Sa (P q m k l : Nat) (W : World) : Prop where
  res : Boxed W P 4 (.bool false)
  mb : Boxed W q 23 (.int .u64 (m : Int))
  nb : Boxed W (q + 1) 3 (.int .i64 (k : Int))
  lb : Boxed W (q + 1 + 1) 23 (.int .u64 (l : Int))
  cap : Boxed W (q + 3) 23 (.int .u64 (m : Int))
  lt : P < q
theorem Sa.below {P q m k l : Nat} {W W' : World} (h : Sa P q m k l W) (hb : Below W.heap.size W W') : Sa P q m k l W' :=
  ⟨boxed_below h.res hb, boxed_below h.mb hb, boxed_below h.nb hb, boxed_below h.lb hb, boxed_below h.cap hb, h.lt⟩
theorem Sa.kc {P q m k l : Nat} {W W' : World} (h : Sa P q m k l W) (hk : KC W W') : Sa P q m k l W' :=
  ⟨hk _ _ _ _ h.res, hk _ _ _ _ h.mb, hk _ _ _ _ h.nb, hk _ _ _ _ h.lb, hk _ _ _ _ h.cap, h.lt⟩
theorem Sa.next {P q m k l : Nat} {W : World} (h : Sa P q m k l W) (k' l' : Nat) : Sa P q m k' l' ((W.setCell ⟨q + 1 + 1, 0, none⟩ (.int .u64 (l' : Int))).setCell ⟨q + 1, 0, none⟩ (.int .i64 (k' : Int))) := by
  have hl := h.lt
  exact ⟨boxed_other (boxed_other h.res (by omega) _) (by omega) _, boxed_other (boxed_other h.mb (by omega) _) (by omega) _, (boxed_other h.nb (by omega) _).set _, boxed_other (h.lb.set _) (by omega) _, boxed_other (boxed_other h.cap (by omega) _) (by omega) _, hl⟩
/-- the subset ahead of the k-th -/
def lastM (m k : Nat) : Nat := if k = 0 then 0 else subM m (k - 1)
theorem lastM_next (m k : Nat) : lastM m (k + 1) = subM m k := by unfold lastM; rw [if_neg (by omega)]; rfl
theorem less_less (m s : Nat) : lessM (lessM m s) m = 0 := by
  apply Nat.eq_of_testBit_eq
  intro j
  rw [less_bit, less_bit, Nat.zero_testBit]
  cases m.testBit j <;> simp
def ToldA (m cc N : Nat) : Prop := (cc ≤ 10 ∧ N = topM m) ∨ (10 < cc ∧ N = 100)
def pick3 {α : Type} (x y z : α) (i : Nat) : α := if i = 0 then x else if i = 1 then y else z
theorem al_new {B : Nat} {w0 w1 w2 w3 : World} {v0 v1 v2 : Value} {F0 F1 F2 : List Nat} {x0 x1 x2 : List Int} (h0 : Ir w1 w0.heap.size F0 v0 x0) (b1 : Below w0.heap.size w0 w1) (h1 : Ir w2 w1.heap.size F1 v1 x1) (b2 : Below w1.heap.size w1 w2) (h2 : Ir w3 w2.heap.size F2 v2 x2) (b3 : Below w2.heap.size w2 w3) (hB : B = w0.heap.size) :
    Al B w3.heap.size (pick3 v0 v1 v2) (pick3 F0 F1 F2) (pick3 x0 x1 x2) (w3.alloc (.cells #[v0, v1, v2] 37)) := by
  subst hB
  have k := (Below.refl w3.heap.size w3).alloc (Nat.le_refl _) (.cells #[v0, v1, v2] 37)
  have l0 := h0.lt
  have l1 := h1.lt
  have g1 : ∀ b ∈ F1, w1.heap.size ≤ b := fun b hb => (h1.ty b hb).1
  have g2 : ∀ b ∈ F2, w2.heap.size ≤ b := fun b hb => (h2.ty b hb).1
  have s2 := b2.size
  refine ⟨fun i hi => ?_, fun i j hi hj hij x hx hy => ?_, Bk.new w3 _ [v0, v1, v2], ?_⟩
  · rcases (show i = 0 ∨ i = 1 ∨ i = 2 by omega) with rfl | rfl | rfl
    · exact ((h0.below b2).below b3).below k
    · exact ((h1.below b3).below k).weak b1.size
    · exact (h2.below k).weak (Nat.le_trans b1.size s2)
  · rcases (show i = 0 ∨ i = 1 ∨ i = 2 by omega) with rfl | rfl | rfl <;> rcases (show j = 0 ∨ j = 1 ∨ j = 2 by omega) with rfl | rfl | rfl
    · exact hij rfl
    · have := l0 x hx; have := g1 x hy; omega
    · have := l0 x hx; have := g2 x hy; omega
    · have := l0 x hy; have := g1 x hx; omega
    · exact hij rfl
    · have := l1 x hx; have := g2 x hy; omega
    · have := l0 x hy; have := g2 x hx; omega
    · have := l1 x hy; have := g2 x hx; omega
    · exact hij rfl
  · have := b1.size
    have := b3.size
    omega
set_option maxHeartbeats 16000000 in
theorem maskall_in (n : Nat) {m b : Nat} (hm : Wd m) (hb : Wd b) (w : World) (hG : GlobM w) (hn : 5 ≤ n) : CallsIn Fence.wide n Tryd.prog 7 #[.int .u64 (m : Int), .int .u64 (b : Int)] w fun e w' => e = .returned (.bool true) ∧ Below w.heap.size w w' := by
  have h1 : 1 ≤ n := by omega
  obtain ⟨w1, hw1⟩ : ∃ w1, w1 = w.alloc (.cells #[.bool false] 4) := ⟨_, rfl⟩
  obtain ⟨P, hP⟩ : ∃ P, P = w.heap.size := ⟨_, rfl⟩
  have HB1 := Lib.hid (show Below w.heap.size w w1 ∧ Boxed w1 P 4 (.bool false) by rw [hw1, hP]; exact ⟨(Below.refl _ w).alloc (Nat.le_refl _) _, Boxed.new w _ _⟩)
  have HE1 := Lib.hid hw1.symm
  have HP := Lib.hid hP
  have HM := Lib.hid hm
  have HBB := Lib.hid hb
  have HG := Lib.hid hG
  have hcle := cntF_le m.testBit 64
  have C1 := Lib.hid (fun W => count_any hm W)
  obtain ⟨cc, hcc⟩ : ∃ cc, cc = cntF m.testBit 64 := ⟨_, rfl⟩
  rw [← hcc] at C1 hcle
  have HTOP := Lib.hid (show topM m = 2 ^ cc by rw [hcc]; rfl)
  have HCC := Lib.hid hcc
  have HGL := Lib.hid (globM_lt hG)
  have HAW := Lib.hid (awake_any w1 (globM_below hG HB1.out.1 (Nat.le_refl _)))
  clear hw1 hP hm hb hG hcc
  refine callsIn_of_wp_marks Tryd.func7 rfl trivial ?_ rfl
  simp only [Tryd.ntmps7, List.size_toArray, List.length_cons, List.length_nil, Nat.reduceAdd, Nat.reduceSub, Array.replicate_succ, Array.replicate_zero, List.push_toArray, List.append_toArray, List.nil_append, List.cons_append]
  gi_wp2_with fail
  rw [HE1.out, ← HP.out]
  refine ⟨trivial, ?_⟩
  refine (callsIn_wide.2 HAW.out).mono ?_
  rintro e w2 ⟨rfl, hb2⟩
  have HB2 := Lib.hid (HB1.out.1.trans (hb2.mono HB1.out.1.size))
  have HR2 := Lib.hid (boxed_below HB1.out.2 hb2)
  clear hb2 HAW HB1 HE1
  obtain ⟨q, hq⟩ : ∃ q, q = w2.heap.size := ⟨_, rfl⟩
  obtain ⟨w3, hw3⟩ : ∃ w3, w3 = w2.alloc (.cells #[.int .u64 (m : Int)] 23) := ⟨_, rfl⟩
  obtain ⟨w4, hw4⟩ : ∃ w4, w4 = w3.alloc (.cells #[.int .i64 0] 3) := ⟨_, rfl⟩
  obtain ⟨w5, hw5⟩ : ∃ w5, w5 = w4.alloc (.cells #[.int .u64 0] 23) := ⟨_, rfl⟩
  obtain ⟨W6, hW6⟩ : ∃ W6, W6 = w5.alloc (.cells #[.int .u64 (m : Int)] 23) := ⟨_, rfl⟩
  have z3 : w3.heap.size = q + 1 := by rw [hw3, hq]; simp
  have z4 : w4.heap.size = q + 1 + 1 := by rw [hw4, World.size_alloc, z3]
  have z5 : w5.heap.size = q + 3 := by rw [hw5, World.size_alloc, z4]
  have z6 : W6.heap.size = q + 4 := by rw [hW6, World.size_alloc, z5]
  have hb6 : Below w2.heap.size w2 W6 := by rw [hW6, hw5, hw4, hw3]; exact ((((Below.refl _ w2).alloc (Nat.le_refl _) _).alloc (by simp) _).alloc (by simp; omega) _).alloc (by simp; omega) _
  have HSA := Lib.hid (show Sa P q m 0 0 W6 from by
    refine ⟨boxed_below HR2.out hb6, ?_, ?_, ?_, ?_, by rw [hq]; exact HR2.out.lt⟩
    · rw [hW6, hw5, hw4, hw3, hq]; exact (((Boxed.new w2 _ _).alloc _).alloc _).alloc _
    · rw [hW6, hw5, hw4, ← z3]; exact ((Boxed.new w3 _ _).alloc _).alloc _
    · rw [hW6, hw5, ← z4]; exact (Boxed.new w4 _ _).alloc _
    · rw [hW6, ← z5]; exact Boxed.new w5 _ _)
  have HBW := Lib.hid (HB2.out.trans (hb6.mono HB2.out.size))
  have HE5 := Lib.hid (show ((w2.alloc (.cells #[.int .u64 (m : Int)] 23)).alloc (.cells #[.int .i64 0] 3)).alloc (.cells #[.int .u64 0] 23) = w5 by rw [hw5, hw4, hw3])
  have HE6 := Lib.hid hW6
  have HZ5 := Lib.hid z5
  have HZ6 := Lib.hid z6
  have HQ := Lib.hid hq
  have HPQ := Lib.hid (show w.heap.size ≤ q by rw [hq]; exact HB2.out.size)
  clear hq hw3 hw4 hw5 hW6 z3 z4 z5 z6 hb6 HB2 HR2
  gi_wp2_with fail
  rw [HE5.out, ← HQ.out]
  refine ⟨trivial, ?_⟩
  refine (callsIn_wide.2 (subsets_any m w5)).mono ?_
  rintro e w7 ⟨rfl, rfl⟩
  rw [← HE6.out, HZ5.out]
  gi_wp2_with fail
  refine lp_block (fun W => ∃ N, ToldA m cc N ∧ Sa P q m N (lastM m N) W ∧ Below w.heap.size w W) rfl h1 (gf := 42) (lb := #[.pointer (some ⟨q + 3, 0, none⟩)]) rfl trivial (enters_of Tryd.func42 (by kernel_rfl) rfl) ?hrest ?hfirst
  case hfirst =>
    intro fn rc hfn hrc W1 hlp hb1 hz1
    refine CallsIn.mono (subs1_any (n - 1) (q + 3) m HM.out (W6.heap.size + 1)
      (fun k W => Lp rc W6.heap.size .ready none W ∧ (cc ≤ 10 ∨ k < 100) ∧ Sa P q m k (lastM m k) W ∧ Below w.heap.size w W)
      (fun k W => Lp rc W6.heap.size .done (some (.exit 0)) W ∧ (10 < cc ∧ k = 100) ∧ Sa P q m k (lastM m k) W ∧ Below w.heap.size w W)
      W1 (by omega) ?hS ?hY ?h0) ?hfin
    case hS => exact fun k A h => h.2.2.1.cap
    case h0 => exact ⟨hlp, by omega, HSA.out.below hb1, HBW.out.trans (hb1.mono HBW.out.size)⟩
    case hfin =>
      rintro e W9 ⟨hv, ⟨a1, a2, a3, a4⟩ | ⟨k, hk, a1, a2, a3, a4⟩⟩
      · refine ⟨hv, .inl ⟨a1, _, .inl ⟨?_, rfl⟩, a3, a4⟩⟩
        rcases a2 with h | h
        · exact h
        · rw [HTOP.out] at h
          rcases Nat.lt_or_ge 10 cc with h9 | h9
          · have : 2 ^ 11 ≤ 2 ^ cc := Nat.pow_le_pow_right (by omega) h9
            omega
          · exact h9
      · exact ⟨hv, .inr ⟨a1, _, .inr a2, a3, a4⟩⟩
    case hY =>
      rintro k W2 hk ⟨j1, j2, j3, j4⟩
      refine lp_yield2 hrc hfn j1 rfl ?_
      clear hrc
      have HL2 := Lib.hid j1
      have HJ2 := Lib.hid j3
      have HB2 := Lib.hid j4
      have HK := Lib.hid hk
      have HJM := Lib.hid j2
      clear j1 j2 j3 j4 hk hlp hb1 hz1
      gi_wp2_with fail
      refine ⟨HL2.out, ?_⟩
      obtain ⟨W4, hW4⟩ : ∃ W4, W4 = W2.putObj (W6.heap.size + 1) (.loop (rc .busy none)) := ⟨_, rfl⟩
      have hp := HL2.out.put (st' := .busy) (j' := none)
      rw [← hW4] at hp
      have HL4 := Lib.hid hp
      have HJ4 := Lib.hid (show Sa P q m k (lastM m k) W4 by rw [hW4]; exact HJ2.out.kc (KC.put _ HL2.out.rcd))
      have HB4 := Lib.hid (show Below w.heap.size w W4 by rw [hW4]; exact HB2.out.trans (below_put (by have := HPQ.out; have := HZ6.out; omega) HL2.out.rcd))
      rw [← hW4]
      clear hp hW4 HL2 HJ2 HB2
      obtain ⟨s, hs⟩ : ∃ s, s = subM m k := ⟨_, rfl⟩
      obtain ⟨l, hl⟩ : ∃ l, l = lastM m k := ⟨_, rfl⟩
      have HS := Lib.hid hs
      have hsd : Wd s := by rw [hs]; exact wd_sub m k
      have I1 := Lib.hid (fun W => in_any hsd HM.out W)
      have hin1 : lessM s m = 0 := by rw [hs]; exact sub_in m k
      rw [hin1] at I1
      have I2 := Lib.hid (fun W => less_any HM.out hsd W)
      have I3 := Lib.hid (fun W => in_any (wd_less s HM.out) HM.out W)
      rw [less_less] at I3
      generalize lessM m s = d at I2 I3
      simp only [beq_self_eq_true] at I1 I3
      have hk0 : k = 0 → s = 0 := fun e => by rw [hs, e, sub_zero]
      have hkl : 0 < k → l < s := fun h => by
        rw [hs, hl]; unfold lastM; rw [if_neg (by omega)]
        exact sub_rise (by omega) HK.out
      rw [← hl] at HJ4
      rw [← hs]
      have HKM := Lib.hid (show (k : Int) ≤ 18446744073709551616 by have := HK.out; rw [HTOP.out] at this; have h2 : 2 ^ cc ≤ 2 ^ 64 := Nat.pow_le_pow_right (by omega) hcle; omega)
      clear hs hl hin1
      gi_wp2_with fail
      rcases Nat.eq_zero_or_pos k with hk1 | hk1
      · have hs0 := hk0 hk1
        have t1 : decide ((0 : Int) < (k : Int)) = false := by rw [decide_eq_false_iff_not]; omega
        have t1' : decide (0 < k) = false := by rw [decide_eq_false_iff_not]; omega
        have t2 : ((s : Int) != 0) = false := by rw [bne_eq_false_iff_eq]; omega
        have t3 : ((k : Int) == 0) = true := by rw [beq_iff_eq]; omega
        clear hk0 hkl hk1 hs0
        obtain ⟨DV, hDV⟩ : ∃ DV : List (Nat × Value), DV = [(24, .int .u64 (s : Int)), (25, .int .u64 (m : Int)), (26, .bool true), (27, .bool false), (28, .bool false), (29, .int .i64 (k : Int)), (30, .bool false), (31, .bool false), (32, undef), (33, undef), (34, undef), (35, .bool false), (36, .bool false), (37, .bool false), (38, .int .i64 (k : Int)), (39, .bool true), (40, .bool true), (41, .int .u64 (s : Int)), (42, .bool false), (43, .bool false), (44, .bool false), (45, .bool false), (46, .int .u64 (m : Int)), (47, .int .u64 (s : Int)), (48, .int .u64 (d : Int)), (49, .int .u64 (m : Int)), (50, .bool true), (51, .bool false), (52, .bool false)] := ⟨_, rfl⟩
        have hnd : (DV.map (·.1)).Nodup := by
          rw [hDV]
          show ([24, 25, 26, 27, 28, 29, 30, 31, 32, 33, 34, 35, 36, 37, 38, 39, 40, 41, 42, 43, 44, 45, 46, 47, 48, 49, 50, 51, 52] : List Nat).Nodup
          decide
        refine frame_named ?_
        intro FR hFR
        simp only at hFR
        refine region_fixed2 (by kernel_rfl) DV (fun W => Below W4.heap.size W4 W) (by rw [hDV]; rfl) hnd (drew_below W4) ?hup0 ?hop0 ?hend0
        case hup0 =>
          intro ix ox ho
          rcases ix with _ | _ | _ | _ | _ | _ | _ | _ | _ | _ | _ | _ | _ | _ | _ | _ | _ | _ | _ | _ | _ | _ | _ | _ | _ | _ | _ | _ | _ | ix
          all_goals
            first
              | (obtain rfl := Option.some.inj ho; simp)
              | (exfalso; have h := (Array.getElem?_eq_some_iff.1 ho).1; simp at h; omega)
        case hop0 =>
          intro ix ox dx vx ho hdv L W hlen hf hdeps hC
          have e8 : (fillT FR DV L).getD 8 undef = .int .u64 (s : Int) := by rw [fillT_other DV L FR 8 undef (by rw [hDV]; simp)]; rw [hFR]; rfl
          have e5 : (fillT FR DV L).getD 5 undef = .pointer (some ⟨q, 0, none⟩) := by rw [fillT_other DV L FR 5 undef (by rw [hDV]; simp)]; rw [hFR]; rfl
          have e6 : (fillT FR DV L).getD 6 undef = .pointer (some ⟨q + 1, 0, none⟩) := by rw [fillT_other DV L FR 6 undef (by rw [hDV]; simp)]; rw [hFR]; rfl
          have e7 : (fillT FR DV L).getD 7 undef = .pointer (some ⟨q + 1 + 1, 0, none⟩) := by rw [fillT_other DV L FR 7 undef (by rw [hDV]; simp)]; rw [hFR]; rfl
          have hsz : FR.size = 205 := by rw [hFR]; rfl
          have hsa := HJ4.out.below hC
          have c5 := hsa.mb.cell
          have c6 := hsa.nb.cell
          have c7 := hsa.lb.cell
          clear hsa
          rcases ix with _ | _ | _ | _ | _ | _ | _ | _ | _ | _ | _ | _ | _ | _ | _ | _ | _ | _ | _ | _ | _ | _ | _ | _ | _ | _ | _ | _ | _ | ix
          · obtain rfl := Option.some.inj ho
            rw [hDV] at hdv
            obtain ⟨rfl, rfl⟩ := Prod.mk.inj (Option.some.inj hdv)
            refine .inl ⟨rfl, ?_⟩
            clear hdv hdeps hf
            unfold Oper.wpIn
            refine ⟨fun f _ => trivial, ?_⟩
            unfold fillA
            generalize fillT FR DV L = TT at *
            go_simp
          · obtain rfl := Option.some.inj ho
            rw [hDV] at hdv
            obtain ⟨rfl, rfl⟩ := Prod.mk.inj (Option.some.inj hdv)
            refine .inl ⟨rfl, ?_⟩
            clear hdv hdeps hf
            unfold Oper.wpIn
            refine ⟨fun f _ => trivial, ?_⟩
            unfold fillA
            generalize fillT FR DV L = TT at *
            go_simp
          · obtain rfl := Option.some.inj ho
            rw [hDV] at hdv
            obtain ⟨rfl, rfl⟩ := Prod.mk.inj (Option.some.inj hdv)
            have g0 : L[0]? = some true := hdeps ⟨0, .data⟩ (by simp) rfl
            have e24 : (fillT FR DV L).getD 24 undef = (.int .u64 (s : Int)) := fillT_at DV L FR 0 24 _ undef hnd (by rw [hDV]; rfl) g0 (by rw [hsz]; decide)
            have g1 : L[1]? = some true := hdeps ⟨1, .data⟩ (by simp) rfl
            have e25 : (fillT FR DV L).getD 25 undef = (.int .u64 (m : Int)) := fillT_at DV L FR 1 25 _ undef hnd (by rw [hDV]; rfl) g1 (by rw [hsz]; decide)
            refine .inl ⟨rfl, ?_⟩
            clear hdv hdeps hf
            unfold Oper.wpIn
            refine ⟨fun f _ => trivial, ?_⟩
            unfold fillA
            generalize fillT FR DV L = TT at *
            go_simp
            exact ⟨fun _ => by omega, (CallsIn.inRound _ (callsIn_wide.2 (I1.out W))).mono (fun e w' h => by obtain ⟨rfl, rfl⟩ := h; exact ⟨rfl, hC⟩)⟩
          · obtain rfl := Option.some.inj ho
            rw [hDV] at hdv
            obtain ⟨rfl, rfl⟩ := Prod.mk.inj (Option.some.inj hdv)
            have g2 : L[2]? = some true := hdeps ⟨2, .data⟩ (by simp) rfl
            have e26 : (fillT FR DV L).getD 26 undef = (.bool true) := fillT_at DV L FR 2 26 _ undef hnd (by rw [hDV]; rfl) g2 (by rw [hsz]; decide)
            refine .inl ⟨rfl, ?_⟩
            clear hdv hdeps hf
            unfold Oper.wpIn
            refine ⟨fun f _ => trivial, ?_⟩
            unfold fillA
            generalize fillT FR DV L = TT at *
            go_simp
          · obtain rfl := Option.some.inj ho
            rw [hDV] at hdv
            obtain ⟨rfl, rfl⟩ := Prod.mk.inj (Option.some.inj hdv)
            have g3 : L[3]? = some true := hdeps ⟨3, .data⟩ (by simp) rfl
            have e27 : (fillT FR DV L).getD 27 undef = (.bool false) := fillT_at DV L FR 3 27 _ undef hnd (by rw [hDV]; rfl) g3 (by rw [hsz]; decide)
            refine .inl ⟨rfl, ?_⟩
            clear hdv hdeps hf
            unfold Oper.wpIn
            refine ⟨fun f _ => trivial, ?_⟩
            unfold fillA
            generalize fillT FR DV L = TT at *
            go_simp
          · obtain rfl := Option.some.inj ho
            rw [hDV] at hdv
            obtain ⟨rfl, rfl⟩ := Prod.mk.inj (Option.some.inj hdv)
            have g4 : L[4]? = some true := hdeps ⟨4, .guard⟩ (by simp) rfl
            have e28 : (fillT FR DV L).getD 28 undef = (.bool false) := fillT_at DV L FR 4 28 _ undef hnd (by rw [hDV]; rfl) g4 (by rw [hsz]; decide)
            have y28 : (fillT FR DV L)[28]? = some (.bool false) := fillT_get hnd (by rw [hDV]; rfl) g4 (by rw [hsz]; decide)
            refine .inl ⟨by simp [Region.wanted, yielded, y28], ?_⟩
            clear hdv hdeps hf
            unfold Oper.wpIn
            refine ⟨fun f _ => trivial, ?_⟩
            unfold fillA
            generalize fillT FR DV L = TT at *
            go_simp
          · obtain rfl := Option.some.inj ho
            rw [hDV] at hdv
            obtain ⟨rfl, rfl⟩ := Prod.mk.inj (Option.some.inj hdv)
            have g5 : L[5]? = some true := hdeps ⟨5, .data⟩ (by simp) rfl
            have e29 : (fillT FR DV L).getD 29 undef = (.int .i64 (k : Int)) := fillT_at DV L FR 5 29 _ undef hnd (by rw [hDV]; rfl) g5 (by rw [hsz]; decide)
            have g4 : L[4]? = some true := hdeps ⟨4, .guard⟩ (by simp) rfl
            have e28 : (fillT FR DV L).getD 28 undef = (.bool false) := fillT_at DV L FR 4 28 _ undef hnd (by rw [hDV]; rfl) g4 (by rw [hsz]; decide)
            have y28 : (fillT FR DV L)[28]? = some (.bool false) := fillT_get hnd (by rw [hDV]; rfl) g4 (by rw [hsz]; decide)
            refine .inl ⟨by simp [Region.wanted, yielded, y28], ?_⟩
            clear hdv hdeps hf
            unfold Oper.wpIn
            refine ⟨fun f _ => trivial, ?_⟩
            unfold fillA
            generalize fillT FR DV L = TT at *
            go_simp
          · obtain rfl := Option.some.inj ho
            rw [hDV] at hdv
            obtain ⟨rfl, rfl⟩ := Prod.mk.inj (Option.some.inj hdv)
            have g6 : L[6]? = some true := hdeps ⟨6, .data⟩ (by simp) rfl
            have e30 : (fillT FR DV L).getD 30 undef = (.bool false) := fillT_at DV L FR 6 30 _ undef hnd (by rw [hDV]; rfl) g6 (by rw [hsz]; decide)
            have g4 : L[4]? = some true := hdeps ⟨4, .guard⟩ (by simp) rfl
            have e28 : (fillT FR DV L).getD 28 undef = (.bool false) := fillT_at DV L FR 4 28 _ undef hnd (by rw [hDV]; rfl) g4 (by rw [hsz]; decide)
            have y28 : (fillT FR DV L)[28]? = some (.bool false) := fillT_get hnd (by rw [hDV]; rfl) g4 (by rw [hsz]; decide)
            refine .inl ⟨by simp [Region.wanted, yielded, y28], ?_⟩
            clear hdv hdeps hf
            unfold Oper.wpIn
            refine ⟨fun f _ => trivial, ?_⟩
            unfold fillA
            generalize fillT FR DV L = TT at *
            go_simp
          · obtain rfl := Option.some.inj ho
            rw [hDV] at hdv
            obtain ⟨rfl, rfl⟩ := Prod.mk.inj (Option.some.inj hdv)
            have g7 : L[7]? = some true := hdeps ⟨7, .guard⟩ (by simp) rfl
            have e31 : (fillT FR DV L).getD 31 undef = (.bool false) := fillT_at DV L FR 7 31 _ undef hnd (by rw [hDV]; rfl) g7 (by rw [hsz]; decide)
            have y31 : (fillT FR DV L)[31]? = some (.bool false) := fillT_get hnd (by rw [hDV]; rfl) g7 (by rw [hsz]; decide)
            exact .inr ⟨by simp [Region.wanted, yielded, y31], fun f _ => trivial, rfl, rfl⟩
          · obtain rfl := Option.some.inj ho
            rw [hDV] at hdv
            obtain ⟨rfl, rfl⟩ := Prod.mk.inj (Option.some.inj hdv)
            have g7 : L[7]? = some true := hdeps ⟨7, .guard⟩ (by simp) rfl
            have e31 : (fillT FR DV L).getD 31 undef = (.bool false) := fillT_at DV L FR 7 31 _ undef hnd (by rw [hDV]; rfl) g7 (by rw [hsz]; decide)
            have y31 : (fillT FR DV L)[31]? = some (.bool false) := fillT_get hnd (by rw [hDV]; rfl) g7 (by rw [hsz]; decide)
            exact .inr ⟨by simp [Region.wanted, yielded, y31], fun f _ => trivial, rfl, rfl⟩
          · obtain rfl := Option.some.inj ho
            rw [hDV] at hdv
            obtain ⟨rfl, rfl⟩ := Prod.mk.inj (Option.some.inj hdv)
            have g7 : L[7]? = some true := hdeps ⟨7, .guard⟩ (by simp) rfl
            have e31 : (fillT FR DV L).getD 31 undef = (.bool false) := fillT_at DV L FR 7 31 _ undef hnd (by rw [hDV]; rfl) g7 (by rw [hsz]; decide)
            have y31 : (fillT FR DV L)[31]? = some (.bool false) := fillT_get hnd (by rw [hDV]; rfl) g7 (by rw [hsz]; decide)
            exact .inr ⟨by simp [Region.wanted, yielded, y31], fun f _ => trivial, rfl, rfl⟩
          · obtain rfl := Option.some.inj ho
            rw [hDV] at hdv
            obtain ⟨rfl, rfl⟩ := Prod.mk.inj (Option.some.inj hdv)
            have g7 : L[7]? = some true := hdeps ⟨7, .data⟩ (by simp) rfl
            have e31 : (fillT FR DV L).getD 31 undef = (.bool false) := fillT_at DV L FR 7 31 _ undef hnd (by rw [hDV]; rfl) g7 (by rw [hsz]; decide)
            have g10 : L[10]? = some true := hdeps ⟨10, .data⟩ (by simp) rfl
            have e34 : (fillT FR DV L).getD 34 undef = (undef) := fillT_at DV L FR 10 34 _ undef hnd (by rw [hDV]; rfl) g10 (by rw [hsz]; decide)
            have g4 : L[4]? = some true := hdeps ⟨4, .guard⟩ (by simp) rfl
            have e28 : (fillT FR DV L).getD 28 undef = (.bool false) := fillT_at DV L FR 4 28 _ undef hnd (by rw [hDV]; rfl) g4 (by rw [hsz]; decide)
            have y28 : (fillT FR DV L)[28]? = some (.bool false) := fillT_get hnd (by rw [hDV]; rfl) g4 (by rw [hsz]; decide)
            refine .inl ⟨by simp [Region.wanted, yielded, y28], ?_⟩
            clear hdv hdeps hf
            unfold Oper.wpIn
            refine ⟨fun f _ => trivial, ?_⟩
            unfold fillA
            generalize fillT FR DV L = TT at *
            go_simp
          · obtain rfl := Option.some.inj ho
            rw [hDV] at hdv
            obtain ⟨rfl, rfl⟩ := Prod.mk.inj (Option.some.inj hdv)
            have g4 : L[4]? = some true := hdeps ⟨4, .data⟩ (by simp) rfl
            have e28 : (fillT FR DV L).getD 28 undef = (.bool false) := fillT_at DV L FR 4 28 _ undef hnd (by rw [hDV]; rfl) g4 (by rw [hsz]; decide)
            have g11 : L[11]? = some true := hdeps ⟨11, .data⟩ (by simp) rfl
            have e35 : (fillT FR DV L).getD 35 undef = (.bool false) := fillT_at DV L FR 11 35 _ undef hnd (by rw [hDV]; rfl) g11 (by rw [hsz]; decide)
            refine .inl ⟨rfl, ?_⟩
            clear hdv hdeps hf
            unfold Oper.wpIn
            refine ⟨fun f _ => trivial, ?_⟩
            unfold fillA
            generalize fillT FR DV L = TT at *
            go_simp
          · obtain rfl := Option.some.inj ho
            rw [hDV] at hdv
            obtain ⟨rfl, rfl⟩ := Prod.mk.inj (Option.some.inj hdv)
            have g12 : L[12]? = some true := hdeps ⟨12, .data⟩ (by simp) rfl
            have e36 : (fillT FR DV L).getD 36 undef = (.bool false) := fillT_at DV L FR 12 36 _ undef hnd (by rw [hDV]; rfl) g12 (by rw [hsz]; decide)
            refine .inl ⟨rfl, ?_⟩
            clear hdv hdeps hf
            unfold Oper.wpIn
            refine ⟨fun f _ => trivial, ?_⟩
            unfold fillA
            generalize fillT FR DV L = TT at *
            go_simp
          · obtain rfl := Option.some.inj ho
            rw [hDV] at hdv
            obtain ⟨rfl, rfl⟩ := Prod.mk.inj (Option.some.inj hdv)
            have g13 : L[13]? = some true := hdeps ⟨13, .guard⟩ (by simp) rfl
            have e37 : (fillT FR DV L).getD 37 undef = (.bool false) := fillT_at DV L FR 13 37 _ undef hnd (by rw [hDV]; rfl) g13 (by rw [hsz]; decide)
            have y37 : (fillT FR DV L)[37]? = some (.bool false) := fillT_get hnd (by rw [hDV]; rfl) g13 (by rw [hsz]; decide)
            refine .inl ⟨by simp [Region.wanted, yielded, y37], ?_⟩
            clear hdv hdeps hf
            unfold Oper.wpIn
            refine ⟨fun f _ => trivial, ?_⟩
            unfold fillA
            generalize fillT FR DV L = TT at *
            go_simp
          · obtain rfl := Option.some.inj ho
            rw [hDV] at hdv
            obtain ⟨rfl, rfl⟩ := Prod.mk.inj (Option.some.inj hdv)
            have g14 : L[14]? = some true := hdeps ⟨14, .data⟩ (by simp) rfl
            have e38 : (fillT FR DV L).getD 38 undef = (.int .i64 (k : Int)) := fillT_at DV L FR 14 38 _ undef hnd (by rw [hDV]; rfl) g14 (by rw [hsz]; decide)
            have g13 : L[13]? = some true := hdeps ⟨13, .guard⟩ (by simp) rfl
            have e37 : (fillT FR DV L).getD 37 undef = (.bool false) := fillT_at DV L FR 13 37 _ undef hnd (by rw [hDV]; rfl) g13 (by rw [hsz]; decide)
            have y37 : (fillT FR DV L)[37]? = some (.bool false) := fillT_get hnd (by rw [hDV]; rfl) g13 (by rw [hsz]; decide)
            refine .inl ⟨by simp [Region.wanted, yielded, y37], ?_⟩
            clear hdv hdeps hf
            unfold Oper.wpIn
            refine ⟨fun f _ => trivial, ?_⟩
            unfold fillA
            generalize fillT FR DV L = TT at *
            go_simp
          · obtain rfl := Option.some.inj ho
            rw [hDV] at hdv
            obtain ⟨rfl, rfl⟩ := Prod.mk.inj (Option.some.inj hdv)
            have g15 : L[15]? = some true := hdeps ⟨15, .data⟩ (by simp) rfl
            have e39 : (fillT FR DV L).getD 39 undef = (.bool true) := fillT_at DV L FR 15 39 _ undef hnd (by rw [hDV]; rfl) g15 (by rw [hsz]; decide)
            have g13 : L[13]? = some true := hdeps ⟨13, .guard⟩ (by simp) rfl
            have e37 : (fillT FR DV L).getD 37 undef = (.bool false) := fillT_at DV L FR 13 37 _ undef hnd (by rw [hDV]; rfl) g13 (by rw [hsz]; decide)
            have y37 : (fillT FR DV L)[37]? = some (.bool false) := fillT_get hnd (by rw [hDV]; rfl) g13 (by rw [hsz]; decide)
            refine .inl ⟨by simp [Region.wanted, yielded, y37], ?_⟩
            clear hdv hdeps hf
            unfold Oper.wpIn
            refine ⟨fun f _ => trivial, ?_⟩
            unfold fillA
            generalize fillT FR DV L = TT at *
            go_simp
          · obtain rfl := Option.some.inj ho
            rw [hDV] at hdv
            obtain ⟨rfl, rfl⟩ := Prod.mk.inj (Option.some.inj hdv)
            have g16 : L[16]? = some true := hdeps ⟨16, .guard⟩ (by simp) rfl
            have e40 : (fillT FR DV L).getD 40 undef = (.bool true) := fillT_at DV L FR 16 40 _ undef hnd (by rw [hDV]; rfl) g16 (by rw [hsz]; decide)
            have y40 : (fillT FR DV L)[40]? = some (.bool true) := fillT_get hnd (by rw [hDV]; rfl) g16 (by rw [hsz]; decide)
            refine .inl ⟨by simp [Region.wanted, yielded, y40], ?_⟩
            clear hdv hdeps hf
            unfold Oper.wpIn
            refine ⟨fun f _ => trivial, ?_⟩
            unfold fillA
            generalize fillT FR DV L = TT at *
            go_simp
          · obtain rfl := Option.some.inj ho
            rw [hDV] at hdv
            obtain ⟨rfl, rfl⟩ := Prod.mk.inj (Option.some.inj hdv)
            have g17 : L[17]? = some true := hdeps ⟨17, .data⟩ (by simp) rfl
            have e41 : (fillT FR DV L).getD 41 undef = (.int .u64 (s : Int)) := fillT_at DV L FR 17 41 _ undef hnd (by rw [hDV]; rfl) g17 (by rw [hsz]; decide)
            have g16 : L[16]? = some true := hdeps ⟨16, .guard⟩ (by simp) rfl
            have e40 : (fillT FR DV L).getD 40 undef = (.bool true) := fillT_at DV L FR 16 40 _ undef hnd (by rw [hDV]; rfl) g16 (by rw [hsz]; decide)
            have y40 : (fillT FR DV L)[40]? = some (.bool true) := fillT_get hnd (by rw [hDV]; rfl) g16 (by rw [hsz]; decide)
            refine .inl ⟨by simp [Region.wanted, yielded, y40], ?_⟩
            clear hdv hdeps hf
            unfold Oper.wpIn
            refine ⟨fun f _ => trivial, ?_⟩
            unfold fillA
            generalize fillT FR DV L = TT at *
            go_simp
          · obtain rfl := Option.some.inj ho
            rw [hDV] at hdv
            obtain ⟨rfl, rfl⟩ := Prod.mk.inj (Option.some.inj hdv)
            have g16 : L[16]? = some true := hdeps ⟨16, .data⟩ (by simp) rfl
            have e40 : (fillT FR DV L).getD 40 undef = (.bool true) := fillT_at DV L FR 16 40 _ undef hnd (by rw [hDV]; rfl) g16 (by rw [hsz]; decide)
            have g18 : L[18]? = some true := hdeps ⟨18, .data⟩ (by simp) rfl
            have e42 : (fillT FR DV L).getD 42 undef = (.bool false) := fillT_at DV L FR 18 42 _ undef hnd (by rw [hDV]; rfl) g18 (by rw [hsz]; decide)
            have g13 : L[13]? = some true := hdeps ⟨13, .guard⟩ (by simp) rfl
            have e37 : (fillT FR DV L).getD 37 undef = (.bool false) := fillT_at DV L FR 13 37 _ undef hnd (by rw [hDV]; rfl) g13 (by rw [hsz]; decide)
            have y37 : (fillT FR DV L)[37]? = some (.bool false) := fillT_get hnd (by rw [hDV]; rfl) g13 (by rw [hsz]; decide)
            refine .inl ⟨by simp [Region.wanted, yielded, y37], ?_⟩
            clear hdv hdeps hf
            unfold Oper.wpIn
            refine ⟨fun f _ => trivial, ?_⟩
            unfold fillA
            generalize fillT FR DV L = TT at *
            go_simp
          · obtain rfl := Option.some.inj ho
            rw [hDV] at hdv
            obtain ⟨rfl, rfl⟩ := Prod.mk.inj (Option.some.inj hdv)
            have g13 : L[13]? = some true := hdeps ⟨13, .data⟩ (by simp) rfl
            have e37 : (fillT FR DV L).getD 37 undef = (.bool false) := fillT_at DV L FR 13 37 _ undef hnd (by rw [hDV]; rfl) g13 (by rw [hsz]; decide)
            have g19 : L[19]? = some true := hdeps ⟨19, .data⟩ (by simp) rfl
            have e43 : (fillT FR DV L).getD 43 undef = (.bool false) := fillT_at DV L FR 19 43 _ undef hnd (by rw [hDV]; rfl) g19 (by rw [hsz]; decide)
            refine .inl ⟨rfl, ?_⟩
            clear hdv hdeps hf
            unfold Oper.wpIn
            refine ⟨fun f _ => trivial, ?_⟩
            unfold fillA
            generalize fillT FR DV L = TT at *
            go_simp
          · obtain rfl := Option.some.inj ho
            rw [hDV] at hdv
            obtain ⟨rfl, rfl⟩ := Prod.mk.inj (Option.some.inj hdv)
            have g20 : L[20]? = some true := hdeps ⟨20, .data⟩ (by simp) rfl
            have e44 : (fillT FR DV L).getD 44 undef = (.bool false) := fillT_at DV L FR 20 44 _ undef hnd (by rw [hDV]; rfl) g20 (by rw [hsz]; decide)
            refine .inl ⟨rfl, ?_⟩
            clear hdv hdeps hf
            unfold Oper.wpIn
            refine ⟨fun f _ => trivial, ?_⟩
            unfold fillA
            generalize fillT FR DV L = TT at *
            go_simp
          · obtain rfl := Option.some.inj ho
            rw [hDV] at hdv
            obtain ⟨rfl, rfl⟩ := Prod.mk.inj (Option.some.inj hdv)
            have g21 : L[21]? = some true := hdeps ⟨21, .guard⟩ (by simp) rfl
            have e45 : (fillT FR DV L).getD 45 undef = (.bool false) := fillT_at DV L FR 21 45 _ undef hnd (by rw [hDV]; rfl) g21 (by rw [hsz]; decide)
            have y45 : (fillT FR DV L)[45]? = some (.bool false) := fillT_get hnd (by rw [hDV]; rfl) g21 (by rw [hsz]; decide)
            refine .inl ⟨by simp [Region.wanted, yielded, y45], ?_⟩
            clear hdv hdeps hf
            unfold Oper.wpIn
            refine ⟨fun f _ => trivial, ?_⟩
            unfold fillA
            generalize fillT FR DV L = TT at *
            go_simp
          · obtain rfl := Option.some.inj ho
            rw [hDV] at hdv
            obtain ⟨rfl, rfl⟩ := Prod.mk.inj (Option.some.inj hdv)
            have g21 : L[21]? = some true := hdeps ⟨21, .guard⟩ (by simp) rfl
            have e45 : (fillT FR DV L).getD 45 undef = (.bool false) := fillT_at DV L FR 21 45 _ undef hnd (by rw [hDV]; rfl) g21 (by rw [hsz]; decide)
            have y45 : (fillT FR DV L)[45]? = some (.bool false) := fillT_get hnd (by rw [hDV]; rfl) g21 (by rw [hsz]; decide)
            refine .inl ⟨by simp [Region.wanted, yielded, y45], ?_⟩
            clear hdv hdeps hf
            unfold Oper.wpIn
            refine ⟨fun f _ => trivial, ?_⟩
            unfold fillA
            generalize fillT FR DV L = TT at *
            go_simp
          · obtain rfl := Option.some.inj ho
            rw [hDV] at hdv
            obtain ⟨rfl, rfl⟩ := Prod.mk.inj (Option.some.inj hdv)
            have g22 : L[22]? = some true := hdeps ⟨22, .data⟩ (by simp) rfl
            have e46 : (fillT FR DV L).getD 46 undef = (.int .u64 (m : Int)) := fillT_at DV L FR 22 46 _ undef hnd (by rw [hDV]; rfl) g22 (by rw [hsz]; decide)
            have g23 : L[23]? = some true := hdeps ⟨23, .data⟩ (by simp) rfl
            have e47 : (fillT FR DV L).getD 47 undef = (.int .u64 (s : Int)) := fillT_at DV L FR 23 47 _ undef hnd (by rw [hDV]; rfl) g23 (by rw [hsz]; decide)
            have g21 : L[21]? = some true := hdeps ⟨21, .guard⟩ (by simp) rfl
            have e45 : (fillT FR DV L).getD 45 undef = (.bool false) := fillT_at DV L FR 21 45 _ undef hnd (by rw [hDV]; rfl) g21 (by rw [hsz]; decide)
            have y45 : (fillT FR DV L)[45]? = some (.bool false) := fillT_get hnd (by rw [hDV]; rfl) g21 (by rw [hsz]; decide)
            refine .inl ⟨by simp [Region.wanted, yielded, y45], ?_⟩
            clear hdv hdeps hf
            unfold Oper.wpIn
            refine ⟨fun f _ => trivial, ?_⟩
            unfold fillA
            generalize fillT FR DV L = TT at *
            go_simp
            exact ⟨fun _ => by omega, (CallsIn.inRound _ (callsIn_wide.2 (I2.out W))).mono (fun e w' h => by obtain ⟨rfl, rfl⟩ := h; exact ⟨rfl, hC⟩)⟩
          · obtain rfl := Option.some.inj ho
            rw [hDV] at hdv
            obtain ⟨rfl, rfl⟩ := Prod.mk.inj (Option.some.inj hdv)
            have g21 : L[21]? = some true := hdeps ⟨21, .guard⟩ (by simp) rfl
            have e45 : (fillT FR DV L).getD 45 undef = (.bool false) := fillT_at DV L FR 21 45 _ undef hnd (by rw [hDV]; rfl) g21 (by rw [hsz]; decide)
            have y45 : (fillT FR DV L)[45]? = some (.bool false) := fillT_get hnd (by rw [hDV]; rfl) g21 (by rw [hsz]; decide)
            refine .inl ⟨by simp [Region.wanted, yielded, y45], ?_⟩
            clear hdv hdeps hf
            unfold Oper.wpIn
            refine ⟨fun f _ => trivial, ?_⟩
            unfold fillA
            generalize fillT FR DV L = TT at *
            go_simp
          · obtain rfl := Option.some.inj ho
            rw [hDV] at hdv
            obtain ⟨rfl, rfl⟩ := Prod.mk.inj (Option.some.inj hdv)
            have g24 : L[24]? = some true := hdeps ⟨24, .data⟩ (by simp) rfl
            have e48 : (fillT FR DV L).getD 48 undef = (.int .u64 (d : Int)) := fillT_at DV L FR 24 48 _ undef hnd (by rw [hDV]; rfl) g24 (by rw [hsz]; decide)
            have g25 : L[25]? = some true := hdeps ⟨25, .data⟩ (by simp) rfl
            have e49 : (fillT FR DV L).getD 49 undef = (.int .u64 (m : Int)) := fillT_at DV L FR 25 49 _ undef hnd (by rw [hDV]; rfl) g25 (by rw [hsz]; decide)
            have g21 : L[21]? = some true := hdeps ⟨21, .guard⟩ (by simp) rfl
            have e45 : (fillT FR DV L).getD 45 undef = (.bool false) := fillT_at DV L FR 21 45 _ undef hnd (by rw [hDV]; rfl) g21 (by rw [hsz]; decide)
            have y45 : (fillT FR DV L)[45]? = some (.bool false) := fillT_get hnd (by rw [hDV]; rfl) g21 (by rw [hsz]; decide)
            refine .inl ⟨by simp [Region.wanted, yielded, y45], ?_⟩
            clear hdv hdeps hf
            unfold Oper.wpIn
            refine ⟨fun f _ => trivial, ?_⟩
            unfold fillA
            generalize fillT FR DV L = TT at *
            go_simp
            exact ⟨fun _ => by omega, (CallsIn.inRound _ (callsIn_wide.2 (I3.out W))).mono (fun e w' h => by obtain ⟨rfl, rfl⟩ := h; exact ⟨rfl, hC⟩)⟩
          · obtain rfl := Option.some.inj ho
            rw [hDV] at hdv
            obtain ⟨rfl, rfl⟩ := Prod.mk.inj (Option.some.inj hdv)
            have g26 : L[26]? = some true := hdeps ⟨26, .data⟩ (by simp) rfl
            have e50 : (fillT FR DV L).getD 50 undef = (.bool true) := fillT_at DV L FR 26 50 _ undef hnd (by rw [hDV]; rfl) g26 (by rw [hsz]; decide)
            have g21 : L[21]? = some true := hdeps ⟨21, .guard⟩ (by simp) rfl
            have e45 : (fillT FR DV L).getD 45 undef = (.bool false) := fillT_at DV L FR 21 45 _ undef hnd (by rw [hDV]; rfl) g21 (by rw [hsz]; decide)
            have y45 : (fillT FR DV L)[45]? = some (.bool false) := fillT_get hnd (by rw [hDV]; rfl) g21 (by rw [hsz]; decide)
            refine .inl ⟨by simp [Region.wanted, yielded, y45], ?_⟩
            clear hdv hdeps hf
            unfold Oper.wpIn
            refine ⟨fun f _ => trivial, ?_⟩
            unfold fillA
            generalize fillT FR DV L = TT at *
            go_simp
          · obtain rfl := Option.some.inj ho
            rw [hDV] at hdv
            obtain ⟨rfl, rfl⟩ := Prod.mk.inj (Option.some.inj hdv)
            have g21 : L[21]? = some true := hdeps ⟨21, .data⟩ (by simp) rfl
            have e45 : (fillT FR DV L).getD 45 undef = (.bool false) := fillT_at DV L FR 21 45 _ undef hnd (by rw [hDV]; rfl) g21 (by rw [hsz]; decide)
            have g27 : L[27]? = some true := hdeps ⟨27, .data⟩ (by simp) rfl
            have e51 : (fillT FR DV L).getD 51 undef = (.bool false) := fillT_at DV L FR 27 51 _ undef hnd (by rw [hDV]; rfl) g27 (by rw [hsz]; decide)
            refine .inl ⟨rfl, ?_⟩
            clear hdv hdeps hf
            unfold Oper.wpIn
            refine ⟨fun f _ => trivial, ?_⟩
            unfold fillA
            generalize fillT FR DV L = TT at *
            go_simp
          · exfalso
            have h := (Array.getElem?_eq_some_iff.1 ho).1
            simp at h
            omega
        case hend0 =>
          intro W5 hC5
          have hfin : fillA { tmps := FR, defers := [] } DV (List.replicate 29 true) = fillA { tmps := FR, defers := [] } DV [true, true, true, true, true, true, true, true, true, true, true, true, true, true, true, true, true, true, true, true, true, true, true, true, true, true, true, true, true] := rfl
          rw [show ∀ k, k = 29 → fillA { tmps := FR, defers := [] } DV (List.replicate k true) = fillA { tmps := FR, defers := [] } DV (List.replicate 29 true) from fun k hk => by rw [hk]]
          · rw [hfin, hDV, hFR]
            simp only [fillA, fillT, if_true, List.setIfInBounds_toArray, List.set_cons_succ, List.set_cons_zero]
            clear hfin hFR hnd hDV
            have HJ5 := Lib.hid (HJ4.out.below hC5)
            have HL5 := Lib.hid (HL4.out.grown hC5)
            have HB5 := Lib.hid (HB4.out.trans (hC5.mono HB4.out.size))
            have hkk : k < 2000 := by
              have h9 := HJM.out
              rcases h9 with h9 | h9
              · have h8 := HK.out
                rw [HTOP.out] at h8
                have : 2 ^ cc ≤ 2 ^ 10 := Nat.pow_le_pow_right (by omega) h9
                omega
              · omega
            have c1 := HJ5.out.lb.frozen
            have c1' := HJ5.out.lb.cell
            have c2 := (boxed_other HJ5.out.nb (x := q + 1 + 1) (by omega) (.int .u64 (s : Int))).cell
            have c3 := (boxed_other HJ5.out.nb (x := q + 1 + 1) (by omega) (.int .u64 (s : Int))).frozen
            have hnx := HJ5.out.next (k + 1) s
            have hw : IntKind.i64.wrap ((k : Int) + 1) = ((k + 1 : Nat) : Int) := by rw [IntKind.wrap_i64]; omega
            have hln := (HL5.out.other (x := q + 1 + 1) (by have := HZ6.out; omega) (.int .u64 (s : Int))).other (x := q + 1) (by have := HZ6.out; omega) (.int .i64 ((k + 1 : Nat) : Int))
            have hbn := (HB5.out.setCell (p := ⟨q + 1 + 1, 0, none⟩) (by show w.heap.size ≤ q + 1 + 1; have := HPQ.out; omega) (.int .u64 (s : Int))).setCell (p := ⟨q + 1, 0, none⟩) (by show w.heap.size ≤ q + 1; have := HPQ.out; omega) (.int .i64 ((k + 1 : Nat) : Int))
            have HLS := Lib.hid (show s = lastM m (k + 1) by rw [lastM_next, HS.out])
            obtain ⟨k', hk'⟩ : ∃ k', k' = k + 1 := ⟨_, rfl⟩
            rw [← hk'] at hnx hln hbn hw HLS
            have d1 := hnx.mb.cell
            have d2 := hnx.nb.cell
            have HNX := Lib.hid hnx
            have HLN := Lib.hid hln
            have HBN := Lib.hid hbn
            have HK' := Lib.hid hk'
            clear hnx hln hbn hC5 HJ5 HL5 HB5 hk' t1 t1' t2 t3 hkk HJ4 HL4 HB4 I1 I2 I3 hsd
            by_cases hx : 10 < cc ∧ k' = 100
            · have u1 : decide ((10 : Int) < (cc : Int)) = true := by rw [decide_eq_true_eq]; omega
              have u1' : decide (10 < cc) = true := by rw [decide_eq_true_eq]; omega
              have u2 : ((k' : Int) == 100) = true := by rw [beq_iff_eq]; omega
              have HX := Lib.hid hx
              clear hx
              gi_wp2_with fail
              refine ⟨trivial, fun _ => by omega, ?_⟩
              refine CallsIn.mono ((callsIn_wide.2 (C1.out _)).inRound _) ?_
              rintro e V2 ⟨rfl, rfl⟩
              gi_wp2_with fail
              refine ⟨HLN.out, .inr ⟨rfl, HLN.out.put, ⟨HX.out.1, by have := HX.out.2; have := HK'.out; omega⟩, ?_, ?_⟩⟩
              · rw [← HK'.out, ← HLS.out]
                exact HNX.out.kc (KC.put _ HLN.out.rcd)
              · exact HBN.out.trans (below_put (by have := HPQ.out; have := HZ6.out; omega) HLN.out.rcd)
            · have HX := Lib.hid hx
              rcases (show cc ≤ 10 ∨ (10 < cc ∧ k' ≠ 100) by omega) with h9 | ⟨h9, h8⟩
              · have u1 : decide ((10 : Int) < (cc : Int)) = false := by rw [decide_eq_false_iff_not]; omega
                have u1' : decide (10 < cc) = false := by rw [decide_eq_false_iff_not]; omega
                clear hx
                gi_wp2_with fail
                refine ⟨trivial, fun _ => by omega, ?_⟩
                refine CallsIn.mono ((callsIn_wide.2 (C1.out _)).inRound _) ?_
                rintro e V2 ⟨rfl, rfl⟩
                gi_wp2_with fail
                refine ⟨HLN.out, .inl ⟨rfl, HLN.out.put, .inl h9, ?_, ?_⟩⟩
                · rw [← HK'.out, ← HLS.out]
                  exact HNX.out.kc (KC.put _ HLN.out.rcd)
                · exact HBN.out.trans (below_put (by have := HPQ.out; have := HZ6.out; omega) HLN.out.rcd)
              · have u1 : decide ((10 : Int) < (cc : Int)) = true := by rw [decide_eq_true_eq]; omega
                have u1' : decide (10 < cc) = true := by rw [decide_eq_true_eq]; omega
                have u2 : ((k' : Int) == 100) = false := by rw [beq_eq_false_iff_ne]; omega
                have H9 := Lib.hid (And.intro h9 h8)
                clear hx h9 h8
                gi_wp2_with fail
                refine ⟨trivial, fun _ => by omega, ?_⟩
                refine CallsIn.mono ((callsIn_wide.2 (C1.out _)).inRound _) ?_
                rintro e V2 ⟨rfl, rfl⟩
                gi_wp2_with fail
                refine ⟨HLN.out, .inl ⟨rfl, HLN.out.put, .inr (by have := HJM.out; have := H9.out; have := HK'.out; omega), ?_, ?_⟩⟩
                · rw [← HK'.out, ← HLS.out]
                  exact HNX.out.kc (KC.put _ HLN.out.rcd)
                · exact HBN.out.trans (below_put (by have := HPQ.out; have := HZ6.out; omega) HLN.out.rcd)
          · rfl
      · have hls := hkl hk1
        have t1 : decide ((0 : Int) < (k : Int)) = true := by rw [decide_eq_true_eq]; omega
        have t1' : decide (0 < k) = true := by rw [decide_eq_true_eq]; exact hk1
        have t2 : decide ((s : Int) ≤ (l : Int)) = false := by rw [decide_eq_false_iff_not]; omega
        have t2' : decide (s ≤ l) = false := by rw [decide_eq_false_iff_not]; omega
        have t3 : ((k : Int) == 0) = false := by rw [beq_eq_false_iff_ne]; omega
        clear hk0 hkl hls hk1
        obtain ⟨DV, hDV⟩ : ∃ DV : List (Nat × Value), DV = [(24, .int .u64 (s : Int)), (25, .int .u64 (m : Int)), (26, .bool true), (27, .bool false), (28, .bool false), (29, .int .i64 (k : Int)), (30, .bool true), (31, .bool true), (32, .int .u64 (s : Int)), (33, .int .u64 (l : Int)), (34, .bool false), (35, .bool false), (36, .bool false), (37, .bool false), (38, .int .i64 (k : Int)), (39, .bool false), (40, .bool false), (41, undef), (42, undef), (43, .bool false), (44, .bool false), (45, .bool false), (46, .int .u64 (m : Int)), (47, .int .u64 (s : Int)), (48, .int .u64 (d : Int)), (49, .int .u64 (m : Int)), (50, .bool true), (51, .bool false), (52, .bool false)] := ⟨_, rfl⟩
        have hnd : (DV.map (·.1)).Nodup := by
          rw [hDV]
          show ([24, 25, 26, 27, 28, 29, 30, 31, 32, 33, 34, 35, 36, 37, 38, 39, 40, 41, 42, 43, 44, 45, 46, 47, 48, 49, 50, 51, 52] : List Nat).Nodup
          decide
        refine frame_named ?_
        intro FR hFR
        simp only at hFR
        refine region_fixed2 (by kernel_rfl) DV (fun W => Below W4.heap.size W4 W) (by rw [hDV]; rfl) hnd (drew_below W4) ?hup1 ?hop1 ?hend1
        case hup1 =>
          intro ix ox ho
          rcases ix with _ | _ | _ | _ | _ | _ | _ | _ | _ | _ | _ | _ | _ | _ | _ | _ | _ | _ | _ | _ | _ | _ | _ | _ | _ | _ | _ | _ | _ | ix
          all_goals
            first
              | (obtain rfl := Option.some.inj ho; simp)
              | (exfalso; have h := (Array.getElem?_eq_some_iff.1 ho).1; simp at h; omega)
        case hop1 =>
          intro ix ox dx vx ho hdv L W hlen hf hdeps hC
          have e8 : (fillT FR DV L).getD 8 undef = .int .u64 (s : Int) := by rw [fillT_other DV L FR 8 undef (by rw [hDV]; simp)]; rw [hFR]; rfl
          have e5 : (fillT FR DV L).getD 5 undef = .pointer (some ⟨q, 0, none⟩) := by rw [fillT_other DV L FR 5 undef (by rw [hDV]; simp)]; rw [hFR]; rfl
          have e6 : (fillT FR DV L).getD 6 undef = .pointer (some ⟨q + 1, 0, none⟩) := by rw [fillT_other DV L FR 6 undef (by rw [hDV]; simp)]; rw [hFR]; rfl
          have e7 : (fillT FR DV L).getD 7 undef = .pointer (some ⟨q + 1 + 1, 0, none⟩) := by rw [fillT_other DV L FR 7 undef (by rw [hDV]; simp)]; rw [hFR]; rfl
          have hsz : FR.size = 205 := by rw [hFR]; rfl
          have hsa := HJ4.out.below hC
          have c5 := hsa.mb.cell
          have c6 := hsa.nb.cell
          have c7 := hsa.lb.cell
          clear hsa
          rcases ix with _ | _ | _ | _ | _ | _ | _ | _ | _ | _ | _ | _ | _ | _ | _ | _ | _ | _ | _ | _ | _ | _ | _ | _ | _ | _ | _ | _ | _ | ix
          · obtain rfl := Option.some.inj ho
            rw [hDV] at hdv
            obtain ⟨rfl, rfl⟩ := Prod.mk.inj (Option.some.inj hdv)
            refine .inl ⟨rfl, ?_⟩
            clear hdv hdeps hf
            unfold Oper.wpIn
            refine ⟨fun f _ => trivial, ?_⟩
            unfold fillA
            generalize fillT FR DV L = TT at *
            go_simp
          · obtain rfl := Option.some.inj ho
            rw [hDV] at hdv
            obtain ⟨rfl, rfl⟩ := Prod.mk.inj (Option.some.inj hdv)
            refine .inl ⟨rfl, ?_⟩
            clear hdv hdeps hf
            unfold Oper.wpIn
            refine ⟨fun f _ => trivial, ?_⟩
            unfold fillA
            generalize fillT FR DV L = TT at *
            go_simp
          · obtain rfl := Option.some.inj ho
            rw [hDV] at hdv
            obtain ⟨rfl, rfl⟩ := Prod.mk.inj (Option.some.inj hdv)
            have g0 : L[0]? = some true := hdeps ⟨0, .data⟩ (by simp) rfl
            have e24 : (fillT FR DV L).getD 24 undef = (.int .u64 (s : Int)) := fillT_at DV L FR 0 24 _ undef hnd (by rw [hDV]; rfl) g0 (by rw [hsz]; decide)
            have g1 : L[1]? = some true := hdeps ⟨1, .data⟩ (by simp) rfl
            have e25 : (fillT FR DV L).getD 25 undef = (.int .u64 (m : Int)) := fillT_at DV L FR 1 25 _ undef hnd (by rw [hDV]; rfl) g1 (by rw [hsz]; decide)
            refine .inl ⟨rfl, ?_⟩
            clear hdv hdeps hf
            unfold Oper.wpIn
            refine ⟨fun f _ => trivial, ?_⟩
            unfold fillA
            generalize fillT FR DV L = TT at *
            go_simp
            exact ⟨fun _ => by omega, (CallsIn.inRound _ (callsIn_wide.2 (I1.out W))).mono (fun e w' h => by obtain ⟨rfl, rfl⟩ := h; exact ⟨rfl, hC⟩)⟩
          · obtain rfl := Option.some.inj ho
            rw [hDV] at hdv
            obtain ⟨rfl, rfl⟩ := Prod.mk.inj (Option.some.inj hdv)
            have g2 : L[2]? = some true := hdeps ⟨2, .data⟩ (by simp) rfl
            have e26 : (fillT FR DV L).getD 26 undef = (.bool true) := fillT_at DV L FR 2 26 _ undef hnd (by rw [hDV]; rfl) g2 (by rw [hsz]; decide)
            refine .inl ⟨rfl, ?_⟩
            clear hdv hdeps hf
            unfold Oper.wpIn
            refine ⟨fun f _ => trivial, ?_⟩
            unfold fillA
            generalize fillT FR DV L = TT at *
            go_simp
          · obtain rfl := Option.some.inj ho
            rw [hDV] at hdv
            obtain ⟨rfl, rfl⟩ := Prod.mk.inj (Option.some.inj hdv)
            have g3 : L[3]? = some true := hdeps ⟨3, .data⟩ (by simp) rfl
            have e27 : (fillT FR DV L).getD 27 undef = (.bool false) := fillT_at DV L FR 3 27 _ undef hnd (by rw [hDV]; rfl) g3 (by rw [hsz]; decide)
            refine .inl ⟨rfl, ?_⟩
            clear hdv hdeps hf
            unfold Oper.wpIn
            refine ⟨fun f _ => trivial, ?_⟩
            unfold fillA
            generalize fillT FR DV L = TT at *
            go_simp
          · obtain rfl := Option.some.inj ho
            rw [hDV] at hdv
            obtain ⟨rfl, rfl⟩ := Prod.mk.inj (Option.some.inj hdv)
            have g4 : L[4]? = some true := hdeps ⟨4, .guard⟩ (by simp) rfl
            have e28 : (fillT FR DV L).getD 28 undef = (.bool false) := fillT_at DV L FR 4 28 _ undef hnd (by rw [hDV]; rfl) g4 (by rw [hsz]; decide)
            have y28 : (fillT FR DV L)[28]? = some (.bool false) := fillT_get hnd (by rw [hDV]; rfl) g4 (by rw [hsz]; decide)
            refine .inl ⟨by simp [Region.wanted, yielded, y28], ?_⟩
            clear hdv hdeps hf
            unfold Oper.wpIn
            refine ⟨fun f _ => trivial, ?_⟩
            unfold fillA
            generalize fillT FR DV L = TT at *
            go_simp
          · obtain rfl := Option.some.inj ho
            rw [hDV] at hdv
            obtain ⟨rfl, rfl⟩ := Prod.mk.inj (Option.some.inj hdv)
            have g5 : L[5]? = some true := hdeps ⟨5, .data⟩ (by simp) rfl
            have e29 : (fillT FR DV L).getD 29 undef = (.int .i64 (k : Int)) := fillT_at DV L FR 5 29 _ undef hnd (by rw [hDV]; rfl) g5 (by rw [hsz]; decide)
            have g4 : L[4]? = some true := hdeps ⟨4, .guard⟩ (by simp) rfl
            have e28 : (fillT FR DV L).getD 28 undef = (.bool false) := fillT_at DV L FR 4 28 _ undef hnd (by rw [hDV]; rfl) g4 (by rw [hsz]; decide)
            have y28 : (fillT FR DV L)[28]? = some (.bool false) := fillT_get hnd (by rw [hDV]; rfl) g4 (by rw [hsz]; decide)
            refine .inl ⟨by simp [Region.wanted, yielded, y28], ?_⟩
            clear hdv hdeps hf
            unfold Oper.wpIn
            refine ⟨fun f _ => trivial, ?_⟩
            unfold fillA
            generalize fillT FR DV L = TT at *
            go_simp
          · obtain rfl := Option.some.inj ho
            rw [hDV] at hdv
            obtain ⟨rfl, rfl⟩ := Prod.mk.inj (Option.some.inj hdv)
            have g6 : L[6]? = some true := hdeps ⟨6, .data⟩ (by simp) rfl
            have e30 : (fillT FR DV L).getD 30 undef = (.bool true) := fillT_at DV L FR 6 30 _ undef hnd (by rw [hDV]; rfl) g6 (by rw [hsz]; decide)
            have g4 : L[4]? = some true := hdeps ⟨4, .guard⟩ (by simp) rfl
            have e28 : (fillT FR DV L).getD 28 undef = (.bool false) := fillT_at DV L FR 4 28 _ undef hnd (by rw [hDV]; rfl) g4 (by rw [hsz]; decide)
            have y28 : (fillT FR DV L)[28]? = some (.bool false) := fillT_get hnd (by rw [hDV]; rfl) g4 (by rw [hsz]; decide)
            refine .inl ⟨by simp [Region.wanted, yielded, y28], ?_⟩
            clear hdv hdeps hf
            unfold Oper.wpIn
            refine ⟨fun f _ => trivial, ?_⟩
            unfold fillA
            generalize fillT FR DV L = TT at *
            go_simp
          · obtain rfl := Option.some.inj ho
            rw [hDV] at hdv
            obtain ⟨rfl, rfl⟩ := Prod.mk.inj (Option.some.inj hdv)
            have g7 : L[7]? = some true := hdeps ⟨7, .guard⟩ (by simp) rfl
            have e31 : (fillT FR DV L).getD 31 undef = (.bool true) := fillT_at DV L FR 7 31 _ undef hnd (by rw [hDV]; rfl) g7 (by rw [hsz]; decide)
            have y31 : (fillT FR DV L)[31]? = some (.bool true) := fillT_get hnd (by rw [hDV]; rfl) g7 (by rw [hsz]; decide)
            refine .inl ⟨by simp [Region.wanted, yielded, y31], ?_⟩
            clear hdv hdeps hf
            unfold Oper.wpIn
            refine ⟨fun f _ => trivial, ?_⟩
            unfold fillA
            generalize fillT FR DV L = TT at *
            go_simp
          · obtain rfl := Option.some.inj ho
            rw [hDV] at hdv
            obtain ⟨rfl, rfl⟩ := Prod.mk.inj (Option.some.inj hdv)
            have g7 : L[7]? = some true := hdeps ⟨7, .guard⟩ (by simp) rfl
            have e31 : (fillT FR DV L).getD 31 undef = (.bool true) := fillT_at DV L FR 7 31 _ undef hnd (by rw [hDV]; rfl) g7 (by rw [hsz]; decide)
            have y31 : (fillT FR DV L)[31]? = some (.bool true) := fillT_get hnd (by rw [hDV]; rfl) g7 (by rw [hsz]; decide)
            refine .inl ⟨by simp [Region.wanted, yielded, y31], ?_⟩
            clear hdv hdeps hf
            unfold Oper.wpIn
            refine ⟨fun f _ => trivial, ?_⟩
            unfold fillA
            generalize fillT FR DV L = TT at *
            go_simp
          · obtain rfl := Option.some.inj ho
            rw [hDV] at hdv
            obtain ⟨rfl, rfl⟩ := Prod.mk.inj (Option.some.inj hdv)
            have g8 : L[8]? = some true := hdeps ⟨8, .data⟩ (by simp) rfl
            have e32 : (fillT FR DV L).getD 32 undef = (.int .u64 (s : Int)) := fillT_at DV L FR 8 32 _ undef hnd (by rw [hDV]; rfl) g8 (by rw [hsz]; decide)
            have g9 : L[9]? = some true := hdeps ⟨9, .data⟩ (by simp) rfl
            have e33 : (fillT FR DV L).getD 33 undef = (.int .u64 (l : Int)) := fillT_at DV L FR 9 33 _ undef hnd (by rw [hDV]; rfl) g9 (by rw [hsz]; decide)
            have g7 : L[7]? = some true := hdeps ⟨7, .guard⟩ (by simp) rfl
            have e31 : (fillT FR DV L).getD 31 undef = (.bool true) := fillT_at DV L FR 7 31 _ undef hnd (by rw [hDV]; rfl) g7 (by rw [hsz]; decide)
            have y31 : (fillT FR DV L)[31]? = some (.bool true) := fillT_get hnd (by rw [hDV]; rfl) g7 (by rw [hsz]; decide)
            refine .inl ⟨by simp [Region.wanted, yielded, y31], ?_⟩
            clear hdv hdeps hf
            unfold Oper.wpIn
            refine ⟨fun f _ => trivial, ?_⟩
            unfold fillA
            generalize fillT FR DV L = TT at *
            go_simp
          · obtain rfl := Option.some.inj ho
            rw [hDV] at hdv
            obtain ⟨rfl, rfl⟩ := Prod.mk.inj (Option.some.inj hdv)
            have g7 : L[7]? = some true := hdeps ⟨7, .data⟩ (by simp) rfl
            have e31 : (fillT FR DV L).getD 31 undef = (.bool true) := fillT_at DV L FR 7 31 _ undef hnd (by rw [hDV]; rfl) g7 (by rw [hsz]; decide)
            have g10 : L[10]? = some true := hdeps ⟨10, .data⟩ (by simp) rfl
            have e34 : (fillT FR DV L).getD 34 undef = (.bool false) := fillT_at DV L FR 10 34 _ undef hnd (by rw [hDV]; rfl) g10 (by rw [hsz]; decide)
            have g4 : L[4]? = some true := hdeps ⟨4, .guard⟩ (by simp) rfl
            have e28 : (fillT FR DV L).getD 28 undef = (.bool false) := fillT_at DV L FR 4 28 _ undef hnd (by rw [hDV]; rfl) g4 (by rw [hsz]; decide)
            have y28 : (fillT FR DV L)[28]? = some (.bool false) := fillT_get hnd (by rw [hDV]; rfl) g4 (by rw [hsz]; decide)
            refine .inl ⟨by simp [Region.wanted, yielded, y28], ?_⟩
            clear hdv hdeps hf
            unfold Oper.wpIn
            refine ⟨fun f _ => trivial, ?_⟩
            unfold fillA
            generalize fillT FR DV L = TT at *
            go_simp
          · obtain rfl := Option.some.inj ho
            rw [hDV] at hdv
            obtain ⟨rfl, rfl⟩ := Prod.mk.inj (Option.some.inj hdv)
            have g4 : L[4]? = some true := hdeps ⟨4, .data⟩ (by simp) rfl
            have e28 : (fillT FR DV L).getD 28 undef = (.bool false) := fillT_at DV L FR 4 28 _ undef hnd (by rw [hDV]; rfl) g4 (by rw [hsz]; decide)
            have g11 : L[11]? = some true := hdeps ⟨11, .data⟩ (by simp) rfl
            have e35 : (fillT FR DV L).getD 35 undef = (.bool false) := fillT_at DV L FR 11 35 _ undef hnd (by rw [hDV]; rfl) g11 (by rw [hsz]; decide)
            refine .inl ⟨rfl, ?_⟩
            clear hdv hdeps hf
            unfold Oper.wpIn
            refine ⟨fun f _ => trivial, ?_⟩
            unfold fillA
            generalize fillT FR DV L = TT at *
            go_simp
          · obtain rfl := Option.some.inj ho
            rw [hDV] at hdv
            obtain ⟨rfl, rfl⟩ := Prod.mk.inj (Option.some.inj hdv)
            have g12 : L[12]? = some true := hdeps ⟨12, .data⟩ (by simp) rfl
            have e36 : (fillT FR DV L).getD 36 undef = (.bool false) := fillT_at DV L FR 12 36 _ undef hnd (by rw [hDV]; rfl) g12 (by rw [hsz]; decide)
            refine .inl ⟨rfl, ?_⟩
            clear hdv hdeps hf
            unfold Oper.wpIn
            refine ⟨fun f _ => trivial, ?_⟩
            unfold fillA
            generalize fillT FR DV L = TT at *
            go_simp
          · obtain rfl := Option.some.inj ho
            rw [hDV] at hdv
            obtain ⟨rfl, rfl⟩ := Prod.mk.inj (Option.some.inj hdv)
            have g13 : L[13]? = some true := hdeps ⟨13, .guard⟩ (by simp) rfl
            have e37 : (fillT FR DV L).getD 37 undef = (.bool false) := fillT_at DV L FR 13 37 _ undef hnd (by rw [hDV]; rfl) g13 (by rw [hsz]; decide)
            have y37 : (fillT FR DV L)[37]? = some (.bool false) := fillT_get hnd (by rw [hDV]; rfl) g13 (by rw [hsz]; decide)
            refine .inl ⟨by simp [Region.wanted, yielded, y37], ?_⟩
            clear hdv hdeps hf
            unfold Oper.wpIn
            refine ⟨fun f _ => trivial, ?_⟩
            unfold fillA
            generalize fillT FR DV L = TT at *
            go_simp
          · obtain rfl := Option.some.inj ho
            rw [hDV] at hdv
            obtain ⟨rfl, rfl⟩ := Prod.mk.inj (Option.some.inj hdv)
            have g14 : L[14]? = some true := hdeps ⟨14, .data⟩ (by simp) rfl
            have e38 : (fillT FR DV L).getD 38 undef = (.int .i64 (k : Int)) := fillT_at DV L FR 14 38 _ undef hnd (by rw [hDV]; rfl) g14 (by rw [hsz]; decide)
            have g13 : L[13]? = some true := hdeps ⟨13, .guard⟩ (by simp) rfl
            have e37 : (fillT FR DV L).getD 37 undef = (.bool false) := fillT_at DV L FR 13 37 _ undef hnd (by rw [hDV]; rfl) g13 (by rw [hsz]; decide)
            have y37 : (fillT FR DV L)[37]? = some (.bool false) := fillT_get hnd (by rw [hDV]; rfl) g13 (by rw [hsz]; decide)
            refine .inl ⟨by simp [Region.wanted, yielded, y37], ?_⟩
            clear hdv hdeps hf
            unfold Oper.wpIn
            refine ⟨fun f _ => trivial, ?_⟩
            unfold fillA
            generalize fillT FR DV L = TT at *
            go_simp
          · obtain rfl := Option.some.inj ho
            rw [hDV] at hdv
            obtain ⟨rfl, rfl⟩ := Prod.mk.inj (Option.some.inj hdv)
            have g15 : L[15]? = some true := hdeps ⟨15, .data⟩ (by simp) rfl
            have e39 : (fillT FR DV L).getD 39 undef = (.bool false) := fillT_at DV L FR 15 39 _ undef hnd (by rw [hDV]; rfl) g15 (by rw [hsz]; decide)
            have g13 : L[13]? = some true := hdeps ⟨13, .guard⟩ (by simp) rfl
            have e37 : (fillT FR DV L).getD 37 undef = (.bool false) := fillT_at DV L FR 13 37 _ undef hnd (by rw [hDV]; rfl) g13 (by rw [hsz]; decide)
            have y37 : (fillT FR DV L)[37]? = some (.bool false) := fillT_get hnd (by rw [hDV]; rfl) g13 (by rw [hsz]; decide)
            refine .inl ⟨by simp [Region.wanted, yielded, y37], ?_⟩
            clear hdv hdeps hf
            unfold Oper.wpIn
            refine ⟨fun f _ => trivial, ?_⟩
            unfold fillA
            generalize fillT FR DV L = TT at *
            go_simp
          · obtain rfl := Option.some.inj ho
            rw [hDV] at hdv
            obtain ⟨rfl, rfl⟩ := Prod.mk.inj (Option.some.inj hdv)
            have g16 : L[16]? = some true := hdeps ⟨16, .guard⟩ (by simp) rfl
            have e40 : (fillT FR DV L).getD 40 undef = (.bool false) := fillT_at DV L FR 16 40 _ undef hnd (by rw [hDV]; rfl) g16 (by rw [hsz]; decide)
            have y40 : (fillT FR DV L)[40]? = some (.bool false) := fillT_get hnd (by rw [hDV]; rfl) g16 (by rw [hsz]; decide)
            exact .inr ⟨by simp [Region.wanted, yielded, y40], fun f _ => trivial, rfl, rfl⟩
          · obtain rfl := Option.some.inj ho
            rw [hDV] at hdv
            obtain ⟨rfl, rfl⟩ := Prod.mk.inj (Option.some.inj hdv)
            have g16 : L[16]? = some true := hdeps ⟨16, .guard⟩ (by simp) rfl
            have e40 : (fillT FR DV L).getD 40 undef = (.bool false) := fillT_at DV L FR 16 40 _ undef hnd (by rw [hDV]; rfl) g16 (by rw [hsz]; decide)
            have y40 : (fillT FR DV L)[40]? = some (.bool false) := fillT_get hnd (by rw [hDV]; rfl) g16 (by rw [hsz]; decide)
            exact .inr ⟨by simp [Region.wanted, yielded, y40], fun f _ => trivial, rfl, rfl⟩
          · obtain rfl := Option.some.inj ho
            rw [hDV] at hdv
            obtain ⟨rfl, rfl⟩ := Prod.mk.inj (Option.some.inj hdv)
            have g16 : L[16]? = some true := hdeps ⟨16, .data⟩ (by simp) rfl
            have e40 : (fillT FR DV L).getD 40 undef = (.bool false) := fillT_at DV L FR 16 40 _ undef hnd (by rw [hDV]; rfl) g16 (by rw [hsz]; decide)
            have g18 : L[18]? = some true := hdeps ⟨18, .data⟩ (by simp) rfl
            have e42 : (fillT FR DV L).getD 42 undef = (undef) := fillT_at DV L FR 18 42 _ undef hnd (by rw [hDV]; rfl) g18 (by rw [hsz]; decide)
            have g13 : L[13]? = some true := hdeps ⟨13, .guard⟩ (by simp) rfl
            have e37 : (fillT FR DV L).getD 37 undef = (.bool false) := fillT_at DV L FR 13 37 _ undef hnd (by rw [hDV]; rfl) g13 (by rw [hsz]; decide)
            have y37 : (fillT FR DV L)[37]? = some (.bool false) := fillT_get hnd (by rw [hDV]; rfl) g13 (by rw [hsz]; decide)
            refine .inl ⟨by simp [Region.wanted, yielded, y37], ?_⟩
            clear hdv hdeps hf
            unfold Oper.wpIn
            refine ⟨fun f _ => trivial, ?_⟩
            unfold fillA
            generalize fillT FR DV L = TT at *
            go_simp
          · obtain rfl := Option.some.inj ho
            rw [hDV] at hdv
            obtain ⟨rfl, rfl⟩ := Prod.mk.inj (Option.some.inj hdv)
            have g13 : L[13]? = some true := hdeps ⟨13, .data⟩ (by simp) rfl
            have e37 : (fillT FR DV L).getD 37 undef = (.bool false) := fillT_at DV L FR 13 37 _ undef hnd (by rw [hDV]; rfl) g13 (by rw [hsz]; decide)
            have g19 : L[19]? = some true := hdeps ⟨19, .data⟩ (by simp) rfl
            have e43 : (fillT FR DV L).getD 43 undef = (.bool false) := fillT_at DV L FR 19 43 _ undef hnd (by rw [hDV]; rfl) g19 (by rw [hsz]; decide)
            refine .inl ⟨rfl, ?_⟩
            clear hdv hdeps hf
            unfold Oper.wpIn
            refine ⟨fun f _ => trivial, ?_⟩
            unfold fillA
            generalize fillT FR DV L = TT at *
            go_simp
          · obtain rfl := Option.some.inj ho
            rw [hDV] at hdv
            obtain ⟨rfl, rfl⟩ := Prod.mk.inj (Option.some.inj hdv)
            have g20 : L[20]? = some true := hdeps ⟨20, .data⟩ (by simp) rfl
            have e44 : (fillT FR DV L).getD 44 undef = (.bool false) := fillT_at DV L FR 20 44 _ undef hnd (by rw [hDV]; rfl) g20 (by rw [hsz]; decide)
            refine .inl ⟨rfl, ?_⟩
            clear hdv hdeps hf
            unfold Oper.wpIn
            refine ⟨fun f _ => trivial, ?_⟩
            unfold fillA
            generalize fillT FR DV L = TT at *
            go_simp
          · obtain rfl := Option.some.inj ho
            rw [hDV] at hdv
            obtain ⟨rfl, rfl⟩ := Prod.mk.inj (Option.some.inj hdv)
            have g21 : L[21]? = some true := hdeps ⟨21, .guard⟩ (by simp) rfl
            have e45 : (fillT FR DV L).getD 45 undef = (.bool false) := fillT_at DV L FR 21 45 _ undef hnd (by rw [hDV]; rfl) g21 (by rw [hsz]; decide)
            have y45 : (fillT FR DV L)[45]? = some (.bool false) := fillT_get hnd (by rw [hDV]; rfl) g21 (by rw [hsz]; decide)
            refine .inl ⟨by simp [Region.wanted, yielded, y45], ?_⟩
            clear hdv hdeps hf
            unfold Oper.wpIn
            refine ⟨fun f _ => trivial, ?_⟩
            unfold fillA
            generalize fillT FR DV L = TT at *
            go_simp
          · obtain rfl := Option.some.inj ho
            rw [hDV] at hdv
            obtain ⟨rfl, rfl⟩ := Prod.mk.inj (Option.some.inj hdv)
            have g21 : L[21]? = some true := hdeps ⟨21, .guard⟩ (by simp) rfl
            have e45 : (fillT FR DV L).getD 45 undef = (.bool false) := fillT_at DV L FR 21 45 _ undef hnd (by rw [hDV]; rfl) g21 (by rw [hsz]; decide)
            have y45 : (fillT FR DV L)[45]? = some (.bool false) := fillT_get hnd (by rw [hDV]; rfl) g21 (by rw [hsz]; decide)
            refine .inl ⟨by simp [Region.wanted, yielded, y45], ?_⟩
            clear hdv hdeps hf
            unfold Oper.wpIn
            refine ⟨fun f _ => trivial, ?_⟩
            unfold fillA
            generalize fillT FR DV L = TT at *
            go_simp
          · obtain rfl := Option.some.inj ho
            rw [hDV] at hdv
            obtain ⟨rfl, rfl⟩ := Prod.mk.inj (Option.some.inj hdv)
            have g22 : L[22]? = some true := hdeps ⟨22, .data⟩ (by simp) rfl
            have e46 : (fillT FR DV L).getD 46 undef = (.int .u64 (m : Int)) := fillT_at DV L FR 22 46 _ undef hnd (by rw [hDV]; rfl) g22 (by rw [hsz]; decide)
            have g23 : L[23]? = some true := hdeps ⟨23, .data⟩ (by simp) rfl
            have e47 : (fillT FR DV L).getD 47 undef = (.int .u64 (s : Int)) := fillT_at DV L FR 23 47 _ undef hnd (by rw [hDV]; rfl) g23 (by rw [hsz]; decide)
            have g21 : L[21]? = some true := hdeps ⟨21, .guard⟩ (by simp) rfl
            have e45 : (fillT FR DV L).getD 45 undef = (.bool false) := fillT_at DV L FR 21 45 _ undef hnd (by rw [hDV]; rfl) g21 (by rw [hsz]; decide)
            have y45 : (fillT FR DV L)[45]? = some (.bool false) := fillT_get hnd (by rw [hDV]; rfl) g21 (by rw [hsz]; decide)
            refine .inl ⟨by simp [Region.wanted, yielded, y45], ?_⟩
            clear hdv hdeps hf
            unfold Oper.wpIn
            refine ⟨fun f _ => trivial, ?_⟩
            unfold fillA
            generalize fillT FR DV L = TT at *
            go_simp
            exact ⟨fun _ => by omega, (CallsIn.inRound _ (callsIn_wide.2 (I2.out W))).mono (fun e w' h => by obtain ⟨rfl, rfl⟩ := h; exact ⟨rfl, hC⟩)⟩
          · obtain rfl := Option.some.inj ho
            rw [hDV] at hdv
            obtain ⟨rfl, rfl⟩ := Prod.mk.inj (Option.some.inj hdv)
            have g21 : L[21]? = some true := hdeps ⟨21, .guard⟩ (by simp) rfl
            have e45 : (fillT FR DV L).getD 45 undef = (.bool false) := fillT_at DV L FR 21 45 _ undef hnd (by rw [hDV]; rfl) g21 (by rw [hsz]; decide)
            have y45 : (fillT FR DV L)[45]? = some (.bool false) := fillT_get hnd (by rw [hDV]; rfl) g21 (by rw [hsz]; decide)
            refine .inl ⟨by simp [Region.wanted, yielded, y45], ?_⟩
            clear hdv hdeps hf
            unfold Oper.wpIn
            refine ⟨fun f _ => trivial, ?_⟩
            unfold fillA
            generalize fillT FR DV L = TT at *
            go_simp
          · obtain rfl := Option.some.inj ho
            rw [hDV] at hdv
            obtain ⟨rfl, rfl⟩ := Prod.mk.inj (Option.some.inj hdv)
            have g24 : L[24]? = some true := hdeps ⟨24, .data⟩ (by simp) rfl
            have e48 : (fillT FR DV L).getD 48 undef = (.int .u64 (d : Int)) := fillT_at DV L FR 24 48 _ undef hnd (by rw [hDV]; rfl) g24 (by rw [hsz]; decide)
            have g25 : L[25]? = some true := hdeps ⟨25, .data⟩ (by simp) rfl
            have e49 : (fillT FR DV L).getD 49 undef = (.int .u64 (m : Int)) := fillT_at DV L FR 25 49 _ undef hnd (by rw [hDV]; rfl) g25 (by rw [hsz]; decide)
            have g21 : L[21]? = some true := hdeps ⟨21, .guard⟩ (by simp) rfl
            have e45 : (fillT FR DV L).getD 45 undef = (.bool false) := fillT_at DV L FR 21 45 _ undef hnd (by rw [hDV]; rfl) g21 (by rw [hsz]; decide)
            have y45 : (fillT FR DV L)[45]? = some (.bool false) := fillT_get hnd (by rw [hDV]; rfl) g21 (by rw [hsz]; decide)
            refine .inl ⟨by simp [Region.wanted, yielded, y45], ?_⟩
            clear hdv hdeps hf
            unfold Oper.wpIn
            refine ⟨fun f _ => trivial, ?_⟩
            unfold fillA
            generalize fillT FR DV L = TT at *
            go_simp
            exact ⟨fun _ => by omega, (CallsIn.inRound _ (callsIn_wide.2 (I3.out W))).mono (fun e w' h => by obtain ⟨rfl, rfl⟩ := h; exact ⟨rfl, hC⟩)⟩
          · obtain rfl := Option.some.inj ho
            rw [hDV] at hdv
            obtain ⟨rfl, rfl⟩ := Prod.mk.inj (Option.some.inj hdv)
            have g26 : L[26]? = some true := hdeps ⟨26, .data⟩ (by simp) rfl
            have e50 : (fillT FR DV L).getD 50 undef = (.bool true) := fillT_at DV L FR 26 50 _ undef hnd (by rw [hDV]; rfl) g26 (by rw [hsz]; decide)
            have g21 : L[21]? = some true := hdeps ⟨21, .guard⟩ (by simp) rfl
            have e45 : (fillT FR DV L).getD 45 undef = (.bool false) := fillT_at DV L FR 21 45 _ undef hnd (by rw [hDV]; rfl) g21 (by rw [hsz]; decide)
            have y45 : (fillT FR DV L)[45]? = some (.bool false) := fillT_get hnd (by rw [hDV]; rfl) g21 (by rw [hsz]; decide)
            refine .inl ⟨by simp [Region.wanted, yielded, y45], ?_⟩
            clear hdv hdeps hf
            unfold Oper.wpIn
            refine ⟨fun f _ => trivial, ?_⟩
            unfold fillA
            generalize fillT FR DV L = TT at *
            go_simp
          · obtain rfl := Option.some.inj ho
            rw [hDV] at hdv
            obtain ⟨rfl, rfl⟩ := Prod.mk.inj (Option.some.inj hdv)
            have g21 : L[21]? = some true := hdeps ⟨21, .data⟩ (by simp) rfl
            have e45 : (fillT FR DV L).getD 45 undef = (.bool false) := fillT_at DV L FR 21 45 _ undef hnd (by rw [hDV]; rfl) g21 (by rw [hsz]; decide)
            have g27 : L[27]? = some true := hdeps ⟨27, .data⟩ (by simp) rfl
            have e51 : (fillT FR DV L).getD 51 undef = (.bool false) := fillT_at DV L FR 27 51 _ undef hnd (by rw [hDV]; rfl) g27 (by rw [hsz]; decide)
            refine .inl ⟨rfl, ?_⟩
            clear hdv hdeps hf
            unfold Oper.wpIn
            refine ⟨fun f _ => trivial, ?_⟩
            unfold fillA
            generalize fillT FR DV L = TT at *
            go_simp
          · exfalso
            have h := (Array.getElem?_eq_some_iff.1 ho).1
            simp at h
            omega
        case hend1 =>
          intro W5 hC5
          have hfin : fillA { tmps := FR, defers := [] } DV (List.replicate 29 true) = fillA { tmps := FR, defers := [] } DV [true, true, true, true, true, true, true, true, true, true, true, true, true, true, true, true, true, true, true, true, true, true, true, true, true, true, true, true, true] := rfl
          rw [show ∀ k, k = 29 → fillA { tmps := FR, defers := [] } DV (List.replicate k true) = fillA { tmps := FR, defers := [] } DV (List.replicate 29 true) from fun k hk => by rw [hk]]
          · rw [hfin, hDV, hFR]
            simp only [fillA, fillT, if_true, List.setIfInBounds_toArray, List.set_cons_succ, List.set_cons_zero]
            clear hfin hFR hnd hDV
            have HJ5 := Lib.hid (HJ4.out.below hC5)
            have HL5 := Lib.hid (HL4.out.grown hC5)
            have HB5 := Lib.hid (HB4.out.trans (hC5.mono HB4.out.size))
            have hkk : k < 2000 := by
              have h9 := HJM.out
              rcases h9 with h9 | h9
              · have h8 := HK.out
                rw [HTOP.out] at h8
                have : 2 ^ cc ≤ 2 ^ 10 := Nat.pow_le_pow_right (by omega) h9
                omega
              · omega
            have c1 := HJ5.out.lb.frozen
            have c1' := HJ5.out.lb.cell
            have c2 := (boxed_other HJ5.out.nb (x := q + 1 + 1) (by omega) (.int .u64 (s : Int))).cell
            have c3 := (boxed_other HJ5.out.nb (x := q + 1 + 1) (by omega) (.int .u64 (s : Int))).frozen
            have hnx := HJ5.out.next (k + 1) s
            have hw : IntKind.i64.wrap ((k : Int) + 1) = ((k + 1 : Nat) : Int) := by rw [IntKind.wrap_i64]; omega
            have hln := (HL5.out.other (x := q + 1 + 1) (by have := HZ6.out; omega) (.int .u64 (s : Int))).other (x := q + 1) (by have := HZ6.out; omega) (.int .i64 ((k + 1 : Nat) : Int))
            have hbn := (HB5.out.setCell (p := ⟨q + 1 + 1, 0, none⟩) (by show w.heap.size ≤ q + 1 + 1; have := HPQ.out; omega) (.int .u64 (s : Int))).setCell (p := ⟨q + 1, 0, none⟩) (by show w.heap.size ≤ q + 1; have := HPQ.out; omega) (.int .i64 ((k + 1 : Nat) : Int))
            have HLS := Lib.hid (show s = lastM m (k + 1) by rw [lastM_next, HS.out])
            obtain ⟨k', hk'⟩ : ∃ k', k' = k + 1 := ⟨_, rfl⟩
            rw [← hk'] at hnx hln hbn hw HLS
            have d1 := hnx.mb.cell
            have d2 := hnx.nb.cell
            have HNX := Lib.hid hnx
            have HLN := Lib.hid hln
            have HBN := Lib.hid hbn
            have HK' := Lib.hid hk'
            clear hnx hln hbn hC5 HJ5 HL5 HB5 hk' t1 t1' t2 t3 hkk HJ4 HL4 HB4 I1 I2 I3 hsd
            by_cases hx : 10 < cc ∧ k' = 100
            · have u1 : decide ((10 : Int) < (cc : Int)) = true := by rw [decide_eq_true_eq]; omega
              have u1' : decide (10 < cc) = true := by rw [decide_eq_true_eq]; omega
              have u2 : ((k' : Int) == 100) = true := by rw [beq_iff_eq]; omega
              have HX := Lib.hid hx
              clear hx
              gi_wp2_with fail
              refine ⟨trivial, fun _ => by omega, ?_⟩
              refine CallsIn.mono ((callsIn_wide.2 (C1.out _)).inRound _) ?_
              rintro e V2 ⟨rfl, rfl⟩
              gi_wp2_with fail
              refine ⟨HLN.out, .inr ⟨rfl, HLN.out.put, ⟨HX.out.1, by have := HX.out.2; have := HK'.out; omega⟩, ?_, ?_⟩⟩
              · rw [← HK'.out, ← HLS.out]
                exact HNX.out.kc (KC.put _ HLN.out.rcd)
              · exact HBN.out.trans (below_put (by have := HPQ.out; have := HZ6.out; omega) HLN.out.rcd)
            · have HX := Lib.hid hx
              rcases (show cc ≤ 10 ∨ (10 < cc ∧ k' ≠ 100) by omega) with h9 | ⟨h9, h8⟩
              · have u1 : decide ((10 : Int) < (cc : Int)) = false := by rw [decide_eq_false_iff_not]; omega
                have u1' : decide (10 < cc) = false := by rw [decide_eq_false_iff_not]; omega
                clear hx
                gi_wp2_with fail
                refine ⟨trivial, fun _ => by omega, ?_⟩
                refine CallsIn.mono ((callsIn_wide.2 (C1.out _)).inRound _) ?_
                rintro e V2 ⟨rfl, rfl⟩
                gi_wp2_with fail
                refine ⟨HLN.out, .inl ⟨rfl, HLN.out.put, .inl h9, ?_, ?_⟩⟩
                · rw [← HK'.out, ← HLS.out]
                  exact HNX.out.kc (KC.put _ HLN.out.rcd)
                · exact HBN.out.trans (below_put (by have := HPQ.out; have := HZ6.out; omega) HLN.out.rcd)
              · have u1 : decide ((10 : Int) < (cc : Int)) = true := by rw [decide_eq_true_eq]; omega
                have u1' : decide (10 < cc) = true := by rw [decide_eq_true_eq]; omega
                have u2 : ((k' : Int) == 100) = false := by rw [beq_eq_false_iff_ne]; omega
                have H9 := Lib.hid (And.intro h9 h8)
                clear hx h9 h8
                gi_wp2_with fail
                refine ⟨trivial, fun _ => by omega, ?_⟩
                refine CallsIn.mono ((callsIn_wide.2 (C1.out _)).inRound _) ?_
                rintro e V2 ⟨rfl, rfl⟩
                gi_wp2_with fail
                refine ⟨HLN.out, .inl ⟨rfl, HLN.out.put, .inr (by have := HJM.out; have := H9.out; have := HK'.out; omega), ?_, ?_⟩⟩
                · rw [← HK'.out, ← HLS.out]
                  exact HNX.out.kc (KC.put _ HLN.out.rcd)
                · exact HBN.out.trans (below_put (by have := HPQ.out; have := HZ6.out; omega) HLN.out.rcd)
          · rfl
  case hrest =>
    rintro W9 rc st j hlp ⟨N, hto, hsa, hbe⟩
    obtain ⟨WA, hWA⟩ : ∃ WA, WA = W9.putObj (W6.heap.size + 1) (.loop (rc .exhausted j)) := ⟨_, rfl⟩
    have hp := hlp.put (st' := .exhausted) (j' := j)
    have hbA : Below w.heap.size W9 WA := by rw [hWA]; exact below_put (by have := HPQ.out; have := HZ6.out; omega) hlp.rcd
    have HS := Lib.hid (show Sa P q m N (lastM m N) WA by rw [hWA]; exact hsa.kc (KC.put _ hlp.rcd))
    have HB := Lib.hid (hbe.trans hbA)
    have HGA := Lib.hid (globM_below HG.out (hbe.trans hbA) (Nat.le_refl _))
    rw [← hWA] at hp ⊢
    have HD := Lib.hid hp.dfr
    have HTO := Lib.hid hto
    clear hWA hp hbA hlp hto hsa hbe HSA HBW HE5 HE6
    obtain ⟨l, hl⟩ : ∃ l, l = lastM m N := ⟨_, rfl⟩
    rw [← hl] at HS
    have c5 := HS.out.mb.cell
    have c6 := HS.out.nb.cell
    have c7 := HS.out.lb.cell
    have hR13 : (10 < cc ∧ N = 100) ∨ (cc ≤ 10 ∧ N = 2 ^ cc ∧ l = m) := by
      rcases HTO.out with ⟨h, h2⟩ | h
      · refine .inr ⟨h, by rw [h2, HTOP.out], ?_⟩
        have := top_pos m
        rw [hl, h2]; unfold lastM; rw [if_neg (by omega)]
        exact sub_last HM.out
      · exact .inl h
    clear hl
    dsimp only
    gi_upto_region 13 with (fail)
    gi_cut [87] from 63 (fun s87 wx => s87 = .bool false ∧ ∃ nq : Nat, wx = WA.drewN nq)
    case first =>
      refine wpIn_wide.2 ?_
      rcases hR13 with ⟨h1, h2⟩ | ⟨h1, h2, h3⟩
      · have d1 : decide ((cc : Int) ≤ 10) = false := by rw [decide_eq_false_iff_not]; omega
        have d1' : decide (cc ≤ 10) = false := by rw [decide_eq_false_iff_not]; omega
        have d2 : decide ((10 : Int) < (cc : Int)) = true := by rw [decide_eq_true_eq]; omega
        have d2' : decide (10 < cc) = true := by rw [decide_eq_true_eq]; omega
        have d3 : ((N : Int) != 100) = false := by rw [bne_eq_false_iff_eq]; omega
        clear h1 h2
        go_quiet ((go_at_call 23; with_reducible exact Calls.quiet_of_same ((C1.out _).mono fun _ _ hh => ⟨hh.1, hh.2.symm⟩)))
        go_wp2_with fail
        go_meet
        exact ⟨rfl, _, rfl⟩
      · subst h3
        have d1 : decide ((cc : Int) ≤ 10) = true := by rw [decide_eq_true_eq]; omega
        have d1' : decide (cc ≤ 10) = true := by rw [decide_eq_true_eq]; omega
        have d2 : decide ((10 : Int) < (cc : Int)) = false := by rw [decide_eq_false_iff_not]; omega
        have d2' : decide (10 < cc) = false := by rw [decide_eq_false_iff_not]; omega
        have hp9 : 2 ^ cc ≤ 2 ^ 10 := Nat.pow_le_pow_right (by omega) h1
        have hpi : (2 : Int) ^ cc = (N : Int) := by rw [h2, Int.natCast_pow]; rfl
        have hw : IntKind.i64.wrap (N : Int) = (N : Int) := by rw [IntKind.wrap_i64]; omega
        have hu : IntKind.u64.wrap (cc : Int) = (cc : Int) := by rw [IntKind.wrap_u64]; omega
        have d3 : ((N : Int) != (N : Int)) = false := by simp
        have d4 : ((l : Int) != (l : Int)) = false := by simp
        clear h1 h2 hp9
        go_quiet ((go_at_call 23; with_reducible exact Calls.quiet_of_same ((C1.out _).mono fun _ _ hh => ⟨hh.1, hh.2.symm⟩)))
        go_wp2_with fail
        go_meet
        exact ⟨rfl, _, rfl⟩
    case rest =>
      obtain ⟨rfl, nq, rfl⟩ := hcut
      obtain ⟨WB, hWB⟩ : ∃ WB, WB = WA.drewN nq := ⟨_, rfl⟩
      have HSB := Lib.hid (show Sa P q m N l WB by rw [hWB]; exact HS.out.below (below_drewN (Below.refl _ WA) nq))
      have HBB0 := Lib.hid (show Below w.heap.size w WB by rw [hWB]; exact below_drewN HB.out nq)
      have HGB := Lib.hid (show GlobM WB by rw [hWB]; exact globM_below HGA.out (below_drewN (Below.refl _ WA) nq) (Nat.le_refl _))
      have HDB := Lib.hid (show WB.heap[W6.heap.size]? = some (.deferred (some [])) by rw [hWB]; exact HD.out)
      rw [← hWB]
      clear hWB HS HB HGA HD c5 c6 c7 hR13 HTO
      have c5 := HSB.out.mb.cell
      obtain ⟨B, hB⟩ : ∃ B, B = WB.heap.size := ⟨_, rfl⟩
      have HBE := Lib.hid hB
      have HG0 := Lib.hid (show GlobM WB.drew from globM_below HGB.out (drew_below WB) (Nat.le_refl _))
      clear hB
      gi_upto_region 15 with (fail)
      gi_cut [9] from 88 (fun s9 wx => ∃ (ab : Nat) (V : Nat → Value) (Fs : Nat → List Nat), s9 = .slice (some ⟨ab, 0, none⟩) 3 3 ∧ Hid (Al B ab V Fs (pick3 (natI (numsF m.testBit 64)) (natI (numsF b.testBit 64)) (natI (numsF m.testBit 64))) wx) ∧ Hid (Below B WB wx))
      case first =>
        refine wpIn_wide.2 ?_
        go_region_held3 (fun W => W.cell? ⟨q, 0, none⟩ = some (.int .u64 (m : Int))) (first | assumption | go_keep)
          (first | (go_at_call 29; first
            | ((with_reducible refine (numbers_any HM.out _ HG2.out).mono ?_); rintro e w3' ⟨v2, F2, rfl, hir2, hb3⟩; obtain ⟨a2, n2, c2', rfl⟩ : ∃ a n c, v2 = .slice a n c := ⟨_, _, _, hir2.slice.choose_spec.choose_spec⟩; have HI2 := Lib.hid hir2; have HB3 := Lib.hid hb3; have c8 := (boxed_below (boxed_below (boxed_below (boxed_below HSB.out.mb (drew_below WB)) HN1.out) HN2.out) hb3).cell; clear hir2 hb3)
            | ((with_reducible refine (numbers_any HBB.out _ HG1.out).mono ?_); rintro e w2' ⟨v1, F1, rfl, hir1, hb2⟩; obtain ⟨a1, n1, c1', rfl⟩ : ∃ a n c, v1 = .slice a n c := ⟨_, _, _, hir1.slice.choose_spec.choose_spec⟩; have HI1 := Lib.hid hir1; have HN2 := Lib.hid hb2; have HG2 := Lib.hid (globM_below HG1.out hb2 (Nat.le_refl _)); have c7 := (boxed_below (boxed_below (boxed_below HSB.out.mb (drew_below WB)) HN1.out) hb2).cell; clear hir1 hb2)
            | ((with_reducible refine (numbers_any HM.out _ HG0.out).mono ?_); rintro e w1' ⟨v0, F0, rfl, hir0, hb1⟩; obtain ⟨a0, n0, c0', rfl⟩ : ∃ a n c, v0 = .slice a n c := ⟨_, _, _, hir0.slice.choose_spec.choose_spec⟩; have HI0 := Lib.hid hir0; have HN1 := Lib.hid hb1; have HG1 := Lib.hid (globM_below HG0.out hb1 (Nat.le_refl _)); have c6 := (boxed_below (boxed_below HSB.out.mb (drew_below WB)) hb1).cell; clear hir0 hb1)))
        go_wp2_with fail
        go_meet
        exact ⟨w3'.heap.size, pick3 _ _ _, pick3 F0 F1 F2, rfl, Lib.hid (al_new HI0.out HN1.out HI1.out HN2.out HI2.out HB3.out HBE.out), Lib.hid (by rw [HBE.out]; exact (drew_below WB).trans (((HN1.out.trans (HN2.out.mono HN1.out.size)).trans (HB3.out.mono (Nat.le_trans HN1.out.size HN2.out.size))).alloc (Nat.le_trans HN1.out.size (Nat.le_trans HN2.out.size HB3.out.size)) _))⟩
      case rest =>
        obtain ⟨ab, V, Fs, rfl, HAL, HBW⟩ := hcut
        have HP9 := Lib.hid (show P < B from by rw [HBE.out]; exact HSB.out.res.lt)
        have HQ9 := Lib.hid (show W6.heap.size < B from by rw [HBE.out]; exact some_lt HDB.out)
        have HFEW := Lib.hid (show ∀ i, i < 3 → (pick3 (natI (numsF m.testBit 64)) (natI (numsF b.testBit 64)) (natI (numsF m.testBit 64)) i).length ≤ 64 from fun i _ => by
          have nl : ∀ f : Nat → Bool, (natI (numsF f 64)).length ≤ 64 := fun f => by rw [List.length_map, nums_len]; exact cntF_le f 64
          unfold pick3
          split
          · exact nl _
          · split <;> exact nl _)
        generalize pick3 (natI (numsF m.testBit 64)) (natI (numsF b.testBit 64)) (natI (numsF m.testBit 64)) = X at HAL HFEW
        gi_wp2_with fail
        gi_loopw [10] (fun v10 wr => ∃ i : Nat, v10 = .int .i64 (i : Int) ∧ i ≤ 3 ∧ Hid (Al B ab V Fs (midR X i 0) wr) ∧ Hid (Below B WB wr)) (fun v10 _ => 3 - (intOf v10).toNat)
        case atStart => exact ⟨0, rfl, by omega, Lib.hid (HAL.out.congr fun j _ => midR_zero X j), HBW⟩
        case round =>
          obtain ⟨i, rfl, hi3, HR, HRB⟩ := hrel
          clear HAL HBW HGB c5 HG0 h1 hcle C1 HTOP HCC HGL HM HBB HG
          rcases Nat.lt_or_ge i 3 with hi | hi
          · have hnx : IntKind.i64.wrap ((i : Int) + 1) = (i : Int) + 1 := by rw [IntKind.wrap_i64]; omega
            have hng : IntKind.i64.wrap (-(i : Int)) = -(i : Int) := by rw [IntKind.wrap_i64]; omega
            have hmk : IntKind.i64.wrap (-(i : Int) - 1) = -(i : Int) - 1 := by rw [IntKind.wrap_i64]; omega
            obtain ⟨n, hnX⟩ : ∃ n, n = (X i).length := ⟨_, rfl⟩
            have hn64 := HFEW.out i hi
            rw [← hnX] at hn64
            have HNX := Lib.hid hnX
            clear hnX
            gi_wp2_with fail
            gi_loopw [11] (fun v11 wr => ∃ k : Nat, v11 = .int .i64 (k : Int) ∧ k ≤ n ∧ Hid (Al B ab V Fs (midR X i k) wr) ∧ Hid (Below B WB wr)) (fun v11 _ => n - (intOf v11).toNat)
            case atStart => exact ⟨0, rfl, by omega, HR, HRB⟩
            case round =>
              obtain ⟨k, rfl, hk, HR2, HRB2⟩ := hrel
              clear HR HRB
              have hln : (midR X i k i).length = n := by rw [midR_len X i k i (by rw [← HNX.out]; exact hk)]; exact HNX.out.symm
              rcases Nat.lt_or_ge k n with hlt | hge
              · obtain ⟨x, hx⟩ : ∃ x, (midR X i k i)[k]? = some x := ⟨_, List.getElem?_eq_getElem (by rw [hln]; exact hlt)⟩
                obtain ⟨b2, c2, hV, _, hc2⟩ := (HR2.out.row i hi).cell hx
                rw [hln] at hV
                have c9 := HR2.out.cell hi
                rw [hV] at c9
                have hfz := ir_frozen (by have := HR2.out.row i hi; rw [hV, ← hln] at this; exact this) k
                have hkx : IntKind.i64.wrap ((k : Int) + 1) = (k : Int) + 1 := by rw [IntKind.wrap_i64]; omega
                have HS := Lib.hid (HR2.out.set hi hln.symm hV (by rw [hln]; exact hlt) (-(i : Int) - 1))
                clear hln hV hx
                gi_wp2_with fail
                go_roundw
                case rel =>
                  refine ⟨k + 1, by go_num, by omega, Lib.hid (HS.out.1.congr fun j _ => midR_step X i k j (by rw [← HNX.out]; exact hlt)), Lib.hid (HRB2.out.setCell (p := ⟨b2, k, none⟩) HS.out.2 _)⟩
                case measure => simp [intOf]; omega
              · obtain rfl : k = n := by omega
                obtain ⟨a2, c2, hV⟩ := (HR2.out.row i hi).slice
                rw [hln] at hV
                have c9 := HR2.out.cell hi
                rw [hV] at c9
                clear hln hV
                gi_wp2_with fail
                go_roundw
                case rel => exact ⟨i + 1, by go_num, by omega, Lib.hid (HR2.out.congr fun j _ => by rw [HNX.out]; exact midR_next X i j), HRB2⟩
                case measure => simp [intOf]; omega
          · have HAL := Lib.hid (HR.out.congr (Y := mkR X) fun j hj => by rw [show i = 3 by omega]; exact midR_end X j hj)
            have HFW := Lib.hid (show ∀ i, i < 3 → (mkR X i).length ≤ 64 from fun i hi => by unfold mkR; rw [List.length_replicate]; exact HFEW.out i hi)
            have HYR := Lib.hid (show ∀ i, mkR X i = List.replicate (mkR X i).length (-(i : Int) - 1) from fun i => by unfold mkR; rw [List.length_replicate])
            generalize mkR X = Y at HAL HFW HYR
            clear HR HFEW
            obtain ⟨S, hS⟩ : ∃ S, S = wr.heap.size := ⟨_, rfl⟩
            have HGW := Lib.hid (Gw.first HAL.out hS (by rw [hS]; exact Nat.le_trans (by rw [HBE.out]; exact Nat.le_refl _) HRB.out.size))
            clear HAL hS
            gi_wp2_with fail
            gi_loopw [12, 13] (fun v12 v13 wr => ∃ (i : Nat) (Gs : Nat → List Nat) (gv : Nat → Value) (ga : Option Addr) (gn gc : Nat), v12 = .slice ga gn gc ∧ v13 = .int .i64 (i : Int) ∧ i ≤ 3 ∧ Hid (Gw B S ab V Fs Y Gs gv i (.slice ga gn gc) wr) ∧ Hid (Below B WB wr)) (fun _ v13 _ => 3 - (intOf v13).toNat)
            case atStart => exact ⟨0, _, _, _, _, _, rfl, rfl, by omega, HGW, HRB⟩
            case round =>
              obtain ⟨i, Gs, gv, ga, gn, gc, rfl, rfl, hi3, HR, HRB2⟩ := hrel
              clear HGW HRB
              rcases Nat.lt_or_ge i 3 with hi | hi
              · have hnx : IntKind.i64.wrap ((i : Int) + 1) = (i : Int) + 1 := by rw [IntKind.wrap_i64]; omega
                have t9 : decide ((i : Int) < 3) = true := by rw [decide_eq_true_eq]; omega
                have h100 : IntKind.i64.wrap (100 + (i : Int)) = 100 + (i : Int) := by rw [IntKind.wrap_i64]; omega
                obtain ⟨a7, n7, c7, hV⟩ : ∃ a n c, V i = .slice a n c := ⟨_, _, _, (HR.out.al.row i hi).slice.choose_spec.choose_spec⟩
                have c9 := HR.out.al.cell hi
                rw [hV] at c9
                obtain ⟨T, hT⟩ : ∃ T, T = wr.heap.size := ⟨_, rfl⟩
                have HI := Lib.hid (show Gi B S T ab V Fs Y Gs gv i (.slice ga gn gc) 0 (Fs i) (.slice a7 n7 c7) wr by rw [hT, ← hV]; exact Gi.start HR.out hi)
                clear hV hT
                gi_wp2_with fail
                gi_loopw [14, 15] (fun v14 v15 wr => ∃ (k : Nat) (F : List Nat) (sa : Option Addr) (sn sc : Nat), v15 = .int .i64 (k : Int) ∧ v14 = .slice sa sn sc ∧ k ≤ 40 ∧ Hid (Gi B S T ab V Fs Y Gs gv i (.slice ga gn gc) k F (.slice sa sn sc) wr) ∧ Hid (Below B WB wr)) (fun _ v15 _ => 40 - (intOf v15).toNat)
                case atStart => exact ⟨0, _, _, _, _, rfl, rfl, by omega, HI, HRB2⟩
                case round =>
                  obtain ⟨k, F, sa, sn, sc, rfl, rfl, hk, HI2, HRB3⟩ := hrel
                  clear HI HRB2 HR c9
                  rcases Nat.lt_or_ge k 40 with hlt | hge
                  · have hkx : IntKind.i64.wrap ((k : Int) + 1) = (k : Int) + 1 := by rw [IntKind.wrap_i64]; omega
                    have HFI := Lib.hid (HFW.out i hi)
                    have HBWR := Lib.hid (show B ≤ wr.heap.size from Nat.le_trans HI2.out.gw.BS HI2.out.gw.SW)
                    gi_wp2_with (gi_at_builtin; refine wpListIn_irk (w0 := wr) rfl (.tmp 129) (.tmp 132) rfl HI2.out.cur (100 + (i : Int)) rfl rfl rfl (by have := HFI.out; simp; omega) HBWR.out ?_; intro v' G W5 k1 k2 k3 k4; obtain ⟨sa5, sn5, sc5, rfl⟩ : ∃ a n c, v' = .slice a n c := ⟨_, _, _, k1.slice.choose_spec.choose_spec⟩; have K := Lib.hid (HI2.out.step hi k1 k2 k3 k4); have KB := Lib.hid (HRB3.out.trans (k2.toBelow HBWR.out (fun x hx => (HI2.out.cur.ty x hx).1))); clear k1 k2 k3 k4)
                    go_roundw
                    case rel => exact ⟨k + 1, _, _, _, _, by go_num, rfl, by omega, K, KB⟩
                    case measure => simp [intOf]; omega
                  · obtain rfl : k = 40 := by omega
                    have HSW := Lib.hid HI2.out.gw.SW
                    gi_wp2_with (gi_at_builtin; refine wpListIn_lrow (w0 := wr) rfl (.tmp 134) (.tmp 136) rfl (vs := (List.range i).map gv) (by simp) HI2.out.gw.row sa sn sc rfl rfl rfl (by simp; omega) HSW.out ?_; intro v' W5 k1 k2; obtain ⟨ga5, gn5, gc5, rfl⟩ : ∃ a n c, v' = .slice a n c := ⟨_, _, _, (own_slice5 k1).choose_spec.choose_spec⟩; have K := Lib.hid (HI2.out.next k1 k2); have KB := Lib.hid (HRB3.out.trans (k2.toBelow (Nat.le_trans HI2.out.gw.BS HSW.out) (own_low HI2.out.gw.row HI2.out.gw.BS))); clear k1 k2)
                    go_roundw
                    case rel => exact ⟨i + 1, _, _, _, _, _, rfl, by go_num, by omega, K, KB⟩
                    case measure => simp [intOf]; omega
              · obtain rfl : i = 3 := by omega
                obtain ⟨gb, gc9, hv, _⟩ := HR.out.cell (j := 0) (by omega)
                injection hv with e1 e2 e3
                subst e1 e2 e3
                gi_wp2_with fail
                gi_loopw [16] (fun v16 wr => ∃ i : Nat, v16 = .int .i64 (i : Int) ∧ i ≤ 3 ∧ Hid (Gw B S ab V Fs Y Gs gv 3 (.slice (some ⟨gb, 0, none⟩) 3 gc) wr) ∧ Hid (Below B WB wr)) (fun v16 _ => 3 - (intOf v16).toNat)
                case atStart => exact ⟨0, rfl, by omega, HR, HRB2⟩
                case round =>
                  obtain ⟨i, rfl, hi3, HR4, HRB4⟩ := hrel
                  clear HR HRB2
                  rcases Nat.lt_or_ge i 3 with hi | hi
                  · have hnx : IntKind.i64.wrap ((i : Int) + 1) = (i : Int) + 1 := by rw [IntKind.wrap_i64]; omega
                    have hng : IntKind.i64.wrap (-(i : Int)) = -(i : Int) := by rw [IntKind.wrap_i64]; omega
                    have hmk : IntKind.i64.wrap (-(i : Int) - 1) = -(i : Int) - 1 := by rw [IntKind.wrap_i64]; omega
                    have h100 : IntKind.i64.wrap (100 + (i : Int)) = 100 + (i : Int) := by rw [IntKind.wrap_i64]; omega
                    have t1 : ((-(i : Int) - 1) != (-(i : Int) - 1)) = false := by simp
                    have t2 : ((100 + (i : Int)) != (100 + (i : Int))) = false := by simp
                    obtain ⟨n, hnX⟩ : ∃ n, n = (Y i).length := ⟨_, rfl⟩
                    have hn64 := HFW.out i hi
                    have hYi := HYR.out i
                    rw [← hnX] at hn64 hYi
                    have HYI := Lib.hid hYi
                    have HNX := Lib.hid hnX
                    clear hnX hYi
                    obtain ⟨N, hN⟩ : ∃ N, N = n + 40 := ⟨_, rfl⟩
                    have hL : (Y i ++ List.replicate 40 (100 + (i : Int))).length = N := by rw [List.length_append, ← HNX.out, List.length_replicate, hN]
                    have HLL := Lib.hid hL
                    clear hL
                    gi_wp2_with fail
                    gi_loopw [17] (fun v17 wr => ∃ k : Nat, v17 = .int .i64 (k : Int) ∧ k ≤ N ∧ Hid (Gw B S ab V Fs Y Gs gv 3 (.slice (some ⟨gb, 0, none⟩) 3 gc) wr) ∧ Hid (Below B WB wr)) (fun v17 _ => N - (intOf v17).toNat)
                    case atStart => exact ⟨0, rfl, by omega, HR4, HRB4⟩
                    case round =>
                      obtain ⟨k, rfl, hk, HR5, HRB5⟩ := hrel
                      clear HR4 HRB4
                      obtain ⟨g2, gc2, hv2, hcg⟩ := HR5.out.cell (j := i) hi
                      injection hv2 with e1 _ _
                      injection e1 with e1
                      injection e1 with e1 _ _
                      subst e1
                      have hca := HR5.out.al.cell hi
                      rcases Nat.lt_or_ge k N with hlt | hge
                      · have hkx : IntKind.i64.wrap ((k : Int) + 1) = (k : Int) + 1 := by rw [IntKind.wrap_i64]; omega
                        rcases Nat.lt_or_ge k n with hkn | hkn
                        · have hyk : (Y i)[k]? = some (-(i : Int) - 1) := by rw [HYI.out, List.getElem?_replicate, if_pos hkn]
                          obtain ⟨b6, c6, hV, _, hc6⟩ := (HR5.out.al.row i hi).cell hyk
                          obtain ⟨b7, c7, hW, _, hc7⟩ := (HR5.out.gr i hi).cell (k := k) (x := -(i : Int) - 1) (by rw [List.getElem?_append_left (by rw [← HNX.out]; exact hkn)]; exact hyk)
                          rw [hV, ← HNX.out] at hca
                          rw [hW, HLL.out] at hcg
                          clear hV hW hyk
                          have t3 : decide ((k : Int) < (n : Int)) = true := by rw [decide_eq_true_eq]; omega
                          have t4 : decide (k < n) = true := by rw [decide_eq_true_eq]; omega
                          have t5 : decide ((n : Int) ≤ (k : Int)) = false := by rw [decide_eq_false_iff_not]; omega
                          have t6 : decide (n ≤ k) = false := by rw [decide_eq_false_iff_not]; omega
                          gi_wp2_with fail
                          go_roundw
                          case rel => exact ⟨k + 1, by go_num, by omega, HR5, HRB5⟩
                          case measure => simp [intOf]; omega
                        · obtain ⟨a6, c6, hV⟩ := (HR5.out.al.row i hi).slice
                          obtain ⟨b7, c7, hW, _, hc7⟩ := (HR5.out.gr i hi).cell (k := k) (x := 100 + (i : Int)) (by rw [List.getElem?_append_right (by rw [← HNX.out]; exact hkn), List.getElem?_replicate, if_pos (by rw [← HNX.out]; omega)])
                          rw [hV, ← HNX.out] at hca
                          rw [hW, HLL.out] at hcg
                          clear hV hW
                          have t3 : decide ((k : Int) < (n : Int)) = false := by rw [decide_eq_false_iff_not]; omega
                          have t4 : decide (k < n) = false := by rw [decide_eq_false_iff_not]; omega
                          have t5 : decide ((n : Int) ≤ (k : Int)) = true := by rw [decide_eq_true_eq]; omega
                          have t6 : decide (n ≤ k) = true := by rw [decide_eq_true_eq]; omega
                          gi_wp2_with fail
                          go_roundw
                          case rel => exact ⟨k + 1, by go_num, by omega, HR5, HRB5⟩
                          case measure => simp [intOf]; omega
                      · obtain rfl : k = N := by omega
                        obtain ⟨a7, c7, hW⟩ := (HR5.out.gr i hi).slice
                        rw [hW, HLL.out] at hcg
                        clear hW hca
                        gi_wp2_with fail
                        go_roundw
                        case rel => exact ⟨i + 1, by go_num, by omega, HR5, HRB5⟩
                        case measure => simp [intOf]; omega
                  · obtain rfl : i = 3 := by omega
                    have hbw : Below WB.heap.size WB wr := by have := HRB4.out; rw [HBE.out] at this; exact this
                    have hres := boxed_below HSB.out.res hbw
                    have hdf := (hbw.block _ (some_lt HDB.out)).trans HDB.out
                    have hall := HBB0.out.trans (hbw.mono HBB0.out.size)
                    have d2 := hres.frozen
                    have d3 := hres.cell
                    have hPq := HSB.out.lt
                    obtain ⟨V2, hV2⟩ : ∃ V2, V2 = wr.setCell ⟨P, 0, none⟩ (.bool true) := ⟨_, rfl⟩
                    have hk2 : V2.heap[W6.heap.size]? = some (.deferred (some [])) := by rw [hV2]; exact (heap_setCell_other wr ⟨P, 0, none⟩ _ _ (by show W6.heap.size ≠ P; have := HZ6.out; omega)).trans hdf
                    have hr2 : Boxed V2 P 4 (.bool true) := by rw [hV2]; exact hres.set _
                    have hb2 : Below w.heap.size w V2 := by rw [hV2]; exact hall.setCell (p := ⟨P, 0, none⟩) (by show w.heap.size ≤ P; have := HP.out; omega) _
                    have hr3 : Boxed (V2.putObj W6.heap.size (.deferred none)) P 4 (.bool true) := (World.putObj_heap_other (by have := HZ6.out; omega)).trans hr2
                    have hb3 : Below w.heap.size w (V2.putObj W6.heap.size (.deferred none)) := hb2.trans (below_put (by have := HZ6.out; have := HPQ.out; omega) hk2)
                    have HK2 := Lib.hid hk2
                    have HR3 := Lib.hid hr3.cell
                    have HB3 := Lib.hid hb3
                    have HV2 := Lib.hid hV2
                    clear hk2 hr2 hb2 hr3 hb3 hV2 hbw hres hdf hall
                    gi_wp2_with fail
                    rw [← HV2.out]
                    refine ⟨by simp, .inl ⟨_, _, rfl, run_takeDeferred HK2.out, ?_⟩⟩
                    refine ⟨.bool true, ?_, rfl, HB3.out⟩
                    simp [results, Tryd.f7, go_sem, HR3.out]
theorem maskall_walk {m b : Nat} (hm : Wd m) (hb : Wd b) (w : World) (hG : GlobM w) : Calls Tryd.prog 7 #[.int .u64 (m : Int), .int .u64 (b : Int)] w fun e w' => e = .returned (.bool true) ∧ Below w.heap.size w w' :=
  (callsIn_wide (n := 5)).1 (maskall_in 5 hm hb w hG (Nat.le_refl _))
end Go.Proofs.YtngfopnefmknoaaDoor
