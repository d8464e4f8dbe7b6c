/- MaskOne: the walk. -/
import Derived.Test.YtngfopnefmknoaaDoorMkRef
import Derived.Test.YtngfopnefmknoaaDoorMkFixed
import Derived.Test.YtngfopnefmknoaaDoorMkSelect
set_option linter.all false
namespace Go.Proofs.YtngfopnefmknoaaDoor
open Go.RowKit Go.Shelf
attribute [local go_sem] Oper.semAt_some
set_option maxRecDepth 100000
theorem opIn_load_set {F : Fence} {n : Nat} {w : World} {o : Oper} {a : Act} {K : Act → World → Prop} {Q : Exit → Act → World → Prop} {b : Nat} {f : Nat → Bool} (x : Operand) (ho : o.op = .load 25 x) (hx : a.eval x = .pointer (some ⟨b, 0, none⟩)) (h : Bk w b 25 (setL f))
    (hK : K (a.put o.dst (setV f)) w) : o.wpIn F n Tryd.prog a w K Q := by
  unfold Oper.wpIn
  refine ⟨?_, ?_⟩
  · simp [Oper.about, ho]
  · rw [semAt_any _ _ _ (by rw [ho]; intro c hc'; cases hc')]
    unfold execOp
    simp only [ho, hx, Sem.run_bind, Sem.run_pure, run_load_set h, Result.andThen_ok]
    exact hK
theorem word_put (m : Nat) (hm : Wd m) (i : Int) (b : Bool) : wordF (putF m.testBit i b) 64 = if b then m ||| onlyM i else lessM m (onlyM i) := by
  have hw : Wd (if b then m ||| onlyM i else lessM m (onlyM i)) := by split; exact wd_or hm (wd_only i); exact wd_less _ hm
  refine word_eq hw fun j hj => ?_
  unfold putF
  cases b
  · simp only [Bool.false_eq_true, if_false, less_bit, only_bit]
    by_cases e : (j : Int) = i
    · rw [if_pos e, decide_eq_true ⟨e.symm, hj⟩]; simp
    · rw [if_neg e, decide_eq_false (by omega)]; simp
  · simp only [if_true, Nat.testBit_or, only_bit]
    by_cases e : (j : Int) = i
    · rw [if_pos e, decide_eq_true ⟨e.symm, hj⟩]; simp
    · rw [if_neg e, decide_eq_false (by omega)]; simp
theorem word_not (m : Nat) (hm : Wd m) (i : Int) : wordF (notF m.testBit i) 64 = lessM (belowM i) m := by
  refine word_eq (wd_less _ (wd_below i)) fun j hj => ?_
  unfold notF
  rw [less_bit, below_bit, show decide ((j : Int) < i ∧ j < 64) = decide ((j : Int) < i) from decide_eq_decide.2 (by omega)]
set_option maxHeartbeats 8000000 in
theorem maskone_in (n : Nat) {m : Nat} (hm : Wd m) (i : Int) (hi : In i) (w : World) (hG : GlobM w) (hn : 4 ≤ n) : CallsIn Fence.wide n Tryd.prog 3 #[.int .u64 (m : Int), .int .i64 i] w fun e w' => e = .returned (.bool true) ∧ Below w.heap.size w w' := by
  have h1 : 1 ≤ n := by omega
  have A1 := Lib.hid (fun W => has_any hm i hi W)
  have A2 := Lib.hid (fun W => rhas_any m.testBit i W)
  have A3 := Lib.hid (fun W => with_any hm i hi W)
  have A4 := Lib.hid (fun W => rput_any m.testBit i true W)
  have A5 := Lib.hid (fun W => word_any (putF m.testBit i true) W)
  rw [word_put m hm i true, if_pos rfl] at A5
  have A6 := Lib.hid (fun W => without_any hm i hi W)
  have A7 := Lib.hid (fun W => rput_any m.testBit i false W)
  have A8 := Lib.hid (fun W => word_any (putF m.testBit i false) W)
  rw [word_put m hm i false, if_neg (by decide)] at A8
  have A9 := Lib.hid (fun W => not_any hm i hi W)
  have A10 := Lib.hid (fun W => rnot_any m.testBit i W)
  have A11 := Lib.hid (fun W => word_any (notF m.testBit i) W)
  rw [word_not m hm i] at A11
  have B1 := Lib.hid (fun W => rank_any hm i hi W)
  have B2 := Lib.hid (fun W => rrank_any m.testBit i W)
  change Hid (∀ W, Calls _ _ _ _ fun e w' => e = .returned (.int .i64 ((rankF m.testBit i : Nat) : Int)) ∧ _) at B2
  have B3 := Lib.hid (fun W => count_any hm W)
  have B4 := Lib.hid (fun W => rrank_any m.testBit 64 W)
  rw [show min (64 : Int).toNat 64 = 64 from rfl] at B4
  have S1 := Lib.hid (fun W h => select_any hm i hi W h)
  have S2 := Lib.hid (fun W => rsel_any m.testBit i W)
  have N1 := Lib.hid (fun W h => next_any hm i hi W h)
  have N2 := Lib.hid (fun W => rnext_any m.testBit i W)
  have O1 := Lib.hid (fun W => rof_any hm W)
  have HG := Lib.hid hG
  have hmd := hm
  generalize hasF m.testBit i = hb at A1 A2
  generalize m ||| onlyM i = wi at A3 A5
  generalize lessM m (onlyM i) = wo at A6 A8
  generalize lessM (belowM i) m = nn at A9 A11
  generalize rankF m.testBit i = rk at B1 B2
  generalize cntF m.testBit 64 = cc at B3 B4
  unfold SelP optV at S1
  unfold optR at S2 N2
  unfold optV at N1
  obtain ⟨x, hx⟩ : ∃ x, x = (((selF m.testBit i).getD 0 : Nat) : Int) := ⟨_, rfl⟩
  obtain ⟨y, hy⟩ : ∃ y, y = (selF m.testBit i).isSome := ⟨_, rfl⟩
  obtain ⟨u, hu⟩ : ∃ u, u = (((nextF m.testBit i).getD 0 : Nat) : Int) := ⟨_, rfl⟩
  obtain ⟨v, hv⟩ : ∃ v, v = (nextF m.testBit i).isSome := ⟨_, rfl⟩
  rw [← hx, ← hy] at S1 S2
  rw [← hu, ← hv] at N1 N2
  clear hx hy hu hv hm hG hi
  have t1 : (hb != hb) = false := by simp
  have t2 : ((wi : Int) != (wi : Int)) = false := by simp
  have t3 : ((wo : Int) != (wo : Int)) = false := by simp
  have t4 : ((nn : Int) != (nn : Int)) = false := by simp
  have t5 : ((rk : Int) == (rk : Int)) = true := by simp
  have t6 : (x == x) = true := by simp
  have t7 : (y == y) = true := by simp
  have t8 : (u == u) = true := by simp
  have t9 : (v == v) = true := by simp
  have t10 : ((cc : Int) == (cc : Int)) = true := by simp
  have u1 : IntKind.u64.wrap (m : Int) = (m : Int) := by rw [IntKind.wrap_u64]; unfold Wd at hmd; omega
  clear hmd
  refine callsIn_of_wp Tryd.func3 rfl trivial ?_ rfl
  simp only [Tryd.ntmps3, List.size_toArray, List.length_cons, List.length_nil, Nat.reduceAdd, Nat.reduceSub, Array.replicate_succ, Array.replicate_zero, List.push_toArray, List.append_toArray, List.nil_append, List.cons_append]
  gi_wp2_with fail
  refine ⟨trivial, ?_⟩
  refine (callsIn_wide.2 (O1.out w)).mono ?_
  rintro e w1 ⟨rfl, hb1⟩
  have HB1 := Lib.hid hb1
  clear hb1
  gi_wp2_with (refine wpListIn_new_set (w0 := w1) rfl (.tmp 6) (.tmp 17) rfl rfl rfl rfl ?_; intro w2 k1 k3; have HC2 := Lib.hid (And.intro k1 (HB1.out.trans (k3.mono HB1.out.size))); clear k1 k3)
  generalize w1.heap.size = sb at HC2
  clear HB1 O1
  refine ⟨trivial, ?_⟩
  refine (callsIn_wide.2 (S1.out w2 (globM_below HG.out HC2.out.2 (Nat.le_refl _)))).mono ?_
  rintro e w3 ⟨rfl, hb3⟩
  have HC3 := Lib.hid (And.intro (HC2.out.1.below hb3) (HC2.out.2.trans (hb3.mono HC2.out.2.size)))
  clear hb3 HC2 S1
  gi_wp2_with (refine wpListIn_load_set rfl (.tmp 6) rfl rfl HC3.out.1 ?_)
  refine ⟨trivial, ?_⟩
  refine (callsIn_wide.2 (S2.out w3)).mono ?_
  rintro e w4 ⟨rfl, hb4⟩
  have HC4 := Lib.hid (And.intro (HC3.out.1.below hb4) (HC3.out.2.trans (hb4.mono HC3.out.2.size)))
  clear hb4 HC3 S2
  gi_wp2_with fail
  refine ⟨trivial, ?_⟩
  refine (callsIn_wide.2 (N1.out w4 (globM_below HG.out HC4.out.2 (Nat.le_refl _)))).mono ?_
  rintro e w5 ⟨rfl, rfl⟩
  gi_wp2_with (refine wpListIn_load_set rfl (.tmp 6) rfl rfl HC4.out.1 ?_)
  refine ⟨trivial, ?_⟩
  refine (callsIn_wide.2 (N2.out w4)).mono ?_
  rintro e w6 ⟨rfl, hb6⟩
  have HC := Lib.hid (And.intro (HC4.out.1.below hb6) (HC4.out.2.trans (hb6.mono HC4.out.2.size)))
  clear hb6 HC4 N1 N2 HG
  gi_wp2_with fail
  obtain ⟨DV, hDV⟩ : ∃ DV : List (Nat × Value), DV = [(42, .int .u64 (m : Int)), (43, .int .i64 i), (44, .bool hb), (45, setV m.testBit), (46, .int .i64 i), (47, .bool hb), (48, .bool false), (49, .bool false), (50, .int .u64 (m : Int)), (51, .int .i64 i), (52, .int .u64 (wi : Int)), (53, setV m.testBit), (54, .int .i64 i), (55, setV (putF m.testBit i true)), (56, .int .u64 (wi : Int)), (57, .bool false), (58, .bool false), (59, .bool false), (60, .int .u64 (m : Int)), (61, .int .i64 i), (62, .int .u64 (wo : Int)), (63, setV m.testBit), (64, .int .i64 i), (65, setV (putF m.testBit i false)), (66, .int .u64 (wo : Int)), (67, .bool false), (68, .bool false), (69, .bool false), (70, .int .u64 (m : Int)), (71, .int .i64 i), (72, .int .u64 (nn : Int)), (73, setV m.testBit), (74, .int .i64 i), (75, setV (notF m.testBit i)), (76, .int .u64 (nn : Int)), (77, .bool false), (78, .bool false)] := ⟨_, rfl⟩
  have hnd : (DV.map (·.1)).Nodup := by
    rw [hDV]
    show ([42, 43, 44, 45, 46, 47, 48, 49, 50, 51, 52, 53, 54, 55, 56, 57, 58, 59, 60, 61, 62, 63, 64, 65, 66, 67, 68, 69, 70, 71, 72, 73, 74, 75, 76, 77, 78] : List Nat).Nodup
    decide
  refine frame_named ?_
  intro FR hFR
  simp only at hFR
  refine region_fixed (by kernel_rfl) DV (fun W => Bk W sb 25 (setL m.testBit) ∧ Below w.heap.size w W) (by rw [hDV]; rfl) hnd ⟨HC.out.1.below (drew_below _), HC.out.2.trans ((drew_below _).mono HC.out.2.size)⟩ ?hup ?hop ?hend
  case hup =>
    intro ix ox ho
    rcases ix with _ | _ | _ | _ | _ | _ | _ | _ | _ | _ | _ | _ | _ | _ | _ | _ | _ | _ | _ | _ | _ | _ | _ | _ | _ | _ | _ | _ | _ | _ | _ | _ | _ | _ | _ | _ | _ | ix
    all_goals
      first
        | (obtain rfl := Option.some.inj ho; simp)
        | (exfalso; have h := (Array.getElem?_eq_some_iff.1 ho).1; simp at h; omega)
  case hop =>
    intro ix ox dx vx ho hdv L W hlen hf hdeps hC
    have e5 : (fillT FR DV L).getD 5 undef = .int .u64 (m : Int) := by rw [fillT_other DV L FR 5 undef (by rw [hDV]; simp)]; rw [hFR]; rfl
    have e1 : (fillT FR DV L).getD 1 undef = .int .i64 i := by rw [fillT_other DV L FR 1 undef (by rw [hDV]; simp)]; rw [hFR]; rfl
    have e6 : (fillT FR DV L).getD 6 undef = .pointer (some ⟨sb, 0, none⟩) := by rw [fillT_other DV L FR 6 undef (by rw [hDV]; simp)]; rw [hFR]; rfl
    have hsz : FR.size = 113 := by rw [hFR]; rfl
    rcases ix with _ | _ | _ | _ | _ | _ | _ | _ | _ | _ | _ | _ | _ | _ | _ | _ | _ | _ | _ | _ | _ | _ | _ | _ | _ | _ | _ | _ | _ | _ | _ | _ | _ | _ | _ | _ | _ | ix
    · obtain rfl := Option.some.inj ho
      rw [hDV] at hdv
      obtain ⟨rfl, rfl⟩ := Prod.mk.inj (Option.some.inj hdv)
      refine ⟨rfl, ?_⟩
      clear hdv hdeps hf
      unfold Oper.wpIn
      refine ⟨fun f _ => trivial, ?_⟩
      unfold fillA
      generalize fillT FR DV L = TT at *
      go_simp
    · obtain rfl := Option.some.inj ho
      rw [hDV] at hdv
      obtain ⟨rfl, rfl⟩ := Prod.mk.inj (Option.some.inj hdv)
      refine ⟨rfl, ?_⟩
      clear hdv hdeps hf
      unfold Oper.wpIn
      refine ⟨fun f _ => trivial, ?_⟩
      unfold fillA
      generalize fillT FR DV L = TT at *
      go_simp
    · obtain rfl := Option.some.inj ho
      rw [hDV] at hdv
      obtain ⟨rfl, rfl⟩ := Prod.mk.inj (Option.some.inj hdv)
      have g0 : L[0]? = some true := hdeps ⟨0, .data⟩ (by simp) rfl
      have e42 : (fillT FR DV L).getD 42 undef = (.int .u64 (m : Int)) := fillT_at DV L FR 0 42 _ undef hnd (by rw [hDV]; rfl) g0 (by rw [hsz]; decide)
      have g1 : L[1]? = some true := hdeps ⟨1, .data⟩ (by simp) rfl
      have e43 : (fillT FR DV L).getD 43 undef = (.int .i64 i) := fillT_at DV L FR 1 43 _ undef hnd (by rw [hDV]; rfl) g1 (by rw [hsz]; decide)
      refine ⟨rfl, ?_⟩
      clear hdv hdeps hf
      unfold Oper.wpIn
      refine ⟨fun f _ => trivial, ?_⟩
      unfold fillA
      generalize fillT FR DV L = TT at *
      go_simp
      exact (callsIn_wide.2 (A1.out W)).mono (fun e w' h => by obtain ⟨rfl, rfl⟩ := h; exact ⟨rfl, hC⟩)
    · obtain rfl := Option.some.inj ho
      rw [hDV] at hdv
      obtain ⟨rfl, rfl⟩ := Prod.mk.inj (Option.some.inj hdv)
      refine ⟨rfl, ?_⟩
      clear hdv hdeps hf
      exact opIn_load_set (.tmp 6) rfl e6 (hC.1) ⟨rfl, hC⟩
    · obtain rfl := Option.some.inj ho
      rw [hDV] at hdv
      obtain ⟨rfl, rfl⟩ := Prod.mk.inj (Option.some.inj hdv)
      refine ⟨rfl, ?_⟩
      clear hdv hdeps hf
      unfold Oper.wpIn
      refine ⟨fun f _ => trivial, ?_⟩
      unfold fillA
      generalize fillT FR DV L = TT at *
      go_simp
    · obtain rfl := Option.some.inj ho
      rw [hDV] at hdv
      obtain ⟨rfl, rfl⟩ := Prod.mk.inj (Option.some.inj hdv)
      have g3 : L[3]? = some true := hdeps ⟨3, .data⟩ (by simp) rfl
      have e45 : (fillT FR DV L).getD 45 undef = (setV m.testBit) := fillT_at DV L FR 3 45 _ undef hnd (by rw [hDV]; rfl) g3 (by rw [hsz]; decide)
      have g4 : L[4]? = some true := hdeps ⟨4, .data⟩ (by simp) rfl
      have e46 : (fillT FR DV L).getD 46 undef = (.int .i64 i) := fillT_at DV L FR 4 46 _ undef hnd (by rw [hDV]; rfl) g4 (by rw [hsz]; decide)
      refine ⟨rfl, ?_⟩
      clear hdv hdeps hf
      unfold Oper.wpIn
      refine ⟨fun f _ => trivial, ?_⟩
      unfold fillA
      generalize fillT FR DV L = TT at *
      go_simp
      exact (callsIn_wide.2 (A2.out W)).mono (fun e w' h => by obtain ⟨rfl, hb⟩ := h; exact ⟨rfl, hC.1.below hb, hC.2.trans (hb.mono hC.2.size)⟩)
    · obtain rfl := Option.some.inj ho
      rw [hDV] at hdv
      obtain ⟨rfl, rfl⟩ := Prod.mk.inj (Option.some.inj hdv)
      have g2 : L[2]? = some true := hdeps ⟨2, .data⟩ (by simp) rfl
      have e44 : (fillT FR DV L).getD 44 undef = (.bool hb) := fillT_at DV L FR 2 44 _ undef hnd (by rw [hDV]; rfl) g2 (by rw [hsz]; decide)
      have g5 : L[5]? = some true := hdeps ⟨5, .data⟩ (by simp) rfl
      have e47 : (fillT FR DV L).getD 47 undef = (.bool hb) := fillT_at DV L FR 5 47 _ undef hnd (by rw [hDV]; rfl) g5 (by rw [hsz]; decide)
      refine ⟨rfl, ?_⟩
      clear hdv hdeps hf
      unfold Oper.wpIn
      refine ⟨fun f _ => trivial, ?_⟩
      unfold fillA
      generalize fillT FR DV L = TT at *
      go_simp
    · obtain rfl := Option.some.inj ho
      rw [hDV] at hdv
      obtain ⟨rfl, rfl⟩ := Prod.mk.inj (Option.some.inj hdv)
      have g6 : L[6]? = some true := hdeps ⟨6, .data⟩ (by simp) rfl
      have e48 : (fillT FR DV L).getD 48 undef = (.bool false) := fillT_at DV L FR 6 48 _ undef hnd (by rw [hDV]; rfl) g6 (by rw [hsz]; decide)
      refine ⟨rfl, ?_⟩
      clear hdv hdeps hf
      unfold Oper.wpIn
      refine ⟨fun f _ => trivial, ?_⟩
      unfold fillA
      generalize fillT FR DV L = TT at *
      go_simp
    · obtain rfl := Option.some.inj ho
      rw [hDV] at hdv
      obtain ⟨rfl, rfl⟩ := Prod.mk.inj (Option.some.inj hdv)
      have g7 : L[7]? = some true := hdeps ⟨7, .guard⟩ (by simp) rfl
      have e49 : (fillT FR DV L).getD 49 undef = (.bool false) := fillT_at DV L FR 7 49 _ undef hnd (by rw [hDV]; rfl) g7 (by rw [hsz]; decide)
      have y49 : (fillT FR DV L)[49]? = some (.bool false) := fillT_get hnd (by rw [hDV]; rfl) g7 (by rw [hsz]; decide)
      refine ⟨by simp [Region.wanted, yielded, y49], ?_⟩
      clear hdv hdeps hf
      unfold Oper.wpIn
      refine ⟨fun f _ => trivial, ?_⟩
      unfold fillA
      generalize fillT FR DV L = TT at *
      go_simp
    · obtain rfl := Option.some.inj ho
      rw [hDV] at hdv
      obtain ⟨rfl, rfl⟩ := Prod.mk.inj (Option.some.inj hdv)
      have g7 : L[7]? = some true := hdeps ⟨7, .guard⟩ (by simp) rfl
      have e49 : (fillT FR DV L).getD 49 undef = (.bool false) := fillT_at DV L FR 7 49 _ undef hnd (by rw [hDV]; rfl) g7 (by rw [hsz]; decide)
      have y49 : (fillT FR DV L)[49]? = some (.bool false) := fillT_get hnd (by rw [hDV]; rfl) g7 (by rw [hsz]; decide)
      refine ⟨by simp [Region.wanted, yielded, y49], ?_⟩
      clear hdv hdeps hf
      unfold Oper.wpIn
      refine ⟨fun f _ => trivial, ?_⟩
      unfold fillA
      generalize fillT FR DV L = TT at *
      go_simp
    · obtain rfl := Option.some.inj ho
      rw [hDV] at hdv
      obtain ⟨rfl, rfl⟩ := Prod.mk.inj (Option.some.inj hdv)
      have g8 : L[8]? = some true := hdeps ⟨8, .data⟩ (by simp) rfl
      have e50 : (fillT FR DV L).getD 50 undef = (.int .u64 (m : Int)) := fillT_at DV L FR 8 50 _ undef hnd (by rw [hDV]; rfl) g8 (by rw [hsz]; decide)
      have g9 : L[9]? = some true := hdeps ⟨9, .data⟩ (by simp) rfl
      have e51 : (fillT FR DV L).getD 51 undef = (.int .i64 i) := fillT_at DV L FR 9 51 _ undef hnd (by rw [hDV]; rfl) g9 (by rw [hsz]; decide)
      have g7 : L[7]? = some true := hdeps ⟨7, .guard⟩ (by simp) rfl
      have e49 : (fillT FR DV L).getD 49 undef = (.bool false) := fillT_at DV L FR 7 49 _ undef hnd (by rw [hDV]; rfl) g7 (by rw [hsz]; decide)
      have y49 : (fillT FR DV L)[49]? = some (.bool false) := fillT_get hnd (by rw [hDV]; rfl) g7 (by rw [hsz]; decide)
      refine ⟨by simp [Region.wanted, yielded, y49], ?_⟩
      clear hdv hdeps hf
      unfold Oper.wpIn
      refine ⟨fun f _ => trivial, ?_⟩
      unfold fillA
      generalize fillT FR DV L = TT at *
      go_simp
      exact (callsIn_wide.2 (A3.out W)).mono (fun e w' h => by obtain ⟨rfl, rfl⟩ := h; exact ⟨rfl, hC⟩)
    · obtain rfl := Option.some.inj ho
      rw [hDV] at hdv
      obtain ⟨rfl, rfl⟩ := Prod.mk.inj (Option.some.inj hdv)
      have g7 : L[7]? = some true := hdeps ⟨7, .guard⟩ (by simp) rfl
      have e49 : (fillT FR DV L).getD 49 undef = (.bool false) := fillT_at DV L FR 7 49 _ undef hnd (by rw [hDV]; rfl) g7 (by rw [hsz]; decide)
      have y49 : (fillT FR DV L)[49]? = some (.bool false) := fillT_get hnd (by rw [hDV]; rfl) g7 (by rw [hsz]; decide)
      refine ⟨by simp [Region.wanted, yielded, y49], ?_⟩
      clear hdv hdeps hf
      exact opIn_load_set (.tmp 6) rfl e6 (hC.1) ⟨rfl, hC⟩
    · obtain rfl := Option.some.inj ho
      rw [hDV] at hdv
      obtain ⟨rfl, rfl⟩ := Prod.mk.inj (Option.some.inj hdv)
      have g7 : L[7]? = some true := hdeps ⟨7, .guard⟩ (by simp) rfl
      have e49 : (fillT FR DV L).getD 49 undef = (.bool false) := fillT_at DV L FR 7 49 _ undef hnd (by rw [hDV]; rfl) g7 (by rw [hsz]; decide)
      have y49 : (fillT FR DV L)[49]? = some (.bool false) := fillT_get hnd (by rw [hDV]; rfl) g7 (by rw [hsz]; decide)
      refine ⟨by simp [Region.wanted, yielded, y49], ?_⟩
      clear hdv hdeps hf
      unfold Oper.wpIn
      refine ⟨fun f _ => trivial, ?_⟩
      unfold fillA
      generalize fillT FR DV L = TT at *
      go_simp
    · obtain rfl := Option.some.inj ho
      rw [hDV] at hdv
      obtain ⟨rfl, rfl⟩ := Prod.mk.inj (Option.some.inj hdv)
      have g11 : L[11]? = some true := hdeps ⟨11, .data⟩ (by simp) rfl
      have e53 : (fillT FR DV L).getD 53 undef = (setV m.testBit) := fillT_at DV L FR 11 53 _ undef hnd (by rw [hDV]; rfl) g11 (by rw [hsz]; decide)
      have g12 : L[12]? = some true := hdeps ⟨12, .data⟩ (by simp) rfl
      have e54 : (fillT FR DV L).getD 54 undef = (.int .i64 i) := fillT_at DV L FR 12 54 _ undef hnd (by rw [hDV]; rfl) g12 (by rw [hsz]; decide)
      have g7 : L[7]? = some true := hdeps ⟨7, .guard⟩ (by simp) rfl
      have e49 : (fillT FR DV L).getD 49 undef = (.bool false) := fillT_at DV L FR 7 49 _ undef hnd (by rw [hDV]; rfl) g7 (by rw [hsz]; decide)
      have y49 : (fillT FR DV L)[49]? = some (.bool false) := fillT_get hnd (by rw [hDV]; rfl) g7 (by rw [hsz]; decide)
      refine ⟨by simp [Region.wanted, yielded, y49], ?_⟩
      clear hdv hdeps hf
      unfold Oper.wpIn
      refine ⟨fun f _ => trivial, ?_⟩
      unfold fillA
      generalize fillT FR DV L = TT at *
      go_simp
      exact (callsIn_wide.2 (A4.out W)).mono (fun e w' h => by obtain ⟨rfl, hb⟩ := h; exact ⟨rfl, hC.1.below hb, hC.2.trans (hb.mono hC.2.size)⟩)
    · obtain rfl := Option.some.inj ho
      rw [hDV] at hdv
      obtain ⟨rfl, rfl⟩ := Prod.mk.inj (Option.some.inj hdv)
      have g13 : L[13]? = some true := hdeps ⟨13, .data⟩ (by simp) rfl
      have e55 : (fillT FR DV L).getD 55 undef = (setV (putF m.testBit i true)) := fillT_at DV L FR 13 55 _ undef hnd (by rw [hDV]; rfl) g13 (by rw [hsz]; decide)
      have g7 : L[7]? = some true := hdeps ⟨7, .guard⟩ (by simp) rfl
      have e49 : (fillT FR DV L).getD 49 undef = (.bool false) := fillT_at DV L FR 7 49 _ undef hnd (by rw [hDV]; rfl) g7 (by rw [hsz]; decide)
      have y49 : (fillT FR DV L)[49]? = some (.bool false) := fillT_get hnd (by rw [hDV]; rfl) g7 (by rw [hsz]; decide)
      refine ⟨by simp [Region.wanted, yielded, y49], ?_⟩
      clear hdv hdeps hf
      unfold Oper.wpIn
      refine ⟨fun f _ => trivial, ?_⟩
      unfold fillA
      generalize fillT FR DV L = TT at *
      go_simp
      exact (callsIn_wide.2 (A5.out W)).mono (fun e w' h => by obtain ⟨rfl, hb⟩ := h; exact ⟨rfl, hC.1.below hb, hC.2.trans (hb.mono hC.2.size)⟩)
    · obtain rfl := Option.some.inj ho
      rw [hDV] at hdv
      obtain ⟨rfl, rfl⟩ := Prod.mk.inj (Option.some.inj hdv)
      have g10 : L[10]? = some true := hdeps ⟨10, .data⟩ (by simp) rfl
      have e52 : (fillT FR DV L).getD 52 undef = (.int .u64 (wi : Int)) := fillT_at DV L FR 10 52 _ undef hnd (by rw [hDV]; rfl) g10 (by rw [hsz]; decide)
      have g14 : L[14]? = some true := hdeps ⟨14, .data⟩ (by simp) rfl
      have e56 : (fillT FR DV L).getD 56 undef = (.int .u64 (wi : Int)) := fillT_at DV L FR 14 56 _ undef hnd (by rw [hDV]; rfl) g14 (by rw [hsz]; decide)
      have g7 : L[7]? = some true := hdeps ⟨7, .guard⟩ (by simp) rfl
      have e49 : (fillT FR DV L).getD 49 undef = (.bool false) := fillT_at DV L FR 7 49 _ undef hnd (by rw [hDV]; rfl) g7 (by rw [hsz]; decide)
      have y49 : (fillT FR DV L)[49]? = some (.bool false) := fillT_get hnd (by rw [hDV]; rfl) g7 (by rw [hsz]; decide)
      refine ⟨by simp [Region.wanted, yielded, y49], ?_⟩
      clear hdv hdeps hf
      unfold Oper.wpIn
      refine ⟨fun f _ => trivial, ?_⟩
      unfold fillA
      generalize fillT FR DV L = TT at *
      go_simp
    · obtain rfl := Option.some.inj ho
      rw [hDV] at hdv
      obtain ⟨rfl, rfl⟩ := Prod.mk.inj (Option.some.inj hdv)
      have g7 : L[7]? = some true := hdeps ⟨7, .data⟩ (by simp) rfl
      have e49 : (fillT FR DV L).getD 49 undef = (.bool false) := fillT_at DV L FR 7 49 _ undef hnd (by rw [hDV]; rfl) g7 (by rw [hsz]; decide)
      have g15 : L[15]? = some true := hdeps ⟨15, .data⟩ (by simp) rfl
      have e57 : (fillT FR DV L).getD 57 undef = (.bool false) := fillT_at DV L FR 15 57 _ undef hnd (by rw [hDV]; rfl) g15 (by rw [hsz]; decide)
      refine ⟨rfl, ?_⟩
      clear hdv hdeps hf
      unfold Oper.wpIn
      refine ⟨fun f _ => trivial, ?_⟩
      unfold fillA
      generalize fillT FR DV L = TT at *
      go_simp
    · obtain rfl := Option.some.inj ho
      rw [hDV] at hdv
      obtain ⟨rfl, rfl⟩ := Prod.mk.inj (Option.some.inj hdv)
      have g16 : L[16]? = some true := hdeps ⟨16, .data⟩ (by simp) rfl
      have e58 : (fillT FR DV L).getD 58 undef = (.bool false) := fillT_at DV L FR 16 58 _ undef hnd (by rw [hDV]; rfl) g16 (by rw [hsz]; decide)
      refine ⟨rfl, ?_⟩
      clear hdv hdeps hf
      unfold Oper.wpIn
      refine ⟨fun f _ => trivial, ?_⟩
      unfold fillA
      generalize fillT FR DV L = TT at *
      go_simp
    · obtain rfl := Option.some.inj ho
      rw [hDV] at hdv
      obtain ⟨rfl, rfl⟩ := Prod.mk.inj (Option.some.inj hdv)
      have g17 : L[17]? = some true := hdeps ⟨17, .guard⟩ (by simp) rfl
      have e59 : (fillT FR DV L).getD 59 undef = (.bool false) := fillT_at DV L FR 17 59 _ undef hnd (by rw [hDV]; rfl) g17 (by rw [hsz]; decide)
      have y59 : (fillT FR DV L)[59]? = some (.bool false) := fillT_get hnd (by rw [hDV]; rfl) g17 (by rw [hsz]; decide)
      refine ⟨by simp [Region.wanted, yielded, y59], ?_⟩
      clear hdv hdeps hf
      unfold Oper.wpIn
      refine ⟨fun f _ => trivial, ?_⟩
      unfold fillA
      generalize fillT FR DV L = TT at *
      go_simp
    · obtain rfl := Option.some.inj ho
      rw [hDV] at hdv
      obtain ⟨rfl, rfl⟩ := Prod.mk.inj (Option.some.inj hdv)
      have g17 : L[17]? = some true := hdeps ⟨17, .guard⟩ (by simp) rfl
      have e59 : (fillT FR DV L).getD 59 undef = (.bool false) := fillT_at DV L FR 17 59 _ undef hnd (by rw [hDV]; rfl) g17 (by rw [hsz]; decide)
      have y59 : (fillT FR DV L)[59]? = some (.bool false) := fillT_get hnd (by rw [hDV]; rfl) g17 (by rw [hsz]; decide)
      refine ⟨by simp [Region.wanted, yielded, y59], ?_⟩
      clear hdv hdeps hf
      unfold Oper.wpIn
      refine ⟨fun f _ => trivial, ?_⟩
      unfold fillA
      generalize fillT FR DV L = TT at *
      go_simp
    · obtain rfl := Option.some.inj ho
      rw [hDV] at hdv
      obtain ⟨rfl, rfl⟩ := Prod.mk.inj (Option.some.inj hdv)
      have g18 : L[18]? = some true := hdeps ⟨18, .data⟩ (by simp) rfl
      have e60 : (fillT FR DV L).getD 60 undef = (.int .u64 (m : Int)) := fillT_at DV L FR 18 60 _ undef hnd (by rw [hDV]; rfl) g18 (by rw [hsz]; decide)
      have g19 : L[19]? = some true := hdeps ⟨19, .data⟩ (by simp) rfl
      have e61 : (fillT FR DV L).getD 61 undef = (.int .i64 i) := fillT_at DV L FR 19 61 _ undef hnd (by rw [hDV]; rfl) g19 (by rw [hsz]; decide)
      have g17 : L[17]? = some true := hdeps ⟨17, .guard⟩ (by simp) rfl
      have e59 : (fillT FR DV L).getD 59 undef = (.bool false) := fillT_at DV L FR 17 59 _ undef hnd (by rw [hDV]; rfl) g17 (by rw [hsz]; decide)
      have y59 : (fillT FR DV L)[59]? = some (.bool false) := fillT_get hnd (by rw [hDV]; rfl) g17 (by rw [hsz]; decide)
      refine ⟨by simp [Region.wanted, yielded, y59], ?_⟩
      clear hdv hdeps hf
      unfold Oper.wpIn
      refine ⟨fun f _ => trivial, ?_⟩
      unfold fillA
      generalize fillT FR DV L = TT at *
      go_simp
      exact (callsIn_wide.2 (A6.out W)).mono (fun e w' h => by obtain ⟨rfl, rfl⟩ := h; exact ⟨rfl, hC⟩)
    · obtain rfl := Option.some.inj ho
      rw [hDV] at hdv
      obtain ⟨rfl, rfl⟩ := Prod.mk.inj (Option.some.inj hdv)
      have g17 : L[17]? = some true := hdeps ⟨17, .guard⟩ (by simp) rfl
      have e59 : (fillT FR DV L).getD 59 undef = (.bool false) := fillT_at DV L FR 17 59 _ undef hnd (by rw [hDV]; rfl) g17 (by rw [hsz]; decide)
      have y59 : (fillT FR DV L)[59]? = some (.bool false) := fillT_get hnd (by rw [hDV]; rfl) g17 (by rw [hsz]; decide)
      refine ⟨by simp [Region.wanted, yielded, y59], ?_⟩
      clear hdv hdeps hf
      exact opIn_load_set (.tmp 6) rfl e6 (hC.1) ⟨rfl, hC⟩
    · obtain rfl := Option.some.inj ho
      rw [hDV] at hdv
      obtain ⟨rfl, rfl⟩ := Prod.mk.inj (Option.some.inj hdv)
      have g17 : L[17]? = some true := hdeps ⟨17, .guard⟩ (by simp) rfl
      have e59 : (fillT FR DV L).getD 59 undef = (.bool false) := fillT_at DV L FR 17 59 _ undef hnd (by rw [hDV]; rfl) g17 (by rw [hsz]; decide)
      have y59 : (fillT FR DV L)[59]? = some (.bool false) := fillT_get hnd (by rw [hDV]; rfl) g17 (by rw [hsz]; decide)
      refine ⟨by simp [Region.wanted, yielded, y59], ?_⟩
      clear hdv hdeps hf
      unfold Oper.wpIn
      refine ⟨fun f _ => trivial, ?_⟩
      unfold fillA
      generalize fillT FR DV L = TT at *
      go_simp
    · obtain rfl := Option.some.inj ho
      rw [hDV] at hdv
      obtain ⟨rfl, rfl⟩ := Prod.mk.inj (Option.some.inj hdv)
      have g21 : L[21]? = some true := hdeps ⟨21, .data⟩ (by simp) rfl
      have e63 : (fillT FR DV L).getD 63 undef = (setV m.testBit) := fillT_at DV L FR 21 63 _ undef hnd (by rw [hDV]; rfl) g21 (by rw [hsz]; decide)
      have g22 : L[22]? = some true := hdeps ⟨22, .data⟩ (by simp) rfl
      have e64 : (fillT FR DV L).getD 64 undef = (.int .i64 i) := fillT_at DV L FR 22 64 _ undef hnd (by rw [hDV]; rfl) g22 (by rw [hsz]; decide)
      have g17 : L[17]? = some true := hdeps ⟨17, .guard⟩ (by simp) rfl
      have e59 : (fillT FR DV L).getD 59 undef = (.bool false) := fillT_at DV L FR 17 59 _ undef hnd (by rw [hDV]; rfl) g17 (by rw [hsz]; decide)
      have y59 : (fillT FR DV L)[59]? = some (.bool false) := fillT_get hnd (by rw [hDV]; rfl) g17 (by rw [hsz]; decide)
      refine ⟨by simp [Region.wanted, yielded, y59], ?_⟩
      clear hdv hdeps hf
      unfold Oper.wpIn
      refine ⟨fun f _ => trivial, ?_⟩
      unfold fillA
      generalize fillT FR DV L = TT at *
      go_simp
      exact (callsIn_wide.2 (A7.out W)).mono (fun e w' h => by obtain ⟨rfl, hb⟩ := h; exact ⟨rfl, hC.1.below hb, hC.2.trans (hb.mono hC.2.size)⟩)
    · obtain rfl := Option.some.inj ho
      rw [hDV] at hdv
      obtain ⟨rfl, rfl⟩ := Prod.mk.inj (Option.some.inj hdv)
      have g23 : L[23]? = some true := hdeps ⟨23, .data⟩ (by simp) rfl
      have e65 : (fillT FR DV L).getD 65 undef = (setV (putF m.testBit i false)) := fillT_at DV L FR 23 65 _ undef hnd (by rw [hDV]; rfl) g23 (by rw [hsz]; decide)
      have g17 : L[17]? = some true := hdeps ⟨17, .guard⟩ (by simp) rfl
      have e59 : (fillT FR DV L).getD 59 undef = (.bool false) := fillT_at DV L FR 17 59 _ undef hnd (by rw [hDV]; rfl) g17 (by rw [hsz]; decide)
      have y59 : (fillT FR DV L)[59]? = some (.bool false) := fillT_get hnd (by rw [hDV]; rfl) g17 (by rw [hsz]; decide)
      refine ⟨by simp [Region.wanted, yielded, y59], ?_⟩
      clear hdv hdeps hf
      unfold Oper.wpIn
      refine ⟨fun f _ => trivial, ?_⟩
      unfold fillA
      generalize fillT FR DV L = TT at *
      go_simp
      exact (callsIn_wide.2 (A8.out W)).mono (fun e w' h => by obtain ⟨rfl, hb⟩ := h; exact ⟨rfl, hC.1.below hb, hC.2.trans (hb.mono hC.2.size)⟩)
    · obtain rfl := Option.some.inj ho
      rw [hDV] at hdv
      obtain ⟨rfl, rfl⟩ := Prod.mk.inj (Option.some.inj hdv)
      have g20 : L[20]? = some true := hdeps ⟨20, .data⟩ (by simp) rfl
      have e62 : (fillT FR DV L).getD 62 undef = (.int .u64 (wo : Int)) := fillT_at DV L FR 20 62 _ undef hnd (by rw [hDV]; rfl) g20 (by rw [hsz]; decide)
      have g24 : L[24]? = some true := hdeps ⟨24, .data⟩ (by simp) rfl
      have e66 : (fillT FR DV L).getD 66 undef = (.int .u64 (wo : Int)) := fillT_at DV L FR 24 66 _ undef hnd (by rw [hDV]; rfl) g24 (by rw [hsz]; decide)
      have g17 : L[17]? = some true := hdeps ⟨17, .guard⟩ (by simp) rfl
      have e59 : (fillT FR DV L).getD 59 undef = (.bool false) := fillT_at DV L FR 17 59 _ undef hnd (by rw [hDV]; rfl) g17 (by rw [hsz]; decide)
      have y59 : (fillT FR DV L)[59]? = some (.bool false) := fillT_get hnd (by rw [hDV]; rfl) g17 (by rw [hsz]; decide)
      refine ⟨by simp [Region.wanted, yielded, y59], ?_⟩
      clear hdv hdeps hf
      unfold Oper.wpIn
      refine ⟨fun f _ => trivial, ?_⟩
      unfold fillA
      generalize fillT FR DV L = TT at *
      go_simp
    · obtain rfl := Option.some.inj ho
      rw [hDV] at hdv
      obtain ⟨rfl, rfl⟩ := Prod.mk.inj (Option.some.inj hdv)
      have g17 : L[17]? = some true := hdeps ⟨17, .data⟩ (by simp) rfl
      have e59 : (fillT FR DV L).getD 59 undef = (.bool false) := fillT_at DV L FR 17 59 _ undef hnd (by rw [hDV]; rfl) g17 (by rw [hsz]; decide)
      have g25 : L[25]? = some true := hdeps ⟨25, .data⟩ (by simp) rfl
      have e67 : (fillT FR DV L).getD 67 undef = (.bool false) := fillT_at DV L FR 25 67 _ undef hnd (by rw [hDV]; rfl) g25 (by rw [hsz]; decide)
      refine ⟨rfl, ?_⟩
      clear hdv hdeps hf
      unfold Oper.wpIn
      refine ⟨fun f _ => trivial, ?_⟩
      unfold fillA
      generalize fillT FR DV L = TT at *
      go_simp
    · obtain rfl := Option.some.inj ho
      rw [hDV] at hdv
      obtain ⟨rfl, rfl⟩ := Prod.mk.inj (Option.some.inj hdv)
      have g26 : L[26]? = some true := hdeps ⟨26, .data⟩ (by simp) rfl
      have e68 : (fillT FR DV L).getD 68 undef = (.bool false) := fillT_at DV L FR 26 68 _ undef hnd (by rw [hDV]; rfl) g26 (by rw [hsz]; decide)
      refine ⟨rfl, ?_⟩
      clear hdv hdeps hf
      unfold Oper.wpIn
      refine ⟨fun f _ => trivial, ?_⟩
      unfold fillA
      generalize fillT FR DV L = TT at *
      go_simp
    · obtain rfl := Option.some.inj ho
      rw [hDV] at hdv
      obtain ⟨rfl, rfl⟩ := Prod.mk.inj (Option.some.inj hdv)
      have g27 : L[27]? = some true := hdeps ⟨27, .guard⟩ (by simp) rfl
      have e69 : (fillT FR DV L).getD 69 undef = (.bool false) := fillT_at DV L FR 27 69 _ undef hnd (by rw [hDV]; rfl) g27 (by rw [hsz]; decide)
      have y69 : (fillT FR DV L)[69]? = some (.bool false) := fillT_get hnd (by rw [hDV]; rfl) g27 (by rw [hsz]; decide)
      refine ⟨by simp [Region.wanted, yielded, y69], ?_⟩
      clear hdv hdeps hf
      unfold Oper.wpIn
      refine ⟨fun f _ => trivial, ?_⟩
      unfold fillA
      generalize fillT FR DV L = TT at *
      go_simp
    · obtain rfl := Option.some.inj ho
      rw [hDV] at hdv
      obtain ⟨rfl, rfl⟩ := Prod.mk.inj (Option.some.inj hdv)
      have g27 : L[27]? = some true := hdeps ⟨27, .guard⟩ (by simp) rfl
      have e69 : (fillT FR DV L).getD 69 undef = (.bool false) := fillT_at DV L FR 27 69 _ undef hnd (by rw [hDV]; rfl) g27 (by rw [hsz]; decide)
      have y69 : (fillT FR DV L)[69]? = some (.bool false) := fillT_get hnd (by rw [hDV]; rfl) g27 (by rw [hsz]; decide)
      refine ⟨by simp [Region.wanted, yielded, y69], ?_⟩
      clear hdv hdeps hf
      unfold Oper.wpIn
      refine ⟨fun f _ => trivial, ?_⟩
      unfold fillA
      generalize fillT FR DV L = TT at *
      go_simp
    · obtain rfl := Option.some.inj ho
      rw [hDV] at hdv
      obtain ⟨rfl, rfl⟩ := Prod.mk.inj (Option.some.inj hdv)
      have g28 : L[28]? = some true := hdeps ⟨28, .data⟩ (by simp) rfl
      have e70 : (fillT FR DV L).getD 70 undef = (.int .u64 (m : Int)) := fillT_at DV L FR 28 70 _ undef hnd (by rw [hDV]; rfl) g28 (by rw [hsz]; decide)
      have g29 : L[29]? = some true := hdeps ⟨29, .data⟩ (by simp) rfl
      have e71 : (fillT FR DV L).getD 71 undef = (.int .i64 i) := fillT_at DV L FR 29 71 _ undef hnd (by rw [hDV]; rfl) g29 (by rw [hsz]; decide)
      have g27 : L[27]? = some true := hdeps ⟨27, .guard⟩ (by simp) rfl
      have e69 : (fillT FR DV L).getD 69 undef = (.bool false) := fillT_at DV L FR 27 69 _ undef hnd (by rw [hDV]; rfl) g27 (by rw [hsz]; decide)
      have y69 : (fillT FR DV L)[69]? = some (.bool false) := fillT_get hnd (by rw [hDV]; rfl) g27 (by rw [hsz]; decide)
      refine ⟨by simp [Region.wanted, yielded, y69], ?_⟩
      clear hdv hdeps hf
      unfold Oper.wpIn
      refine ⟨fun f _ => trivial, ?_⟩
      unfold fillA
      generalize fillT FR DV L = TT at *
      go_simp
      exact (callsIn_wide.2 (A9.out W)).mono (fun e w' h => by obtain ⟨rfl, rfl⟩ := h; exact ⟨rfl, hC⟩)
    · obtain rfl := Option.some.inj ho
      rw [hDV] at hdv
      obtain ⟨rfl, rfl⟩ := Prod.mk.inj (Option.some.inj hdv)
      have g27 : L[27]? = some true := hdeps ⟨27, .guard⟩ (by simp) rfl
      have e69 : (fillT FR DV L).getD 69 undef = (.bool false) := fillT_at DV L FR 27 69 _ undef hnd (by rw [hDV]; rfl) g27 (by rw [hsz]; decide)
      have y69 : (fillT FR DV L)[69]? = some (.bool false) := fillT_get hnd (by rw [hDV]; rfl) g27 (by rw [hsz]; decide)
      refine ⟨by simp [Region.wanted, yielded, y69], ?_⟩
      clear hdv hdeps hf
      exact opIn_load_set (.tmp 6) rfl e6 (hC.1) ⟨rfl, hC⟩
    · obtain rfl := Option.some.inj ho
      rw [hDV] at hdv
      obtain ⟨rfl, rfl⟩ := Prod.mk.inj (Option.some.inj hdv)
      have g27 : L[27]? = some true := hdeps ⟨27, .guard⟩ (by simp) rfl
      have e69 : (fillT FR DV L).getD 69 undef = (.bool false) := fillT_at DV L FR 27 69 _ undef hnd (by rw [hDV]; rfl) g27 (by rw [hsz]; decide)
      have y69 : (fillT FR DV L)[69]? = some (.bool false) := fillT_get hnd (by rw [hDV]; rfl) g27 (by rw [hsz]; decide)
      refine ⟨by simp [Region.wanted, yielded, y69], ?_⟩
      clear hdv hdeps hf
      unfold Oper.wpIn
      refine ⟨fun f _ => trivial, ?_⟩
      unfold fillA
      generalize fillT FR DV L = TT at *
      go_simp
    · obtain rfl := Option.some.inj ho
      rw [hDV] at hdv
      obtain ⟨rfl, rfl⟩ := Prod.mk.inj (Option.some.inj hdv)
      have g31 : L[31]? = some true := hdeps ⟨31, .data⟩ (by simp) rfl
      have e73 : (fillT FR DV L).getD 73 undef = (setV m.testBit) := fillT_at DV L FR 31 73 _ undef hnd (by rw [hDV]; rfl) g31 (by rw [hsz]; decide)
      have g32 : L[32]? = some true := hdeps ⟨32, .data⟩ (by simp) rfl
      have e74 : (fillT FR DV L).getD 74 undef = (.int .i64 i) := fillT_at DV L FR 32 74 _ undef hnd (by rw [hDV]; rfl) g32 (by rw [hsz]; decide)
      have g27 : L[27]? = some true := hdeps ⟨27, .guard⟩ (by simp) rfl
      have e69 : (fillT FR DV L).getD 69 undef = (.bool false) := fillT_at DV L FR 27 69 _ undef hnd (by rw [hDV]; rfl) g27 (by rw [hsz]; decide)
      have y69 : (fillT FR DV L)[69]? = some (.bool false) := fillT_get hnd (by rw [hDV]; rfl) g27 (by rw [hsz]; decide)
      refine ⟨by simp [Region.wanted, yielded, y69], ?_⟩
      clear hdv hdeps hf
      unfold Oper.wpIn
      refine ⟨fun f _ => trivial, ?_⟩
      unfold fillA
      generalize fillT FR DV L = TT at *
      go_simp
      exact (callsIn_wide.2 (A10.out W)).mono (fun e w' h => by obtain ⟨rfl, hb⟩ := h; exact ⟨rfl, hC.1.below hb, hC.2.trans (hb.mono hC.2.size)⟩)
    · obtain rfl := Option.some.inj ho
      rw [hDV] at hdv
      obtain ⟨rfl, rfl⟩ := Prod.mk.inj (Option.some.inj hdv)
      have g33 : L[33]? = some true := hdeps ⟨33, .data⟩ (by simp) rfl
      have e75 : (fillT FR DV L).getD 75 undef = (setV (notF m.testBit i)) := fillT_at DV L FR 33 75 _ undef hnd (by rw [hDV]; rfl) g33 (by rw [hsz]; decide)
      have g27 : L[27]? = some true := hdeps ⟨27, .guard⟩ (by simp) rfl
      have e69 : (fillT FR DV L).getD 69 undef = (.bool false) := fillT_at DV L FR 27 69 _ undef hnd (by rw [hDV]; rfl) g27 (by rw [hsz]; decide)
      have y69 : (fillT FR DV L)[69]? = some (.bool false) := fillT_get hnd (by rw [hDV]; rfl) g27 (by rw [hsz]; decide)
      refine ⟨by simp [Region.wanted, yielded, y69], ?_⟩
      clear hdv hdeps hf
      unfold Oper.wpIn
      refine ⟨fun f _ => trivial, ?_⟩
      unfold fillA
      generalize fillT FR DV L = TT at *
      go_simp
      exact (callsIn_wide.2 (A11.out W)).mono (fun e w' h => by obtain ⟨rfl, hb⟩ := h; exact ⟨rfl, hC.1.below hb, hC.2.trans (hb.mono hC.2.size)⟩)
    · obtain rfl := Option.some.inj ho
      rw [hDV] at hdv
      obtain ⟨rfl, rfl⟩ := Prod.mk.inj (Option.some.inj hdv)
      have g30 : L[30]? = some true := hdeps ⟨30, .data⟩ (by simp) rfl
      have e72 : (fillT FR DV L).getD 72 undef = (.int .u64 (nn : Int)) := fillT_at DV L FR 30 72 _ undef hnd (by rw [hDV]; rfl) g30 (by rw [hsz]; decide)
      have g34 : L[34]? = some true := hdeps ⟨34, .data⟩ (by simp) rfl
      have e76 : (fillT FR DV L).getD 76 undef = (.int .u64 (nn : Int)) := fillT_at DV L FR 34 76 _ undef hnd (by rw [hDV]; rfl) g34 (by rw [hsz]; decide)
      have g27 : L[27]? = some true := hdeps ⟨27, .guard⟩ (by simp) rfl
      have e69 : (fillT FR DV L).getD 69 undef = (.bool false) := fillT_at DV L FR 27 69 _ undef hnd (by rw [hDV]; rfl) g27 (by rw [hsz]; decide)
      have y69 : (fillT FR DV L)[69]? = some (.bool false) := fillT_get hnd (by rw [hDV]; rfl) g27 (by rw [hsz]; decide)
      refine ⟨by simp [Region.wanted, yielded, y69], ?_⟩
      clear hdv hdeps hf
      unfold Oper.wpIn
      refine ⟨fun f _ => trivial, ?_⟩
      unfold fillA
      generalize fillT FR DV L = TT at *
      go_simp
    · obtain rfl := Option.some.inj ho
      rw [hDV] at hdv
      obtain ⟨rfl, rfl⟩ := Prod.mk.inj (Option.some.inj hdv)
      have g27 : L[27]? = some true := hdeps ⟨27, .data⟩ (by simp) rfl
      have e69 : (fillT FR DV L).getD 69 undef = (.bool false) := fillT_at DV L FR 27 69 _ undef hnd (by rw [hDV]; rfl) g27 (by rw [hsz]; decide)
      have g35 : L[35]? = some true := hdeps ⟨35, .data⟩ (by simp) rfl
      have e77 : (fillT FR DV L).getD 77 undef = (.bool false) := fillT_at DV L FR 35 77 _ undef hnd (by rw [hDV]; rfl) g35 (by rw [hsz]; decide)
      refine ⟨rfl, ?_⟩
      clear hdv hdeps hf
      unfold Oper.wpIn
      refine ⟨fun f _ => trivial, ?_⟩
      unfold fillA
      generalize fillT FR DV L = TT at *
      go_simp
    · exfalso
      have h := (Array.getElem?_eq_some_iff.1 ho).1
      simp at h
      omega
  case hend =>
    intro W5 hC5
    have hfin : fillA { tmps := FR, defers := [] } DV (List.replicate 37 true) = fillA { tmps := FR, defers := [] } DV [true, true, true, true, true, true, true, true, true, true, true, true, true, true, true, true, true, true, true, true, true, true, true, true, true, true, true, true, true, true, true, true, true, true, true, true, true] := rfl
    rw [show ∀ k, k = 37 → fillA { tmps := FR, defers := [] } DV (List.replicate k true) = fillA { tmps := FR, defers := [] } DV (List.replicate 37 true) from fun k hk => by rw [hk]]
    · rw [hfin, hDV, hFR]
      simp only [fillA, fillT, if_true, List.setIfInBounds_toArray, List.set_cons_succ, List.set_cons_zero]
      clear hfin hFR hnd hDV
      have HD := Lib.hid hC5
      clear hC5
      gi_wp2_with fail
      obtain ⟨DV, hDV⟩ : ∃ DV : List (Nat × Value), DV = [(79, .int .u64 (m : Int)), (80, .int .i64 i), (81, .int .i64 (rk : Int)), (82, setV m.testBit), (83, .int .i64 i), (84, .int .i64 (rk : Int)), (85, .bool true), (86, .bool true), (87, .int .i64 x), (88, .int .i64 x), (89, .bool true), (90, .bool true), (91, .bool true), (92, .bool y), (93, .bool y), (94, .bool true), (95, .bool true), (96, .bool true), (97, .int .i64 u), (98, .int .i64 u), (99, .bool true), (100, .bool true), (101, .bool true), (102, .bool v), (103, .bool v), (104, .bool true), (105, .bool true), (106, .bool true), (107, .int .u64 (m : Int)), (108, .int .i64 (cc : Int)), (109, setV m.testBit), (110, .int .i64 (cc : Int)), (111, .bool true), (112, .bool true), (4, .bool true)] := ⟨_, rfl⟩
      have hnd : (DV.map (·.1)).Nodup := by
        rw [hDV]
        show ([79, 80, 81, 82, 83, 84, 85, 86, 87, 88, 89, 90, 91, 92, 93, 94, 95, 96, 97, 98, 99, 100, 101, 102, 103, 104, 105, 106, 107, 108, 109, 110, 111, 112, 4] : List Nat).Nodup
        decide
      refine frame_named ?_
      intro FR hFR
      simp only at hFR
      refine region_fixed (by kernel_rfl) DV (fun W => Bk W sb 25 (setL m.testBit) ∧ Below w.heap.size w W) (by rw [hDV]; rfl) hnd ⟨HD.out.1.below (drew_below _), HD.out.2.trans ((drew_below _).mono HD.out.2.size)⟩ ?hup ?hop ?hend
      case hup =>
        intro ix ox ho
        rcases ix with _ | _ | _ | _ | _ | _ | _ | _ | _ | _ | _ | _ | _ | _ | _ | _ | _ | _ | _ | _ | _ | _ | _ | _ | _ | _ | _ | _ | _ | _ | _ | _ | _ | _ | _ | ix
        all_goals
          first
            | (obtain rfl := Option.some.inj ho; simp)
            | (exfalso; have h := (Array.getElem?_eq_some_iff.1 ho).1; simp at h; omega)
      case hop =>
        intro ix ox dx vx ho hdv L W hlen hf hdeps hC
        have e5 : (fillT FR DV L).getD 5 undef = .int .u64 (m : Int) := by rw [fillT_other DV L FR 5 undef (by rw [hDV]; simp)]; rw [hFR]; rfl
        have e1 : (fillT FR DV L).getD 1 undef = .int .i64 i := by rw [fillT_other DV L FR 1 undef (by rw [hDV]; simp)]; rw [hFR]; rfl
        have e6 : (fillT FR DV L).getD 6 undef = .pointer (some ⟨sb, 0, none⟩) := by rw [fillT_other DV L FR 6 undef (by rw [hDV]; simp)]; rw [hFR]; rfl
        have e7 : (fillT FR DV L).getD 7 undef = .int .i64 x := by rw [fillT_other DV L FR 7 undef (by rw [hDV]; simp)]; rw [hFR]; rfl
        have e9 : (fillT FR DV L).getD 9 undef = .int .i64 x := by rw [fillT_other DV L FR 9 undef (by rw [hDV]; simp)]; rw [hFR]; rfl
        have e8 : (fillT FR DV L).getD 8 undef = .bool y := by rw [fillT_other DV L FR 8 undef (by rw [hDV]; simp)]; rw [hFR]; rfl
        have e10 : (fillT FR DV L).getD 10 undef = .bool y := by rw [fillT_other DV L FR 10 undef (by rw [hDV]; simp)]; rw [hFR]; rfl
        have e11 : (fillT FR DV L).getD 11 undef = .int .i64 u := by rw [fillT_other DV L FR 11 undef (by rw [hDV]; simp)]; rw [hFR]; rfl
        have e13 : (fillT FR DV L).getD 13 undef = .int .i64 u := by rw [fillT_other DV L FR 13 undef (by rw [hDV]; simp)]; rw [hFR]; rfl
        have e12 : (fillT FR DV L).getD 12 undef = .bool v := by rw [fillT_other DV L FR 12 undef (by rw [hDV]; simp)]; rw [hFR]; rfl
        have e14 : (fillT FR DV L).getD 14 undef = .bool v := by rw [fillT_other DV L FR 14 undef (by rw [hDV]; simp)]; rw [hFR]; rfl
        have hsz : FR.size = 113 := by rw [hFR]; rfl
        rcases ix with _ | _ | _ | _ | _ | _ | _ | _ | _ | _ | _ | _ | _ | _ | _ | _ | _ | _ | _ | _ | _ | _ | _ | _ | _ | _ | _ | _ | _ | _ | _ | _ | _ | _ | _ | ix
        · obtain rfl := Option.some.inj ho
          rw [hDV] at hdv
          obtain ⟨rfl, rfl⟩ := Prod.mk.inj (Option.some.inj hdv)
          refine ⟨rfl, ?_⟩
          clear hdv hdeps hf
          unfold Oper.wpIn
          refine ⟨fun f _ => trivial, ?_⟩
          unfold fillA
          generalize fillT FR DV L = TT at *
          go_simp
        · obtain rfl := Option.some.inj ho
          rw [hDV] at hdv
          obtain ⟨rfl, rfl⟩ := Prod.mk.inj (Option.some.inj hdv)
          refine ⟨rfl, ?_⟩
          clear hdv hdeps hf
          unfold Oper.wpIn
          refine ⟨fun f _ => trivial, ?_⟩
          unfold fillA
          generalize fillT FR DV L = TT at *
          go_simp
        · obtain rfl := Option.some.inj ho
          rw [hDV] at hdv
          obtain ⟨rfl, rfl⟩ := Prod.mk.inj (Option.some.inj hdv)
          have g0 : L[0]? = some true := hdeps ⟨0, .data⟩ (by simp) rfl
          have e79 : (fillT FR DV L).getD 79 undef = (.int .u64 (m : Int)) := fillT_at DV L FR 0 79 _ undef hnd (by rw [hDV]; rfl) g0 (by rw [hsz]; decide)
          have g1 : L[1]? = some true := hdeps ⟨1, .data⟩ (by simp) rfl
          have e80 : (fillT FR DV L).getD 80 undef = (.int .i64 i) := fillT_at DV L FR 1 80 _ undef hnd (by rw [hDV]; rfl) g1 (by rw [hsz]; decide)
          refine ⟨rfl, ?_⟩
          clear hdv hdeps hf
          unfold Oper.wpIn
          refine ⟨fun f _ => trivial, ?_⟩
          unfold fillA
          generalize fillT FR DV L = TT at *
          go_simp
          exact (callsIn_wide.2 (B1.out W)).mono (fun e w' h => by obtain ⟨rfl, rfl⟩ := h; exact ⟨rfl, hC⟩)
        · obtain rfl := Option.some.inj ho
          rw [hDV] at hdv
          obtain ⟨rfl, rfl⟩ := Prod.mk.inj (Option.some.inj hdv)
          refine ⟨rfl, ?_⟩
          clear hdv hdeps hf
          exact opIn_load_set (.tmp 6) rfl e6 (hC.1) ⟨rfl, hC⟩
        · obtain rfl := Option.some.inj ho
          rw [hDV] at hdv
          obtain ⟨rfl, rfl⟩ := Prod.mk.inj (Option.some.inj hdv)
          refine ⟨rfl, ?_⟩
          clear hdv hdeps hf
          unfold Oper.wpIn
          refine ⟨fun f _ => trivial, ?_⟩
          unfold fillA
          generalize fillT FR DV L = TT at *
          go_simp
        · obtain rfl := Option.some.inj ho
          rw [hDV] at hdv
          obtain ⟨rfl, rfl⟩ := Prod.mk.inj (Option.some.inj hdv)
          have g3 : L[3]? = some true := hdeps ⟨3, .data⟩ (by simp) rfl
          have e82 : (fillT FR DV L).getD 82 undef = (setV m.testBit) := fillT_at DV L FR 3 82 _ undef hnd (by rw [hDV]; rfl) g3 (by rw [hsz]; decide)
          have g4 : L[4]? = some true := hdeps ⟨4, .data⟩ (by simp) rfl
          have e83 : (fillT FR DV L).getD 83 undef = (.int .i64 i) := fillT_at DV L FR 4 83 _ undef hnd (by rw [hDV]; rfl) g4 (by rw [hsz]; decide)
          refine ⟨rfl, ?_⟩
          clear hdv hdeps hf
          unfold Oper.wpIn
          refine ⟨fun f _ => trivial, ?_⟩
          unfold fillA
          generalize fillT FR DV L = TT at *
          go_simp
          exact (callsIn_wide.2 (B2.out W)).mono (fun e w' h => by obtain ⟨rfl, hb⟩ := h; exact ⟨rfl, hC.1.below hb, hC.2.trans (hb.mono hC.2.size)⟩)
        · obtain rfl := Option.some.inj ho
          rw [hDV] at hdv
          obtain ⟨rfl, rfl⟩ := Prod.mk.inj (Option.some.inj hdv)
          have g2 : L[2]? = some true := hdeps ⟨2, .data⟩ (by simp) rfl
          have e81 : (fillT FR DV L).getD 81 undef = (.int .i64 (rk : Int)) := fillT_at DV L FR 2 81 _ undef hnd (by rw [hDV]; rfl) g2 (by rw [hsz]; decide)
          have g5 : L[5]? = some true := hdeps ⟨5, .data⟩ (by simp) rfl
          have e84 : (fillT FR DV L).getD 84 undef = (.int .i64 (rk : Int)) := fillT_at DV L FR 5 84 _ undef hnd (by rw [hDV]; rfl) g5 (by rw [hsz]; decide)
          refine ⟨rfl, ?_⟩
          clear hdv hdeps hf
          unfold Oper.wpIn
          refine ⟨fun f _ => trivial, ?_⟩
          unfold fillA
          generalize fillT FR DV L = TT at *
          go_simp
        · obtain rfl := Option.some.inj ho
          rw [hDV] at hdv
          obtain ⟨rfl, rfl⟩ := Prod.mk.inj (Option.some.inj hdv)
          have g6 : L[6]? = some true := hdeps ⟨6, .data⟩ (by simp) rfl
          have e85 : (fillT FR DV L).getD 85 undef = (.bool true) := fillT_at DV L FR 6 85 _ undef hnd (by rw [hDV]; rfl) g6 (by rw [hsz]; decide)
          refine ⟨rfl, ?_⟩
          clear hdv hdeps hf
          unfold Oper.wpIn
          refine ⟨fun f _ => trivial, ?_⟩
          unfold fillA
          generalize fillT FR DV L = TT at *
          go_simp
        · obtain rfl := Option.some.inj ho
          rw [hDV] at hdv
          obtain ⟨rfl, rfl⟩ := Prod.mk.inj (Option.some.inj hdv)
          have g7 : L[7]? = some true := hdeps ⟨7, .guard⟩ (by simp) rfl
          have e86 : (fillT FR DV L).getD 86 undef = (.bool true) := fillT_at DV L FR 7 86 _ undef hnd (by rw [hDV]; rfl) g7 (by rw [hsz]; decide)
          have y86 : (fillT FR DV L)[86]? = some (.bool true) := fillT_get hnd (by rw [hDV]; rfl) g7 (by rw [hsz]; decide)
          refine ⟨by simp [Region.wanted, yielded, y86], ?_⟩
          clear hdv hdeps hf
          unfold Oper.wpIn
          refine ⟨fun f _ => trivial, ?_⟩
          unfold fillA
          generalize fillT FR DV L = TT at *
          go_simp
        · obtain rfl := Option.some.inj ho
          rw [hDV] at hdv
          obtain ⟨rfl, rfl⟩ := Prod.mk.inj (Option.some.inj hdv)
          have g7 : L[7]? = some true := hdeps ⟨7, .guard⟩ (by simp) rfl
          have e86 : (fillT FR DV L).getD 86 undef = (.bool true) := fillT_at DV L FR 7 86 _ undef hnd (by rw [hDV]; rfl) g7 (by rw [hsz]; decide)
          have y86 : (fillT FR DV L)[86]? = some (.bool true) := fillT_get hnd (by rw [hDV]; rfl) g7 (by rw [hsz]; decide)
          refine ⟨by simp [Region.wanted, yielded, y86], ?_⟩
          clear hdv hdeps hf
          unfold Oper.wpIn
          refine ⟨fun f _ => trivial, ?_⟩
          unfold fillA
          generalize fillT FR DV L = TT at *
          go_simp
        · obtain rfl := Option.some.inj ho
          rw [hDV] at hdv
          obtain ⟨rfl, rfl⟩ := Prod.mk.inj (Option.some.inj hdv)
          have g8 : L[8]? = some true := hdeps ⟨8, .data⟩ (by simp) rfl
          have e87 : (fillT FR DV L).getD 87 undef = (.int .i64 x) := fillT_at DV L FR 8 87 _ undef hnd (by rw [hDV]; rfl) g8 (by rw [hsz]; decide)
          have g9 : L[9]? = some true := hdeps ⟨9, .data⟩ (by simp) rfl
          have e88 : (fillT FR DV L).getD 88 undef = (.int .i64 x) := fillT_at DV L FR 9 88 _ undef hnd (by rw [hDV]; rfl) g9 (by rw [hsz]; decide)
          have g7 : L[7]? = some true := hdeps ⟨7, .guard⟩ (by simp) rfl
          have e86 : (fillT FR DV L).getD 86 undef = (.bool true) := fillT_at DV L FR 7 86 _ undef hnd (by rw [hDV]; rfl) g7 (by rw [hsz]; decide)
          have y86 : (fillT FR DV L)[86]? = some (.bool true) := fillT_get hnd (by rw [hDV]; rfl) g7 (by rw [hsz]; decide)
          refine ⟨by simp [Region.wanted, yielded, y86], ?_⟩
          clear hdv hdeps hf
          unfold Oper.wpIn
          refine ⟨fun f _ => trivial, ?_⟩
          unfold fillA
          generalize fillT FR DV L = TT at *
          go_simp
        · obtain rfl := Option.some.inj ho
          rw [hDV] at hdv
          obtain ⟨rfl, rfl⟩ := Prod.mk.inj (Option.some.inj hdv)
          have g7 : L[7]? = some true := hdeps ⟨7, .data⟩ (by simp) rfl
          have e86 : (fillT FR DV L).getD 86 undef = (.bool true) := fillT_at DV L FR 7 86 _ undef hnd (by rw [hDV]; rfl) g7 (by rw [hsz]; decide)
          have g10 : L[10]? = some true := hdeps ⟨10, .data⟩ (by simp) rfl
          have e89 : (fillT FR DV L).getD 89 undef = (.bool true) := fillT_at DV L FR 10 89 _ undef hnd (by rw [hDV]; rfl) g10 (by rw [hsz]; decide)
          refine ⟨rfl, ?_⟩
          clear hdv hdeps hf
          unfold Oper.wpIn
          refine ⟨fun f _ => trivial, ?_⟩
          unfold fillA
          generalize fillT FR DV L = TT at *
          go_simp
        · obtain rfl := Option.some.inj ho
          rw [hDV] at hdv
          obtain ⟨rfl, rfl⟩ := Prod.mk.inj (Option.some.inj hdv)
          have g11 : L[11]? = some true := hdeps ⟨11, .data⟩ (by simp) rfl
          have e90 : (fillT FR DV L).getD 90 undef = (.bool true) := fillT_at DV L FR 11 90 _ undef hnd (by rw [hDV]; rfl) g11 (by rw [hsz]; decide)
          refine ⟨rfl, ?_⟩
          clear hdv hdeps hf
          unfold Oper.wpIn
          refine ⟨fun f _ => trivial, ?_⟩
          unfold fillA
          generalize fillT FR DV L = TT at *
          go_simp
        · obtain rfl := Option.some.inj ho
          rw [hDV] at hdv
          obtain ⟨rfl, rfl⟩ := Prod.mk.inj (Option.some.inj hdv)
          have g12 : L[12]? = some true := hdeps ⟨12, .guard⟩ (by simp) rfl
          have e91 : (fillT FR DV L).getD 91 undef = (.bool true) := fillT_at DV L FR 12 91 _ undef hnd (by rw [hDV]; rfl) g12 (by rw [hsz]; decide)
          have y91 : (fillT FR DV L)[91]? = some (.bool true) := fillT_get hnd (by rw [hDV]; rfl) g12 (by rw [hsz]; decide)
          refine ⟨by simp [Region.wanted, yielded, y91], ?_⟩
          clear hdv hdeps hf
          unfold Oper.wpIn
          refine ⟨fun f _ => trivial, ?_⟩
          unfold fillA
          generalize fillT FR DV L = TT at *
          go_simp
        · obtain rfl := Option.some.inj ho
          rw [hDV] at hdv
          obtain ⟨rfl, rfl⟩ := Prod.mk.inj (Option.some.inj hdv)
          have g12 : L[12]? = some true := hdeps ⟨12, .guard⟩ (by simp) rfl
          have e91 : (fillT FR DV L).getD 91 undef = (.bool true) := fillT_at DV L FR 12 91 _ undef hnd (by rw [hDV]; rfl) g12 (by rw [hsz]; decide)
          have y91 : (fillT FR DV L)[91]? = some (.bool true) := fillT_get hnd (by rw [hDV]; rfl) g12 (by rw [hsz]; decide)
          refine ⟨by simp [Region.wanted, yielded, y91], ?_⟩
          clear hdv hdeps hf
          unfold Oper.wpIn
          refine ⟨fun f _ => trivial, ?_⟩
          unfold fillA
          generalize fillT FR DV L = TT at *
          go_simp
        · obtain rfl := Option.some.inj ho
          rw [hDV] at hdv
          obtain ⟨rfl, rfl⟩ := Prod.mk.inj (Option.some.inj hdv)
          have g13 : L[13]? = some true := hdeps ⟨13, .data⟩ (by simp) rfl
          have e92 : (fillT FR DV L).getD 92 undef = (.bool y) := fillT_at DV L FR 13 92 _ undef hnd (by rw [hDV]; rfl) g13 (by rw [hsz]; decide)
          have g14 : L[14]? = some true := hdeps ⟨14, .data⟩ (by simp) rfl
          have e93 : (fillT FR DV L).getD 93 undef = (.bool y) := fillT_at DV L FR 14 93 _ undef hnd (by rw [hDV]; rfl) g14 (by rw [hsz]; decide)
          have g12 : L[12]? = some true := hdeps ⟨12, .guard⟩ (by simp) rfl
          have e91 : (fillT FR DV L).getD 91 undef = (.bool true) := fillT_at DV L FR 12 91 _ undef hnd (by rw [hDV]; rfl) g12 (by rw [hsz]; decide)
          have y91 : (fillT FR DV L)[91]? = some (.bool true) := fillT_get hnd (by rw [hDV]; rfl) g12 (by rw [hsz]; decide)
          refine ⟨by simp [Region.wanted, yielded, y91], ?_⟩
          clear hdv hdeps hf
          unfold Oper.wpIn
          refine ⟨fun f _ => trivial, ?_⟩
          unfold fillA
          generalize fillT FR DV L = TT at *
          go_simp
        · obtain rfl := Option.some.inj ho
          rw [hDV] at hdv
          obtain ⟨rfl, rfl⟩ := Prod.mk.inj (Option.some.inj hdv)
          have g12 : L[12]? = some true := hdeps ⟨12, .data⟩ (by simp) rfl
          have e91 : (fillT FR DV L).getD 91 undef = (.bool true) := fillT_at DV L FR 12 91 _ undef hnd (by rw [hDV]; rfl) g12 (by rw [hsz]; decide)
          have g15 : L[15]? = some true := hdeps ⟨15, .data⟩ (by simp) rfl
          have e94 : (fillT FR DV L).getD 94 undef = (.bool true) := fillT_at DV L FR 15 94 _ undef hnd (by rw [hDV]; rfl) g15 (by rw [hsz]; decide)
          refine ⟨rfl, ?_⟩
          clear hdv hdeps hf
          unfold Oper.wpIn
          refine ⟨fun f _ => trivial, ?_⟩
          unfold fillA
          generalize fillT FR DV L = TT at *
          go_simp
        · obtain rfl := Option.some.inj ho
          rw [hDV] at hdv
          obtain ⟨rfl, rfl⟩ := Prod.mk.inj (Option.some.inj hdv)
          have g16 : L[16]? = some true := hdeps ⟨16, .data⟩ (by simp) rfl
          have e95 : (fillT FR DV L).getD 95 undef = (.bool true) := fillT_at DV L FR 16 95 _ undef hnd (by rw [hDV]; rfl) g16 (by rw [hsz]; decide)
          refine ⟨rfl, ?_⟩
          clear hdv hdeps hf
          unfold Oper.wpIn
          refine ⟨fun f _ => trivial, ?_⟩
          unfold fillA
          generalize fillT FR DV L = TT at *
          go_simp
        · obtain rfl := Option.some.inj ho
          rw [hDV] at hdv
          obtain ⟨rfl, rfl⟩ := Prod.mk.inj (Option.some.inj hdv)
          have g17 : L[17]? = some true := hdeps ⟨17, .guard⟩ (by simp) rfl
          have e96 : (fillT FR DV L).getD 96 undef = (.bool true) := fillT_at DV L FR 17 96 _ undef hnd (by rw [hDV]; rfl) g17 (by rw [hsz]; decide)
          have y96 : (fillT FR DV L)[96]? = some (.bool true) := fillT_get hnd (by rw [hDV]; rfl) g17 (by rw [hsz]; decide)
          refine ⟨by simp [Region.wanted, yielded, y96], ?_⟩
          clear hdv hdeps hf
          unfold Oper.wpIn
          refine ⟨fun f _ => trivial, ?_⟩
          unfold fillA
          generalize fillT FR DV L = TT at *
          go_simp
        · obtain rfl := Option.some.inj ho
          rw [hDV] at hdv
          obtain ⟨rfl, rfl⟩ := Prod.mk.inj (Option.some.inj hdv)
          have g17 : L[17]? = some true := hdeps ⟨17, .guard⟩ (by simp) rfl
          have e96 : (fillT FR DV L).getD 96 undef = (.bool true) := fillT_at DV L FR 17 96 _ undef hnd (by rw [hDV]; rfl) g17 (by rw [hsz]; decide)
          have y96 : (fillT FR DV L)[96]? = some (.bool true) := fillT_get hnd (by rw [hDV]; rfl) g17 (by rw [hsz]; decide)
          refine ⟨by simp [Region.wanted, yielded, y96], ?_⟩
          clear hdv hdeps hf
          unfold Oper.wpIn
          refine ⟨fun f _ => trivial, ?_⟩
          unfold fillA
          generalize fillT FR DV L = TT at *
          go_simp
        · obtain rfl := Option.some.inj ho
          rw [hDV] at hdv
          obtain ⟨rfl, rfl⟩ := Prod.mk.inj (Option.some.inj hdv)
          have g18 : L[18]? = some true := hdeps ⟨18, .data⟩ (by simp) rfl
          have e97 : (fillT FR DV L).getD 97 undef = (.int .i64 u) := fillT_at DV L FR 18 97 _ undef hnd (by rw [hDV]; rfl) g18 (by rw [hsz]; decide)
          have g19 : L[19]? = some true := hdeps ⟨19, .data⟩ (by simp) rfl
          have e98 : (fillT FR DV L).getD 98 undef = (.int .i64 u) := fillT_at DV L FR 19 98 _ undef hnd (by rw [hDV]; rfl) g19 (by rw [hsz]; decide)
          have g17 : L[17]? = some true := hdeps ⟨17, .guard⟩ (by simp) rfl
          have e96 : (fillT FR DV L).getD 96 undef = (.bool true) := fillT_at DV L FR 17 96 _ undef hnd (by rw [hDV]; rfl) g17 (by rw [hsz]; decide)
          have y96 : (fillT FR DV L)[96]? = some (.bool true) := fillT_get hnd (by rw [hDV]; rfl) g17 (by rw [hsz]; decide)
          refine ⟨by simp [Region.wanted, yielded, y96], ?_⟩
          clear hdv hdeps hf
          unfold Oper.wpIn
          refine ⟨fun f _ => trivial, ?_⟩
          unfold fillA
          generalize fillT FR DV L = TT at *
          go_simp
        · obtain rfl := Option.some.inj ho
          rw [hDV] at hdv
          obtain ⟨rfl, rfl⟩ := Prod.mk.inj (Option.some.inj hdv)
          have g17 : L[17]? = some true := hdeps ⟨17, .data⟩ (by simp) rfl
          have e96 : (fillT FR DV L).getD 96 undef = (.bool true) := fillT_at DV L FR 17 96 _ undef hnd (by rw [hDV]; rfl) g17 (by rw [hsz]; decide)
          have g20 : L[20]? = some true := hdeps ⟨20, .data⟩ (by simp) rfl
          have e99 : (fillT FR DV L).getD 99 undef = (.bool true) := fillT_at DV L FR 20 99 _ undef hnd (by rw [hDV]; rfl) g20 (by rw [hsz]; decide)
          refine ⟨rfl, ?_⟩
          clear hdv hdeps hf
          unfold Oper.wpIn
          refine ⟨fun f _ => trivial, ?_⟩
          unfold fillA
          generalize fillT FR DV L = TT at *
          go_simp
        · obtain rfl := Option.some.inj ho
          rw [hDV] at hdv
          obtain ⟨rfl, rfl⟩ := Prod.mk.inj (Option.some.inj hdv)
          have g21 : L[21]? = some true := hdeps ⟨21, .data⟩ (by simp) rfl
          have e100 : (fillT FR DV L).getD 100 undef = (.bool true) := fillT_at DV L FR 21 100 _ undef hnd (by rw [hDV]; rfl) g21 (by rw [hsz]; decide)
          refine ⟨rfl, ?_⟩
          clear hdv hdeps hf
          unfold Oper.wpIn
          refine ⟨fun f _ => trivial, ?_⟩
          unfold fillA
          generalize fillT FR DV L = TT at *
          go_simp
        · obtain rfl := Option.some.inj ho
          rw [hDV] at hdv
          obtain ⟨rfl, rfl⟩ := Prod.mk.inj (Option.some.inj hdv)
          have g22 : L[22]? = some true := hdeps ⟨22, .guard⟩ (by simp) rfl
          have e101 : (fillT FR DV L).getD 101 undef = (.bool true) := fillT_at DV L FR 22 101 _ undef hnd (by rw [hDV]; rfl) g22 (by rw [hsz]; decide)
          have y101 : (fillT FR DV L)[101]? = some (.bool true) := fillT_get hnd (by rw [hDV]; rfl) g22 (by rw [hsz]; decide)
          refine ⟨by simp [Region.wanted, yielded, y101], ?_⟩
          clear hdv hdeps hf
          unfold Oper.wpIn
          refine ⟨fun f _ => trivial, ?_⟩
          unfold fillA
          generalize fillT FR DV L = TT at *
          go_simp
        · obtain rfl := Option.some.inj ho
          rw [hDV] at hdv
          obtain ⟨rfl, rfl⟩ := Prod.mk.inj (Option.some.inj hdv)
          have g22 : L[22]? = some true := hdeps ⟨22, .guard⟩ (by simp) rfl
          have e101 : (fillT FR DV L).getD 101 undef = (.bool true) := fillT_at DV L FR 22 101 _ undef hnd (by rw [hDV]; rfl) g22 (by rw [hsz]; decide)
          have y101 : (fillT FR DV L)[101]? = some (.bool true) := fillT_get hnd (by rw [hDV]; rfl) g22 (by rw [hsz]; decide)
          refine ⟨by simp [Region.wanted, yielded, y101], ?_⟩
          clear hdv hdeps hf
          unfold Oper.wpIn
          refine ⟨fun f _ => trivial, ?_⟩
          unfold fillA
          generalize fillT FR DV L = TT at *
          go_simp
        · obtain rfl := Option.some.inj ho
          rw [hDV] at hdv
          obtain ⟨rfl, rfl⟩ := Prod.mk.inj (Option.some.inj hdv)
          have g23 : L[23]? = some true := hdeps ⟨23, .data⟩ (by simp) rfl
          have e102 : (fillT FR DV L).getD 102 undef = (.bool v) := fillT_at DV L FR 23 102 _ undef hnd (by rw [hDV]; rfl) g23 (by rw [hsz]; decide)
          have g24 : L[24]? = some true := hdeps ⟨24, .data⟩ (by simp) rfl
          have e103 : (fillT FR DV L).getD 103 undef = (.bool v) := fillT_at DV L FR 24 103 _ undef hnd (by rw [hDV]; rfl) g24 (by rw [hsz]; decide)
          have g22 : L[22]? = some true := hdeps ⟨22, .guard⟩ (by simp) rfl
          have e101 : (fillT FR DV L).getD 101 undef = (.bool true) := fillT_at DV L FR 22 101 _ undef hnd (by rw [hDV]; rfl) g22 (by rw [hsz]; decide)
          have y101 : (fillT FR DV L)[101]? = some (.bool true) := fillT_get hnd (by rw [hDV]; rfl) g22 (by rw [hsz]; decide)
          refine ⟨by simp [Region.wanted, yielded, y101], ?_⟩
          clear hdv hdeps hf
          unfold Oper.wpIn
          refine ⟨fun f _ => trivial, ?_⟩
          unfold fillA
          generalize fillT FR DV L = TT at *
          go_simp
        · obtain rfl := Option.some.inj ho
          rw [hDV] at hdv
          obtain ⟨rfl, rfl⟩ := Prod.mk.inj (Option.some.inj hdv)
          have g22 : L[22]? = some true := hdeps ⟨22, .data⟩ (by simp) rfl
          have e101 : (fillT FR DV L).getD 101 undef = (.bool true) := fillT_at DV L FR 22 101 _ undef hnd (by rw [hDV]; rfl) g22 (by rw [hsz]; decide)
          have g25 : L[25]? = some true := hdeps ⟨25, .data⟩ (by simp) rfl
          have e104 : (fillT FR DV L).getD 104 undef = (.bool true) := fillT_at DV L FR 25 104 _ undef hnd (by rw [hDV]; rfl) g25 (by rw [hsz]; decide)
          refine ⟨rfl, ?_⟩
          clear hdv hdeps hf
          unfold Oper.wpIn
          refine ⟨fun f _ => trivial, ?_⟩
          unfold fillA
          generalize fillT FR DV L = TT at *
          go_simp
        · obtain rfl := Option.some.inj ho
          rw [hDV] at hdv
          obtain ⟨rfl, rfl⟩ := Prod.mk.inj (Option.some.inj hdv)
          have g26 : L[26]? = some true := hdeps ⟨26, .data⟩ (by simp) rfl
          have e105 : (fillT FR DV L).getD 105 undef = (.bool true) := fillT_at DV L FR 26 105 _ undef hnd (by rw [hDV]; rfl) g26 (by rw [hsz]; decide)
          refine ⟨rfl, ?_⟩
          clear hdv hdeps hf
          unfold Oper.wpIn
          refine ⟨fun f _ => trivial, ?_⟩
          unfold fillA
          generalize fillT FR DV L = TT at *
          go_simp
        · obtain rfl := Option.some.inj ho
          rw [hDV] at hdv
          obtain ⟨rfl, rfl⟩ := Prod.mk.inj (Option.some.inj hdv)
          have g27 : L[27]? = some true := hdeps ⟨27, .guard⟩ (by simp) rfl
          have e106 : (fillT FR DV L).getD 106 undef = (.bool true) := fillT_at DV L FR 27 106 _ undef hnd (by rw [hDV]; rfl) g27 (by rw [hsz]; decide)
          have y106 : (fillT FR DV L)[106]? = some (.bool true) := fillT_get hnd (by rw [hDV]; rfl) g27 (by rw [hsz]; decide)
          refine ⟨by simp [Region.wanted, yielded, y106], ?_⟩
          clear hdv hdeps hf
          unfold Oper.wpIn
          refine ⟨fun f _ => trivial, ?_⟩
          unfold fillA
          generalize fillT FR DV L = TT at *
          go_simp
        · obtain rfl := Option.some.inj ho
          rw [hDV] at hdv
          obtain ⟨rfl, rfl⟩ := Prod.mk.inj (Option.some.inj hdv)
          have g28 : L[28]? = some true := hdeps ⟨28, .data⟩ (by simp) rfl
          have e107 : (fillT FR DV L).getD 107 undef = (.int .u64 (m : Int)) := fillT_at DV L FR 28 107 _ undef hnd (by rw [hDV]; rfl) g28 (by rw [hsz]; decide)
          have g27 : L[27]? = some true := hdeps ⟨27, .guard⟩ (by simp) rfl
          have e106 : (fillT FR DV L).getD 106 undef = (.bool true) := fillT_at DV L FR 27 106 _ undef hnd (by rw [hDV]; rfl) g27 (by rw [hsz]; decide)
          have y106 : (fillT FR DV L)[106]? = some (.bool true) := fillT_get hnd (by rw [hDV]; rfl) g27 (by rw [hsz]; decide)
          refine ⟨by simp [Region.wanted, yielded, y106], ?_⟩
          clear hdv hdeps hf
          unfold Oper.wpIn
          refine ⟨fun f _ => trivial, ?_⟩
          unfold fillA
          generalize fillT FR DV L = TT at *
          go_simp
          exact (callsIn_wide.2 (B3.out W)).mono (fun e w' h => by obtain ⟨rfl, rfl⟩ := h; exact ⟨rfl, hC⟩)
        · obtain rfl := Option.some.inj ho
          rw [hDV] at hdv
          obtain ⟨rfl, rfl⟩ := Prod.mk.inj (Option.some.inj hdv)
          have g27 : L[27]? = some true := hdeps ⟨27, .guard⟩ (by simp) rfl
          have e106 : (fillT FR DV L).getD 106 undef = (.bool true) := fillT_at DV L FR 27 106 _ undef hnd (by rw [hDV]; rfl) g27 (by rw [hsz]; decide)
          have y106 : (fillT FR DV L)[106]? = some (.bool true) := fillT_get hnd (by rw [hDV]; rfl) g27 (by rw [hsz]; decide)
          refine ⟨by simp [Region.wanted, yielded, y106], ?_⟩
          clear hdv hdeps hf
          exact opIn_load_set (.tmp 6) rfl e6 (hC.1) ⟨rfl, hC⟩
        · obtain rfl := Option.some.inj ho
          rw [hDV] at hdv
          obtain ⟨rfl, rfl⟩ := Prod.mk.inj (Option.some.inj hdv)
          have g30 : L[30]? = some true := hdeps ⟨30, .data⟩ (by simp) rfl
          have e109 : (fillT FR DV L).getD 109 undef = (setV m.testBit) := fillT_at DV L FR 30 109 _ undef hnd (by rw [hDV]; rfl) g30 (by rw [hsz]; decide)
          have g27 : L[27]? = some true := hdeps ⟨27, .guard⟩ (by simp) rfl
          have e106 : (fillT FR DV L).getD 106 undef = (.bool true) := fillT_at DV L FR 27 106 _ undef hnd (by rw [hDV]; rfl) g27 (by rw [hsz]; decide)
          have y106 : (fillT FR DV L)[106]? = some (.bool true) := fillT_get hnd (by rw [hDV]; rfl) g27 (by rw [hsz]; decide)
          refine ⟨by simp [Region.wanted, yielded, y106], ?_⟩
          clear hdv hdeps hf
          unfold Oper.wpIn
          refine ⟨fun f _ => trivial, ?_⟩
          unfold fillA
          generalize fillT FR DV L = TT at *
          go_simp
          exact (callsIn_wide.2 (B4.out W)).mono (fun e w' h => by obtain ⟨rfl, hb⟩ := h; exact ⟨rfl, hC.1.below hb, hC.2.trans (hb.mono hC.2.size)⟩)
        · obtain rfl := Option.some.inj ho
          rw [hDV] at hdv
          obtain ⟨rfl, rfl⟩ := Prod.mk.inj (Option.some.inj hdv)
          have g29 : L[29]? = some true := hdeps ⟨29, .data⟩ (by simp) rfl
          have e108 : (fillT FR DV L).getD 108 undef = (.int .i64 (cc : Int)) := fillT_at DV L FR 29 108 _ undef hnd (by rw [hDV]; rfl) g29 (by rw [hsz]; decide)
          have g31 : L[31]? = some true := hdeps ⟨31, .data⟩ (by simp) rfl
          have e110 : (fillT FR DV L).getD 110 undef = (.int .i64 (cc : Int)) := fillT_at DV L FR 31 110 _ undef hnd (by rw [hDV]; rfl) g31 (by rw [hsz]; decide)
          have g27 : L[27]? = some true := hdeps ⟨27, .guard⟩ (by simp) rfl
          have e106 : (fillT FR DV L).getD 106 undef = (.bool true) := fillT_at DV L FR 27 106 _ undef hnd (by rw [hDV]; rfl) g27 (by rw [hsz]; decide)
          have y106 : (fillT FR DV L)[106]? = some (.bool true) := fillT_get hnd (by rw [hDV]; rfl) g27 (by rw [hsz]; decide)
          refine ⟨by simp [Region.wanted, yielded, y106], ?_⟩
          clear hdv hdeps hf
          unfold Oper.wpIn
          refine ⟨fun f _ => trivial, ?_⟩
          unfold fillA
          generalize fillT FR DV L = TT at *
          go_simp
        · obtain rfl := Option.some.inj ho
          rw [hDV] at hdv
          obtain ⟨rfl, rfl⟩ := Prod.mk.inj (Option.some.inj hdv)
          have g27 : L[27]? = some true := hdeps ⟨27, .data⟩ (by simp) rfl
          have e106 : (fillT FR DV L).getD 106 undef = (.bool true) := fillT_at DV L FR 27 106 _ undef hnd (by rw [hDV]; rfl) g27 (by rw [hsz]; decide)
          have g32 : L[32]? = some true := hdeps ⟨32, .data⟩ (by simp) rfl
          have e111 : (fillT FR DV L).getD 111 undef = (.bool true) := fillT_at DV L FR 32 111 _ undef hnd (by rw [hDV]; rfl) g32 (by rw [hsz]; decide)
          refine ⟨rfl, ?_⟩
          clear hdv hdeps hf
          unfold Oper.wpIn
          refine ⟨fun f _ => trivial, ?_⟩
          unfold fillA
          generalize fillT FR DV L = TT at *
          go_simp
        · obtain rfl := Option.some.inj ho
          rw [hDV] at hdv
          obtain ⟨rfl, rfl⟩ := Prod.mk.inj (Option.some.inj hdv)
          have g33 : L[33]? = some true := hdeps ⟨33, .data⟩ (by simp) rfl
          have e112 : (fillT FR DV L).getD 112 undef = (.bool true) := fillT_at DV L FR 33 112 _ undef hnd (by rw [hDV]; rfl) g33 (by rw [hsz]; decide)
          refine ⟨rfl, ?_⟩
          clear hdv hdeps hf
          unfold Oper.wpIn
          refine ⟨fun f _ => trivial, ?_⟩
          unfold fillA
          generalize fillT FR DV L = TT at *
          go_simp
        · exfalso
          have h := (Array.getElem?_eq_some_iff.1 ho).1
          simp at h
          omega
      case hend =>
        intro W5 hC5
        have hfin : fillA { tmps := FR, defers := [] } DV (List.replicate 35 true) = fillA { tmps := FR, defers := [] } DV [true, true, true, true, true, true, true, true, true, true, true, true, true, true, true, true, true, true, true, true, true, true, true, true, true, true, true, true, true, true, true, true, true, true, true] := rfl
        rw [show ∀ k, k = 35 → fillA { tmps := FR, defers := [] } DV (List.replicate k true) = fillA { tmps := FR, defers := [] } DV (List.replicate 35 true) from fun k hk => by rw [hk]]
        · rw [hfin, hDV, hFR]
          simp only [fillA, fillT, if_true, List.setIfInBounds_toArray, List.set_cons_succ, List.set_cons_zero]
          clear hfin hFR hnd hDV
          have HE := Lib.hid hC5
          clear hC5
          gi_wp2_with fail
          refine bodyPost_ret (results_tmp rfl _ _ _) rfl ?_
          exact ⟨rfl, HE.out.2⟩
        · rfl
    · rfl
theorem maskone_walk {m : Nat} (hm : Wd m) (i : Int) (hi : In i) (w : World) (hG : GlobM w) : Calls Tryd.prog 3 #[.int .u64 (m : Int), .int .i64 i] w fun e w' => e = .returned (.bool true) ∧ Below w.heap.size w w' :=
  (callsIn_wide (n := 4)).1 (maskone_in 4 hm i hi w hG (Nat.le_refl _))
end Go.Proofs.YtngfopnefmknoaaDoor
