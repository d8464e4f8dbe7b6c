/- The reference's Parse. -/
import Derived.Test.YtddeoemkjedonaaGreatDoorMErSize
import Derived.Test.YtddeoemkjedonaaGreatDoorEpParse
namespace Go.Proofs.YtddeoemkjedonaaGreatDoor
open Go.RowKit Go.Shelf
set_option maxRecDepth 100000

theorem results_ctt {fn : Func} {p q r : Tmp} {t1 : TypeId} (h : fn.results = #[.cell p t1, .tmp q, .tmp r]) (tmps : Array Value) (P : Program) (w : World) :
    (results fn tmps).run P w = ((asAddr (tmps.getD p undef)).run P w).andThen fun a w₁ => ((loadVar t1 a).run P w₁).andThen fun v w₂ => .ok (.tuple #[v, tmps.getD q undef, tmps.getD r undef]) w₂ := by
  simp only [results, h]
  simp [Sem.run_bind, Result.andThen]
theorem rparseRes {fn : Func} {p q r : Tmp} {tmps : Array Value} {W : World} {b1 : Nat} {v : Value} {x y : Int} (hf : fn.results = #[.cell p 26, .tmp q, .tmp r])
    (h1 : tmps.getD p undef = .pointer (some ⟨b1, 0, none⟩)) (h2 : tmps.getD q undef = .int .i64 x) (h3 : tmps.getD r undef = .int .i64 y) (x1 : Bx W b1 26 [v]) :
    (results fn tmps).run Tryz.prog W = .ok (.tuple #[.agg #[v], .int .i64 x, .int .i64 y]) W := by
  have c1 := x1.c 0 rfl
  rw [results_ctt hf, h1, h2, h3]
  simp [asAddr, go_sem, c1, Result.andThen]
theorem placeOf_in {L : List TokE} {n q : Nat} (h : q < L.length) : placeOf L n q = (L.getD q default).pl := by unfold placeOf; rw [if_neg (by omega)]
theorem placeOf_end {L : List TokE} {n : Nat} : placeOf L n L.length = n := by unfold placeOf; rw [if_pos rfl]
set_option maxHeartbeats 4000000 in
theorem rparse_any (a : Option Addr) (n cap : Nat) (l : List UInt8) (w : World) (hT : Txt w a n cap l) (hn : n ≤ 140737488351232) :
    Calls Tryz.prog 6 #[.slice a n cap] w (ParseD l n w) := by
  obtain ⟨W0, hW0, hx0, hb0⟩ : ∃ W0, W0 = w.alloc (.cells #[.slice none 0 0] 26) ∧ Bx W0 w.heap.size 26 [.slice none 0 0] ∧ Below w.heap.size w W0 := ⟨_, rfl, Bx.new w 26 [.slice none 0 0], (Below.refl _ w).alloc (Nat.le_refl _) _⟩
  have hz0 : W0.heap.size = w.heap.size + 1 := by rw [hW0]; simp
  have HS := Lib.hid (refScan_any a n cap l W0 (hT.below hb0 (Nat.le_refl _)) hn)
  have HW0 := Lib.hid hW0
  have HX0 := Lib.hid hx0
  have HB0 := Lib.hid hb0
  have HZ0 := Lib.hid hz0
  clear hT hW0 hx0 hb0 hz0
  unfold RScan at HS
  go_enter Tryz.func6, Tryz.ntmps6
  go_upto_region 1 with (fail)
  rw [← HW0.out]
  go_upto_region 2 with (go_at_call 15; refine HS.out.mono ?_; rintro e w1 ⟨hb1, v, rfl, ho⟩; have HB1 := Lib.hid hb1; have HO := Lib.hid ho; clear hb1 ho)
  by_cases hE : (allR l).2.2 = 0
  · have HE := Lib.hid hE
    rw [hE]
    obtain ⟨av, vc, rfl, htoks, hblk⟩ := toks_own rfl HO.out
    have hlen := toksL_few l
    have HRL := Lib.hid (toksL_real l)
    have HSL := Lib.hid (toksL_size l)
    have HTK := Lib.hid htoks
    have HBK := Lib.hid hblk
    generalize hL : toksL l = L at *
    have HLL := Lib.hid hL
    have HX1 := Lib.hid (HX0.out.keep HB1.out HX0.out.lt)
    have HBW1 := Lib.hid (HB0.out.trans (HB1.out.mono HB0.out.size))
    have HZ1 := Lib.hid (show w.heap.size + 1 ≤ w1.heap.size by have := HB1.out.size; have := HZ0.out; omega)
    clear hE htoks hblk hL
    go_upto_region 5 with (fail)
    obtain ⟨W3, hW3⟩ : ∃ W3, W3 = w1.alloc (.cells #[.slice av L.length vc, .int .i64 0, .int .i64 (-1)] 48) := ⟨_, rfl⟩
    rw [← hW3]
    have hb3 : Below w1.heap.size w1 W3 := by rw [hW3]; exact (Below.refl _ w1).alloc (Nat.le_refl _) _
    have hst : RSt W3 w1.heap.size vc av L 0 (-1) := ⟨by rw [hW3]; exact heap_alloc_new _ _, toks_blk HTK.out (fun x hx k => hb3.block _ (HBK.out x hx k).2), fun x hx k => (HBK.out x hx k).2, by omega, Nat.zero_le _, HSL.out, HRL.out⟩
    have HLV := Lib.hid (rlevel_any w1.heap.size vc 0 1 av L (by omega) W3 hst (by omega) (by omega))
    have HB3 := Lib.hid (HBW1.out.trans (hb3.mono (by have := HZ1.out; omega)))
    have HX3 := Lib.hid (HX1.out.keep hb3 (by have := HZ1.out; omega))
    clear hW3 hb3 hst
    have hne : w.heap.size ≠ w1.heap.size := by have := HZ1.out; omega
    generalize hp : w1.heap.size = p at *
    go_upto_region 6 with (go_at_call 16; refine HLV.out.mono ?_; rintro e w5 ⟨he, hb, ho⟩; have HB5 := Lib.hid (HB3.out.trans (hb.mono (by have := HZ1.out; omega))); have HX5 := Lib.hid (HX3.out.keep hb (by have := HZ1.out; omega)); clear hb ho; rcases he with ⟨q, k', hq, rfl, hst⟩ | ⟨t, q, qa, hq, hcq, rfl, hst, htr⟩)
    · have hqL := hq.bad_le (by omega) (Nat.zero_le _)
      have HPR : Hid (ParR L n none (placeOf L n q) 50) := Lib.hid (.inl ⟨q, hq, rfl, rfl, rfl⟩)
      clear hq
      have c2 := hst.rdr.c2
      have fx := HX5.out.fz 0
      have x0 := HX5.out.c 0 rfl
      rcases Nat.lt_or_ge q L.length with hlt | hge
      · obtain ⟨x, hax, t0, t1, t2, t3, t4, t5⟩ := hst.toks q hlt
        have hpl := placeOf_in (n := n) hlt
        rw [hpl] at HPR
        have hxb : (x.add (q * 6)).block ≠ w.heap.size := by have := (HBK.out x hax (q * 6)).1; have := HZ0.out; omega
        subst hax
        generalize (L.getD q default).pl = P at t4 HPR
        have d1 : decide ((q : Int) < (L.length : Int)) = true := decide_eq_true (by omega)
        have HST := Lib.hid hst
        clear hst t0 t1 t2 t3 t5 hpl hp
        go_wp2
        go_region
        all_goals go_wp2
        all_goals exact bodyPost_ret (rparseRes rfl rfl rfl rfl (by first | exact HX5.out.set 0 _ | exact bx_drew (HX5.out.set 0 _))) rfl ⟨.inl ⟨_, _, .inr ⟨HE.out, by rw [HLL.out]; exact HPR.out⟩, rfl⟩, by first | exact (HB5.out.setCell (Nat.le_refl _) _).drew | exact (HB5.out.drew).setCell (Nat.le_refl _) _⟩
      · obtain rfl : q = L.length := by omega
        rw [placeOf_end] at HPR
        have d1 : decide ((L.length : Int) < (L.length : Int)) = false := decide_eq_false (by omega)
        have HST := Lib.hid hst
        clear hst hp
        go_wp2
        exact bodyPost_ret (rparseRes rfl rfl rfl rfl (HX5.out.set 0 _)) rfl ⟨.inl ⟨_, _, .inr ⟨HE.out, by rw [HLL.out]; exact HPR.out⟩, rfl⟩, HB5.out.setCell (Nat.le_refl _) _⟩
    · have hqL := hq.ok_le (by omega) (Nat.zero_le _)
      have c1 := hst.rdr.c1
      rcases Nat.lt_or_ge q L.length with hlt0 | hge0
      · have HPR : Hid (ParR L n none (placeOf L n q) 50) := Lib.hid (.inr (.inl ⟨t, q, hq, hlt0, rfl, rfl, rfl⟩))
        have d0 : decide ((q : Int) < (L.length : Int)) = true := decide_eq_true (by omega)
        have c2 := hst.rdr.c2
        have f2 := hst.rdr.fz (o := 2)
        have hmk := hst.mark (q : Int)
        have HXm := Lib.hid (HX5.out.other hne 2 (.int .i64 (q : Int)))
        have HBm : Hid (Below w.heap.size w (w5.setCell ⟨p, 2, none⟩ (.int .i64 (q : Int)))) := Lib.hid (HB5.out.setCell (by show w.heap.size ≤ p; have := HZ1.out; omega) _)
        clear hq hst htr hcq HX5 HB5
        have HMK := Lib.hid hmk
        clear hmk
        go_upto_region 8 with (fail)
        generalize w5.setCell ⟨p, 2, none⟩ (.int .i64 (q : Int)) = w6 at *
        have hst := HMK.out
        have HX5 := HXm
        have HB5 := HBm
        clear c1 c2 f2 hlt0 d0 HMK
        have c2 := hst.rdr.c2
        have fx := HX5.out.fz 0
        have x0 := HX5.out.c 0 rfl
        rcases Nat.lt_or_ge q L.length with hlt | hge
        · obtain ⟨x, hax, t0, t1, t2, t3, t4, t5⟩ := hst.toks q hlt
          have hpl := placeOf_in (n := n) hlt
          rw [hpl] at HPR
          have hxb : (x.add (q * 6)).block ≠ w.heap.size := by have := (HBK.out x hax (q * 6)).1; have := HZ0.out; omega
          subst hax
          generalize (L.getD q default).pl = P at t4 HPR
          have d1 : decide ((q : Int) < (L.length : Int)) = true := decide_eq_true (by omega)
          have HST := Lib.hid hst
          clear hst t0 t1 t2 t3 t5 hpl hp
          go_wp2
          go_region
          all_goals go_wp2
          all_goals exact bodyPost_ret (rparseRes rfl rfl rfl rfl (by first | exact HX5.out.set 0 _ | exact bx_drew (HX5.out.set 0 _))) rfl ⟨.inl ⟨_, _, .inr ⟨HE.out, by rw [HLL.out]; exact HPR.out⟩, rfl⟩, by first | exact (HB5.out.setCell (Nat.le_refl _) _).drew | exact (HB5.out.drew).setCell (Nat.le_refl _) _⟩
        · obtain rfl : q = L.length := by omega
          rw [placeOf_end] at HPR
          have d1 : decide ((L.length : Int) < (L.length : Int)) = false := decide_eq_false (by omega)
          have HST := Lib.hid hst
          clear hst hp
          go_wp2
          exact bodyPost_ret (rparseRes rfl rfl rfl rfl (HX5.out.set 0 _)) rfl ⟨.inl ⟨_, _, .inr ⟨HE.out, by rw [HLL.out]; exact HPR.out⟩, rfl⟩, HB5.out.setCell (Nat.le_refl _) _⟩
      · obtain rfl : q = L.length := by omega
        have hcp := cnt_pos t
        have d0 : decide ((L.length : Int) < (L.length : Int)) = false := decide_eq_false (by omega)
        have c2 := hst.rdr.c2
        have HLM := Lib.hid (limits_any t _ qa w5 htr (by omega))
        have HTR := Lib.hid htr
        have HQ := Lib.hid hq
        have HST := Lib.hid hst
        have fx := HX5.out.fz 0
        have x0 := HX5.out.c 0 rfl
        obtain ⟨x, hax, t0, t1, t2, t3, t4, t5⟩ := hst.toks 0 (by omega)
        have hxb : (x.add (0 * 6)).block ≠ w.heap.size := by have := (HBK.out x hax (0 * 6)).1; have := HZ0.out; omega
        have hpl := placeOf_in (L := L) (n := n) (q := 0) (by omega)
        subst hax
        generalize hP : (L.getD 0 default).pl = P at t4 hpl
        have HPL := Lib.hid hpl
        have hL0 : 0 < L.length := by omega
        have hx0 : x.add (0 * 6) = x := by rw [Nat.zero_mul]; unfold Addr.add; simp
        rw [hx0] at hxb t4
        by_cases hf : faultT t = 0
        · have HF := Lib.hid hf
          rw [hf] at HLM
          clear hq hst htr t0 t1 t2 t3 t4 t5 hpl hP hp
          have HLA := Lib.hid (laid_any t _ qa w5.heap.size [] (.slice none 0 0) w5 w5 HTR.out rfl (Below.refl _ _) (World.ownsRow_nil _ _ _ _) (by show 0 + cnt t ≤ 1000000000; omega))
          have hzz : w.heap.size < w5.heap.size := HX5.out.lt
          go_upto_region 15 with (go_at_call 17; refine HLM.out.mono ?_; rintro e w6 ⟨rfl, rfl⟩)
          go_wp2_with (go_at_call 18; refine HLA.out.mono ?_; rintro e w7 ⟨g, c, rfl, hrow, hgg, hs7, hf7, hb7⟩; obtain ⟨g', c', he', hg1, hg2, hnd⟩ := nodes_own (ns := lay 0 t) (by rw [lay_len]; exact (Nat.zero_add _).symm) (by show 0 < 0 + cnt t; omega) hrow; injection he' with e1 e2 e3; injection e1 with e1; injection e1 with e1; subst e1; subst e3; have HND := Lib.hid hnd; have HG := Lib.hid (And.intro hg1 hg2); have HX7 := Lib.hid (HX5.out.keep hb7 hzz); have HB7 := Lib.hid (HB5.out.trans (hb7.mono (Nat.le_of_lt hzz))); have f7 := HX7.out.fz 0; have c7 := HX7.out.c 0 rfl; clear hrow hgg hs7 hf7 hb7 hnd hg1 hg2)
          have hG := HG.out
          have XN : NodesAt (w7.setCell ⟨w.heap.size, 0, none⟩ (.slice (some ⟨g, 0, none⟩) (0 + cnt t) c)) g (lay 0 t) := fun i j v hi hj => cell_set_far (by omega) (HND.out i j v hi hj)
          rw [Nat.zero_add] at XN
          exact bodyPost_ret (rparseRes rfl rfl rfl rfl (HX7.out.set 0 _)) rfl ⟨.inr ⟨t, g, c, HE.out, by rw [HLL.out]; exact .inr (.inr (.inr ⟨t, HQ.out, HF.out, rfl, rfl, rfl⟩)), by first | rfl | (rw [show ([] : List Nd).length + cnt t = cnt t from Nat.zero_add _]), by omega, by simp; omega, by first | exact XN⟩, HB7.out.setCell (Nat.le_refl _) _⟩
        · have HF := Lib.hid hf
          have df : (faultT t == 0) = false := beq_eq_false_iff_ne.2 hf
          generalize hfl : faultT t = fl at HLM df
          have HFL := Lib.hid hfl
          clear hq hst htr t0 t1 t2 t3 t5 hpl hP hf hfl hp
          go_upto_region 14 with (go_at_call 17; refine HLM.out.mono ?_; rintro e w6 ⟨rfl, rfl⟩)
          go_region
          all_goals go_wp2
          all_goals exact bodyPost_ret (rparseRes rfl rfl rfl rfl (by first | exact HX5.out.set 0 _ | exact bx_drew (HX5.out.set 0 _))) rfl ⟨.inl ⟨_, _, .inr ⟨HE.out, by rw [HLL.out]; exact .inr (.inr (.inl ⟨t, HQ.out, HF.out, rfl, HPL.out.symm, HFL.out.symm⟩))⟩, rfl⟩, by first | exact (HB5.out.setCell (Nat.le_refl _) _).drew | exact (HB5.out.drew).setCell (Nat.le_refl _) _⟩
  · have d2 : (((allR l).2.2 : Int) == 0) = false := beq_eq_false_iff_ne.2 (by omega)
    have HE := Lib.hid hE
    have hx1 := HX0.out.keep HB1.out HX0.out.lt
    have HX1 := Lib.hid hx1
    have HBW1 := Lib.hid (HB0.out.trans (HB1.out.mono HB0.out.size))
    have fx := hx1.fz 0
    have x0 := hx1.c 0 rfl
    clear hE HO hx1
    go_wp2
    exact bodyPost_ret (rparseRes rfl rfl rfl rfl (HX1.out.set 0 _)) rfl ⟨.inl ⟨_, _, .inl ⟨HE.out, rfl, rfl⟩, rfl⟩, HBW1.out.setCell (Nat.le_refl _) _⟩
end Go.Proofs.YtddeoemkjedonaaGreatDoor
