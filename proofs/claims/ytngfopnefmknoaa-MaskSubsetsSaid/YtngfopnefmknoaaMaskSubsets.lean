/- MaskSubsets: the walk. -/
import Derived.Test.YtngfopnefmknoaaMkSubs
import Derived.Test.YtngfopnefmknoaaMkRSub
import Derived.Test.YtngfopnefmknoaaMkArrIn
import Derived.Sort.CutIn
import Derived.ControlIn
set_option linter.all false
namespace Go.Proofs.Ytngfopnefmknoaa
open Go.RowKit Go.Shelf
attribute [local go_sem] Oper.semAt_some
set_option maxRecDepth 100000
/-- what stands between the rounds -/
structure Sw (P rb sb nb cb m k : Nat) (W : World) : Prop where
  res : Boxed W rb 4 (.bool false)
  set : Bk W sb 25 (setL m.testBit)
  num : Boxed W nb 22 (.int .u64 (k : Int))
  cap : Boxed W cb 23 (.int .u64 (m : Int))
  dif : rb ≠ nb ∧ sb ≠ nb ∧ cb ≠ nb
  old : P ≤ nb
theorem boxed_out {W W' : World} {B : Nat} {t : TypeId} {v : Value} {Fy : List Nat} (h : Boxed W B t v) (ho : Out Fy W W') (hB : B ∉ Fy) : Boxed W' B t v := (ho.block B h.lt hB).trans h
theorem boxed_other {W : World} {B x : Nat} {t : TypeId} {v : Value} (h : Boxed W B t v) (hx : B ≠ x) (u : Value) : Boxed (W.setCell ⟨x, 0, none⟩ u) B t v := (heap_setCell_other W ⟨x, 0, none⟩ B u hx).trans h
theorem Sw.below {P rb sb nb cb m k : Nat} {W W' : World} (h : Sw P rb sb nb cb m k W) (hb : Below W.heap.size W W') : Sw P rb sb nb cb m k W' :=
  ⟨boxed_below h.res hb, h.set.below hb, boxed_below h.num hb, boxed_below h.cap hb, h.dif, h.old⟩
theorem Sw.next {P rb sb nb cb m k : Nat} {W : World} (h : Sw P rb sb nb cb m k W) (j : Nat) : Sw P rb sb nb cb m j (W.setCell ⟨nb, 0, none⟩ (.int .u64 (j : Int))) :=
  ⟨boxed_other h.res h.dif.1 _, h.set.other h.dif.2.1 _ _, h.num.set _, boxed_other h.cap h.dif.2.2 _, h.dif, h.old⟩
/-- blocks of cells are as they were -/
def KC (w w' : World) : Prop := ∀ (b : Nat) (cs : Array Value) (t : TypeId) (fr : Nat × Nat), w.heap[b]? = some (.cells cs t fr) → w'.heap[b]? = some (.cells cs t fr)
theorem KC.put {w : World} {l : Nat} {r : Loop} (o : Obj) (h : w.heap[l]? = some (.loop r)) : KC w (w.putObj l o) := fun b cs t fr hb => by
  by_cases e : b = l
  · subst e
    rw [h] at hb
    cases hb
  · exact (World.putObj_heap_other e).trans hb
theorem below_put {B L : Nat} {W : World} {o o' : Obj} (hB : B ≤ L) (hl : W.heap[L]? = some o) : Below B W (W.putObj L o') := (Below.refl B W).grown (grownBy_putObj' W L o') (by have := some_lt hl; omega) (fun k e => by cases e; exact hB)
theorem Sw.kc {P rb sb nb cb m k : Nat} {W W' : World} (h : Sw P rb sb nb cb m k W) (hk : KC W W') : Sw P rb sb nb cb m k W' :=
  ⟨hk _ _ _ _ h.res, hk _ _ _ _ h.set, hk _ _ _ _ h.num, hk _ _ _ _ h.cap, h.dif, h.old⟩
theorem Lp.other {r : LoopState → Option Code → Loop} {b : Nat} {st : LoopState} {j : Option Code} {W : World} {x : Nat} (h : Lp r b st j W) (hx : x < b) (u : Value) : Lp r b st j (W.setCell ⟨x, 0, none⟩ u) :=
  ⟨(heap_setCell_other W ⟨x, 0, none⟩ (b + 1) u (by show b + 1 ≠ x; omega)).trans h.rcd, (heap_setCell_other W ⟨x, 0, none⟩ b u (by show b ≠ x; omega)).trans h.dfr⟩
/-- how many are told -/
def Told (m N : Nat) : Prop := (N = topM m ∧ N < 300) ∨ (N = 300 ∧ 300 ≤ topM m)
set_option maxHeartbeats 4000000 in
theorem masksubsets_in (n : Nat) {m : Nat} (hm : Wd m) (w : World) (hn : 5 ≤ n) : CallsIn Fence.wide n Try.prog 4 #[.int .u64 (m : Int)] w fun e w' => e = .returned (.bool true) ∧ Below w.heap.size w w' := by
  have h1 : 1 ≤ n := by omega
  obtain ⟨w1, hw1⟩ : ∃ w1, w1 = w.alloc (.cells #[.bool false] 4) := ⟨_, rfl⟩
  obtain ⟨rb, hrb⟩ : ∃ rb, rb = w.heap.size := ⟨_, rfl⟩
  have HB1 := Lib.hid (show Below w.heap.size w w1 ∧ Boxed w1 rb 4 (.bool false) by rw [hw1, hrb]; exact ⟨(Below.refl _ w).alloc (Nat.le_refl _) _, Boxed.new w _ _⟩)
  have HE1 := Lib.hid hw1
  have HRB := Lib.hid hrb
  have HM := Lib.hid hm
  clear hw1 hrb hm
  refine callsIn_of_wp_marks Try.func4 rfl trivial ?_ rfl
  simp only [Try.ntmps4, List.size_toArray, List.length_cons, List.length_nil, Nat.reduceAdd, Nat.reduceSub, Array.replicate_succ, Array.replicate_zero, List.push_toArray, List.append_toArray, List.nil_append, List.cons_append]
  gi_wp2_with fail
  rw [← HE1.out, ← HRB.out]
  refine ⟨trivial, ?_⟩
  refine (callsIn_wide.2 (rof_any HM.out w1)).mono ?_
  rintro e w2 ⟨rfl, hb2⟩
  have HB2 := Lib.hid (HB1.out.1.trans (hb2.mono HB1.out.1.size))
  have HR2 := Lib.hid (boxed_below HB1.out.2 hb2)
  clear hb2
  gi_wp2_with (refine wpListIn_new_set (w0 := w2) rfl (.tmp 3) (.tmp 9) rfl rfl rfl rfl ?_; intro w3 k1 k3; have KS := Lib.hid k1; have HB3 := Lib.hid (HB2.out.trans (k3.mono HB2.out.size)); have HR3 := Lib.hid (boxed_below HR2.out k3); clear k1 k3)
  have HSL := Lib.hid (show rb < w2.heap.size from HR2.out.lt)
  generalize w2.heap.size = sb at KS HSL
  refine ⟨trivial, ?_⟩
  refine (callsIn_wide.2 (subsets_any m w3)).mono ?_
  rintro e w4 ⟨rfl, hw4⟩
  obtain ⟨cb, hcb⟩ : ∃ cb, cb = w3.heap.size := ⟨_, rfl⟩
  obtain ⟨W5, hW5⟩ : ∃ W5, W5 = (w4.alloc (.cells #[.int .u64 0] 22)) := ⟨_, rfl⟩
  obtain ⟨nb, hnb⟩ : ∃ nb, nb = w4.heap.size := ⟨_, rfl⟩
  have hb4 : Below w3.heap.size w3 w4 := by rw [hw4]; exact (Below.refl _ w3).alloc (Nat.le_refl _) _
  have hb5 : Below w4.heap.size w4 W5 := by rw [hW5]; exact (Below.refl _ w4).alloc (Nat.le_refl _) _
  have hz4 : w4.heap.size = cb + 1 := by rw [hw4, hcb]; simp
  have hz5 : W5.heap.size = nb + 1 := by rw [hW5, hnb]; simp
  have hc4 : Boxed w4 cb 23 (.int .u64 (m : Int)) := by rw [hw4, hcb]; exact Boxed.new w3 _ _
  have hsb : sb < cb := by rw [hcb]; exact KS.out.lt
  have hrs := HSL.out
  have hb45 : Below w3.heap.size w3 W5 := hb4.trans (hb5.mono hb4.size)
  have HSW := Lib.hid (show Sw w.heap.size rb sb nb cb m 0 W5 from ⟨boxed_below HR3.out hb45, KS.out.below hb45, by rw [hW5, hnb]; exact Boxed.new w4 _ _, boxed_below hc4 hb5, ⟨by omega, by omega, by omega⟩, by rw [hnb]; have := HB3.out.size; have := hb4.size; omega⟩)
  have HBW := Lib.hid (show Below w.heap.size w W5 from HB3.out.trans (hb45.mono HB3.out.size))
  obtain ⟨W6, hW6⟩ : ∃ W6, W6 = W5 := ⟨_, rfl⟩
  rw [← hW6] at HSW HBW
  have HZ6 := Lib.hid (show W6.heap.size = nb + 1 by rw [hW6, hz5])
  have HE6 := Lib.hid (show w4.alloc (.cells #[.int .u64 0] 22) = W6 by rw [hW6, hW5])
  have HNB := Lib.hid hnb
  have HCB := Lib.hid hcb
  have hnil : ∀ (bs : Array Value) (w' : World), (binOp BinOp.eql 32 (.func (.func 17) #[] bs) .nilFunc).run Try.prog w' = .ok (.bool false) w' := fun _ _ => rfl
  clear hw4 hW5 hb4 hb5 hz4 hz5 hc4 hsb hrs hb45 hW6 hcb hnb HR2 HR3 HB2 HB3 KS HSL HB1 HE1
  gi_wp2_with fail
  rw [HE6.out, ← HNB.out, ← HCB.out]
  refine lp_block (fun W => ∃ N, Told m N ∧ Sw w.heap.size rb sb nb cb m N W ∧ Below w.heap.size w W) rfl h1 (gf := 17) (lb := #[.pointer (some ⟨cb, 0, none⟩)]) rfl trivial (enters_of Try.func17 (by kernel_rfl) rfl) ?hrest ?hfirst
  case hfirst =>
    intro fn rc hfn hrc W1 hlp hb1 hz1
    refine CallsIn.mono (subs1_any (n - 1) cb m HM.out (W6.heap.size + 1)
      (fun k W => Lp rc W6.heap.size .ready none W ∧ k < 300 ∧ Sw w.heap.size rb sb nb cb m k W ∧ Below w.heap.size w W)
      (fun k W => Lp rc W6.heap.size .done (some (.exit 0)) W ∧ (k = 300 ∧ 300 ≤ topM m) ∧ Sw w.heap.size rb sb nb cb m k W ∧ Below w.heap.size w W)
      W1 (by omega) ?hS ?hY ?h0) ?hfin
    case hS => exact fun k A h => h.2.2.1.cap
    case h0 => exact ⟨hlp, by omega, HSW.out.below hb1, HBW.out.trans (hb1.mono HBW.out.size)⟩
    case hfin =>
      rintro e W9 ⟨hv, ⟨a1, a2, a3, a4⟩ | ⟨k, hk, a1, a2, a3, a4⟩⟩
      · exact ⟨hv, .inl ⟨a1, _, .inl ⟨rfl, a2⟩, a3, a4⟩⟩
      · exact ⟨hv, .inr ⟨a1, _, .inr a2, a3, a4⟩⟩
    case hY =>
      rintro k W2 hk ⟨j1, j2, j3, j4⟩
      refine lp_yield2 hrc hfn j1 rfl ?_
      clear hrc
      have HL2 := Lib.hid j1
      have HJ2 := Lib.hid j3
      have HB2 := Lib.hid j4
      have HK := Lib.hid hk
      clear j1 j3 j4 hk hlp hb1 hz1
      gi_wp2_with fail
      refine ⟨HL2.out, ?_⟩
      obtain ⟨W4, hW4⟩ : ∃ W4, W4 = W2.putObj (W6.heap.size + 1) (.loop (rc .busy none)) := ⟨_, rfl⟩
      have hp := HL2.out.put (st' := .busy) (j' := none)
      rw [← hW4] at hp
      have HL4 := Lib.hid hp
      have HJ4 := Lib.hid (show Sw w.heap.size rb sb nb cb m k W4 by rw [hW4]; exact HJ2.out.kc (KC.put _ HL2.out.rcd))
      have HB4 := Lib.hid (show Below w.heap.size w W4 by rw [hW4]; exact HB2.out.trans (below_put (by have := HJ2.out.old; have := HZ6.out; omega) HL2.out.rcd))
      rw [← hW4]
      clear hp hW4 HL2 HJ2 HB2
      have c1 := HJ4.out.num.cell
      gi_wp2_with (refine wpListIn_load_set rfl (.tmp 3) rfl rfl HJ4.out.set ?_)
      refine ⟨trivial, fun _ => by omega, ?_⟩
      refine CallsIn.mono ((callsIn_wide.2 (rsub_any m.testBit (n := k) (by unfold Wd; omega) W4)).inRound _) ?_
      rintro e W5' ⟨rfl, hb5⟩
      have HL5 := Lib.hid (HL4.out.grown hb5)
      have HJ5 := Lib.hid (HJ4.out.below hb5)
      have HB5 := Lib.hid (HB4.out.trans (hb5.mono HB4.out.size))
      clear hb5 c1 HL4 HJ4 HB4
      gi_wp2_with fail
      refine ⟨trivial, fun _ => by omega, ?_⟩
      refine CallsIn.mono ((callsIn_wide.2 (word_any (fun j => m.testBit j && k.testBit (cntF m.testBit j)) W5')).inRound _) ?_
      rintro e W7 ⟨rfl, hb7⟩
      rw [word_eq (wd_sub m k) (fun j hj => (sub_bit m k j hj).symm)]
      have HL7 := Lib.hid (HL5.out.grown hb7)
      have HJ7 := Lib.hid (HJ5.out.below hb7)
      have HB7 := Lib.hid (HB5.out.trans (hb7.mono HB5.out.size))
      clear hb7 HL5 HJ5 HB5
      have e0 : (((subM m k : Nat) : Int) != ((subM m k : Nat) : Int)) = false := by simp
      have c2 := HJ7.out.num.cell
      have c3 := HJ7.out.num.frozen
      have hnx := HJ7.out.next (k + 1)
      have hln := HL7.out.other (x := nb) (by have := HZ6.out; omega) (.int .u64 ((k + 1 : Nat) : Int))
      have hbn := HB7.out.setCell (p := ⟨nb, 0, none⟩) (by show w.heap.size ≤ nb; exact HJ7.out.old) (.int .u64 ((k + 1 : Nat) : Int))
      have hw : IntKind.u64.wrap ((k : Int) + 1) = ((k + 1 : Nat) : Int) := by rw [IntKind.wrap_u64]; omega
      have d2 := hnx.num.cell
      obtain ⟨j, hj⟩ : ∃ j, j = k + 1 := ⟨_, rfl⟩
      rw [← hj] at hnx hln hbn hw d2
      have HNX := Lib.hid hnx
      have HLN := Lib.hid hln
      have HBN := Lib.hid hbn
      have HJ := Lib.hid hj
      obtain ⟨s, hs⟩ : ∃ s, s = subM m k := ⟨_, rfl⟩
      rw [← hs] at e0 ⊢
      clear hnx hln hbn HL7 HJ7 HB7 hs
      by_cases h3 : j = 300
      · have t0 : ((j : Int) == 300) = true := by rw [beq_iff_eq]; omega
        have H3 := Lib.hid h3
        clear hj h3
        gi_wp2_with fail
        refine ⟨HLN.out, .inr ⟨rfl, HLN.out.put, ⟨by have := HJ.out; have := H3.out; omega, by have := HJ.out; have := HK.out; have := H3.out; omega⟩, ?_, ?_⟩⟩
        · rw [← HJ.out]
          exact HNX.out.kc (KC.put _ HLN.out.rcd)
        · exact HBN.out.trans (below_put (by have := HNX.out.old; have := HZ6.out; omega) HLN.out.rcd)
      · have t0 : ((j : Int) == 300) = false := by rw [beq_eq_false_iff_ne]; omega
        clear hj
        gi_wp2_with fail
        refine ⟨HLN.out, .inl ⟨rfl, HLN.out.put, by have := HJ.out; omega, ?_, ?_⟩⟩
        · rw [← HJ.out]
          exact HNX.out.kc (KC.put _ HLN.out.rcd)
        · exact HBN.out.trans (below_put (by have := HNX.out.old; have := HZ6.out; omega) HLN.out.rcd)
  case hrest =>
    rintro W9 rc st j hlp ⟨N, hto, hsw, hbw⟩
    have hp := hlp.put (st' := .exhausted) (j' := j)
    obtain ⟨WA, hWA⟩ : ∃ WA, WA = W9.putObj (W6.heap.size + 1) (.loop (rc .exhausted j)) := ⟨_, rfl⟩
    have HSA := Lib.hid (show Sw w.heap.size rb sb nb cb m N WA by rw [hWA]; exact hsw.kc (KC.put _ hlp.rcd))
    have HBA := Lib.hid (show Below w.heap.size w WA by rw [hWA]; exact hbw.trans (below_put (by have := hsw.old; have := HZ6.out; omega) hlp.rcd))
    rw [← hWA] at hp ⊢
    have HDA := Lib.hid hp.dfr
    have HTO := Lib.hid hto
    clear hp hWA hlp hto hsw hbw HBW HSW HE6
    gi_wp2_with (refine wpListIn_load_set rfl (.tmp 3) rfl rfl HSA.out.set ?_)
    refine ⟨trivial, ?_⟩
    refine (callsIn_wide.2 (rnums_any m.testBit WA)).mono ?_
    rintro e WB ⟨v, F, rfl, hir, hbB⟩
    obtain ⟨a, c, rfl⟩ := hir.slice
    have hlen : (natI (numsF m.testBit 64)).length = cntF m.testBit 64 := by rw [List.length_map, nums_len]
    rw [hlen]
    have HSB := Lib.hid (HSA.out.below hbB)
    have HBB := Lib.hid (HBA.out.trans (hbB.mono HBA.out.size))
    have HDB := Lib.hid ((hbB.block _ (some_lt HDA.out)).trans HDA.out)
    have hcle := cntF_le m.testBit 64
    have hto := HTO.out
    have htop : topM m = 2 ^ cntF m.testBit 64 := rfl
    obtain ⟨c0, hc0⟩ : ∃ c0, c0 = cntF m.testBit 64 := ⟨_, rfl⟩
    rw [← hc0] at hcle htop ⊢
    have d1 := HSB.out.num.cell
    have d2 := HSB.out.res.frozen
    clear hir hbB hlen HSA HBA HDA hc0
    have d3 := HSB.out.res.cell
    obtain ⟨V2, hV2⟩ : ∃ V2, V2 = WB.setCell ⟨rb, 0, none⟩ (.bool true) := ⟨_, rfl⟩
    have hrn : rb < nb := by have := HSB.out.old; have := HSB.out.dif.1; have := HRB.out; omega
    have hk2 : V2.heap[W6.heap.size]? = some (.deferred (some [])) := by rw [hV2]; exact (heap_setCell_other WB ⟨rb, 0, none⟩ _ _ (by show W6.heap.size ≠ rb; have := HZ6.out; omega)).trans HDB.out
    have hr2 : Boxed V2 rb 4 (.bool true) := by rw [hV2]; exact HSB.out.res.set _
    have hb2 : Below w.heap.size w V2 := by rw [hV2]; exact HBB.out.setCell (p := ⟨rb, 0, none⟩) (by show w.heap.size ≤ rb; have := HRB.out; omega) _
    have hr3 : Boxed (V2.putObj W6.heap.size (.deferred none)) rb 4 (.bool true) := (World.putObj_heap_other (by have := HZ6.out; omega)).trans hr2
    have hb3 : Below w.heap.size w (V2.putObj W6.heap.size (.deferred none)) := hb2.trans (below_put (by have := HZ6.out; have := HSB.out.old; omega) hk2)
    have HK2 := Lib.hid hk2
    have HR3 := Lib.hid hr3.cell
    have HB3 := Lib.hid hb3
    have HV2 := Lib.hid hV2
    clear hk2 hr2 hb2 hr3 hb3 hV2
    rcases Nat.lt_or_ge 8 c0 with h8 | h8
    · have hp9 : 2 ^ 9 ≤ 2 ^ c0 := Nat.pow_le_pow_right (by omega) h8
      have hN : N = 300 := by rcases hto with ⟨h1, h2⟩ | ⟨h1, h2⟩ <;> omega
      have t1 : decide ((8 : Int) < (c0 : Int)) = true := by rw [decide_eq_true_eq]; omega
      have t2 : ((N : Int) == 300) = true := by rw [beq_iff_eq]; omega
      have HC := Lib.hid hcle
      clear hto htop hp9 hcle hN
      gi_wp2_with fail
      rw [← HV2.out]
      refine ⟨by simp, .inl ⟨_, _, rfl, run_takeDeferred HK2.out, ?_⟩⟩
      refine ⟨.bool true, ?_, rfl, HB3.out⟩
      simp [results, Try.f4, go_sem, HR3.out]
    · have hp9 : 2 ^ c0 ≤ 2 ^ 8 := Nat.pow_le_pow_right (by omega) h8
      have hN : N = 2 ^ c0 := by rcases hto with ⟨h1, h2⟩ | ⟨h1, h2⟩ <;> omega
      have t1 : decide ((8 : Int) < (c0 : Int)) = false := by rw [decide_eq_false_iff_not]; omega
      have t2 : decide ((c0 : Int) ≤ 8) = true := by rw [decide_eq_true_eq]; omega
      have hpi : (2 : Int) ^ c0 = (N : Int) := by rw [hN, Int.natCast_pow]; rfl
      have hw : IntKind.u64.wrap (N : Int) = (N : Int) := by rw [IntKind.wrap_u64]; omega
      have hu : IntKind.u64.wrap (c0 : Int) = (c0 : Int) := by rw [IntKind.wrap_u64]; omega
      have t3 : ((N : Int) == (N : Int)) = true := by simp
      clear hto htop hp9 hN
      gi_wp2_with fail
      rw [← HV2.out]
      refine ⟨by simp, .inl ⟨_, _, rfl, run_takeDeferred HK2.out, ?_⟩⟩
      refine ⟨.bool true, ?_, rfl, HB3.out⟩
      simp [results, Try.f4, go_sem, HR3.out]
theorem masksubsets_walk {m : Nat} (hm : Wd m) (w : World) : Calls Try.prog 4 #[.int .u64 (m : Int)] w fun e w' => e = .returned (.bool true) ∧ Below w.heap.size w w' :=
  (callsIn_wide (n := 5)).1 (masksubsets_in 5 hm w (Nat.le_refl _))
end Go.Proofs.Ytngfopnefmknoaa
