/- The order of numbers makes no difference to their sum and product; of two numbers they are Add and Mul: for every list of numbers and every row of picks, no condition. -/
import Derived.Test.YtdckenkomjikbaaCkOrderKit
import Derived.ProofKit
import Derived.Maps.RangeWalk
import Derived.OpenShut
import Derived.ChangeOld
import Derived.SizedLaws
namespace Go.Proofs.Ytdckenkomjikbaa.checkedOrder
open Go.ChangeShapes Go.WideShapes Go.ChangeAt Go.RowKit
set_option maxRecDepth 100000

theorem own : ownKnob Try.prog.godebug = none := by kernel_rfl

set_option maxHeartbeats 2400000 in
theorem walk_ss (x : Addr) (pb po : Nat) (n cap pn pc : Nat) (l ps : List Int) (w : World) (hI : Ints w (some x) n cap l) (hJ : Ints w (some ⟨pb, po, none⟩) pn pc ps) (hr : n * 8 ≤ 140737488351232) (hp0 : 0 < pn) :
    Calls Try.prog 7 #[.slice (some x) n cap, .slice (some ⟨pb, po, none⟩) pn pc] w fun e w' => e = .returned (.bool true) ∧ Below w.heap.size w w' := by
  obtain ⟨i0, hi, hz0, hz1, hz2⟩ := info_parts info_i64
  have HL : Hid (∀ W, Below w.heap.size w W → Ints W (some x) n cap l) := Lib.hid fun W hW => hI.below hW (Nat.le_refl _)
  have HP : Hid (∀ W, Below w.heap.size w W → Ints W (some ⟨pb, po, none⟩) pn pc ps) := Lib.hid fun W hW => hJ.below hW (Nat.le_refl _)
  have hcm := hI.2.2.1
  have hpm := hJ.2.2.1
  have hpn := hJ.2.1
  unfold maxLen at hcm hpm
  have hln := Lib.hid hI.1
  have hlp := Lib.hid hJ.1
  have hla := Lib.hid hI.2.2.2.1
  have hpa := Lib.hid hJ.2.2.2.1
  clear hI hJ
  go_enter Try.func7, Try.ntmps7
  go_wp2_with fail
  refine (awake_below w).mono ?_
  rintro e w0 ⟨rfl, hb0⟩
  have hb0 := Lib.hid hb0
  have hI0 := HL.out w0 hb0.out
  have hx0 : IntsAt w0 x l := by
    rcases hI0.2.2.2.2 with ⟨h, _⟩ | ⟨y, h, h2⟩
    · cases h
    · cases h; exact h2
  have hl0 := hI0.1
  go_wp2_with (at_builtin; refine wpList_append_own _ rfl (.tmp 24) (.tmp 25) 27 rfl w0.heap.size 2 i0 (.int .i64 0) 1 8 Try.underlying27 hi hz0 hz1 hz2 rfl (by decide) _ _ _ rfl (World.ownsRow_nil _ _ _ _) x n cap (l.map (Value.int .i64)) rfl (by simp [hl0]) (news_of hx0) (one_cell l) (by unfold maxLen; omega) (by omega) (Nat.le_refl _) ?_)
  intro v1 w1 hown1 hgrow1 _
  try simp only [Nat.zero_add, List.nil_append] at hown1
  have hb1 : Below w0.heap.size w0 w1 := (Below.refl _ w0).grown hgrow1 (Nat.le_refl _) (fun b hb => by have h : (Value.slice none 0 0).ownBlock = some b := hb; cases h)
  obtain ⟨ba, bc, rfl⟩ := own_form hown1
  have HB1 : Hid (Below w.heap.size w w1) := Lib.hid (hb0.out.trans (hb1.mono hb0.out.size))
  have HA1 : Hid (Ints w1 ba l.length bc l) := Lib.hid (ints_owned hla.out (by rw [hl0]; exact hown1))
  have HLN := Lib.hid hl0
  clear hown1 hgrow1 hb1 hx0 hI0 hl0
  go_wp2_with fail
  have HS0 := Lib.hid (Same.start hla.out)
  have HBh : Hid (Behind ba (.slice none 0 0)) := Lib.hid ⟨0, fun _ _ => Nat.zero_le _, fun _ h => by cases h⟩
  have HO0 : Hid (w1.ownsRow w.heap.size 2 1 (.slice none 0 0) 0 (([] : List Int).map (Value.int .i64))) := Lib.hid (World.ownsRow_nil _ _ _ _)
  go_loopw [5, 6, 7] (fun lv ov i wr => ∃ (zs ys : List Int) (la : Option Addr) (lc : Nat), lv = .slice la zs.length lc ∧ i = .int .i64 ys.length ∧ Hid (Same l zs ys) ∧ Hid (Ints wr la zs.length lc zs) ∧ Hid (wr.ownsRow w.heap.size 2 1 ov ys.length (ys.map (Value.int .i64))) ∧ Hid (Behind la ov) ∧ Hid (Below w.heap.size w wr)) (fun lv _ _ _ => match lv with | .slice _ k _ => k | _ => 0)
  case atStart => exact ⟨l, [], ba, bc, slice_len HLN.out.symm, rfl, HS0, HA1, HO0, HBh, HB1⟩
  case round =>
    obtain ⟨zs, ys, la, lc, rfl, rfl, HS, HA, HO, HBe, HB⟩ := hrel
    rcases Nat.eq_zero_or_pos zs.length with hz | hz
    · have hz' : zs = [] := List.length_eq_zero_iff.1 hz
      subst hz'
      have HT := Lib.hid HS.out.stop
      have hyn : ys.length ≤ n := by have := HT.out.2.2.1; have := hln.out; omega
      have e6 : (ys ++ [0]).sum = l.sum := by rw [sum_more]; exact HT.out.1
      have e7 : prd (ys ++ [1]) = prd l := by rw [prd_more]; exact HT.out.2.1
      have E6 := Lib.hid e6
      have E7 := Lib.hid e7
      clear e6 e7 hz
      go_wp2_with fail
      refine (sum_any (HL.out wr HB.out)).mono ?_
      rintro e w' ⟨rfl, rfl⟩
      go_wp2_with (at_builtin; refine wpList_append_keep _ rfl (.tmp 67) (.tmp 68) 27 rfl w.heap.size 2 i0 (.int .i64 0) 1 8 Try.underlying27 hi hz0 hz1 hz2 rfl (by decide) _ _ _ rfl (HO.out.alloc _) ⟨wr.heap.size, 0, none⟩ 1 1 [.int .i64 0] rfl rfl (cells_one _ _ _) (by intro u hu; simp at hu; subst hu; rfl) (by unfold maxLen; omega) (by omega) (by have := HB.out.size; simp; omega) ?_; intro v6 w5 hown5 hgrow5 hkeep5; obtain ⟨a6, c6, rfl⟩ := own_form hown5; have HB5 : Hid (Below w.heap.size w w5) := Lib.hid ((HB.out.alloc HB.out.size _).grown hgrow5 (by have := HB.out.size; simp; omega) (fun b hb => (HO.out.lt b hb).1)); have HI6 : Hid (Ints w5 a6 (ys.length + 1) c6 (ys ++ [0])) := Lib.hid (ints_more (fun x hx => by rcases List.mem_append.1 hx with h | h <;> first | exact HT.out.2.2.2 x h | (simp at h; subst h; omega)) hown5); have HK5 := Lib.hid hkeep5; clear hown5 hgrow5 hkeep5)
      refine (sum_any HI6.out).mono ?_
      rintro e w' ⟨rfl, rfl⟩
      rw [E6.out]
      go_wp2_with fail
      refine (prod_any (HL.out w5 HB5.out)).mono ?_
      rintro e w' ⟨rfl, rfl⟩
      go_wp2_with (at_builtin; refine wpList_append_own _ rfl (.tmp 79) (.tmp 80) 27 rfl w.heap.size 2 i0 (.int .i64 0) 1 8 Try.underlying27 hi hz0 hz1 hz2 rfl (by decide) _ _ _ rfl (HK5.out.alloc _) ⟨w5.heap.size, 0, none⟩ 1 1 [.int .i64 1] rfl rfl (cells_one _ _ _) (by intro u hu; simp at hu; subst hu; rfl) (by unfold maxLen; omega) (by omega) (by have := HB5.out.size; simp; omega) ?_; intro v7 w6 hown6 hgrow6 _; obtain ⟨a7, c7, rfl⟩ := own_form hown6; have HB6 : Hid (Below w.heap.size w w6) := Lib.hid ((HB5.out.alloc HB5.out.size _).grown hgrow6 (by have := HB5.out.size; simp; omega) (fun b hb => (HK5.out.lt b hb).1)); have HI7 : Hid (Ints w6 a7 (ys.length + 1) c7 (ys ++ [1])) := Lib.hid (ints_more (fun x hx => by rcases List.mem_append.1 hx with h | h <;> first | exact HT.out.2.2.2 x h | (simp at h; subst h; omega)) hown6); clear hown6 hgrow6)
      refine (prod_any HI7.out).mono ?_
      rintro e w' ⟨rfl, rfl⟩
      rw [E7.out]
      by_cases hn2 : n = 2
      · have hl2 : l.length = 2 := by rw [hln.out]; exact hn2
        obtain ⟨xb, xo, hxe, hxc⟩ := (HL.out w6 HB6.out).cell (by omega)
        have hx' : x = ⟨xb, xo, none⟩ := by simpa using hxe
        subst hx'
        have m0 : w6.cell? ⟨xb, xo, none⟩ = some (.int .i64 l[0]) := hxc 0 (by omega)
        have m1 := hxc 1 (by omega)
        have g0 := hla.out.get 0 (by omega)
        have g1 := hla.out.get 1 (by omega)
        have K1 : Hid (∀ W, Calls Try.prog 9 #[.int .i64 l[0], .int .i64 l[1]] W fun e w' => e = .returned (.tuple #[.int .i64 (fitV l.sum), .int .i64 (fitE l.sum)]) ∧ w' = W) := Lib.hid fun W => (add_any l[0] l[1] W g0 g1).mono fun _ _ h => ⟨h.1.trans (ret2 (by rw [sum_two hl2]) (by rw [sum_two hl2])), h.2.symm⟩
        have K2 : Hid (∀ W, Calls Try.prog 13 #[.int .i64 l[0], .int .i64 l[1]] W fun e w' => e = .returned (.tuple #[.int .i64 (fitV (prd l)), .int .i64 (fitE (prd l))]) ∧ w' = W) := Lib.hid fun W => (mul_any l[0] l[1] W g0 g1).mono fun _ _ h => ⟨h.1.trans (ret2 (by rw [prd_two hl2]) (by rw [prd_two hl2])), h.2.symm⟩
        have hcap2 : 2 ≤ cap := by have := (HL.out w6 HB6.out).2.1; omega
        have tn : ((n : Int) != 2) = false := by rw [hn2]; rfl
        have tl0 : 0 < n := by omega
        have tl1 : 1 < n := by omega
        clear hxc g0 g1 hn2
        go_wp2_with fail
        go_quiet ((go_at_call 9; exact Calls.quiet_of_same (K1.out _)))
        have HB7 := Lib.hid (below_drewN HB6.out nq)
        generalize w6.drewN nq = w7 at HB7 ⊢
        clear m0 m1
        have m0 : w7.cell? ⟨xb, xo, none⟩ = some (.int .i64 l[0]) := (HL.out w7 HB7.out).cells' 0 (by omega)
        have m1 := (HL.out w7 HB7.out).cells' 1 (by omega)
        go_wp2_with fail
        go_quiet ((go_at_call 13; exact Calls.quiet_of_same (K2.out _)))
        go_wp2
        go_ret
        exact ⟨rfl, below_drewN HB7.out _⟩
      · have tn : ((n : Int) != 2) = true := by simp; omega
        go_wp2
        go_ret
        exact ⟨rfl, HB6.out⟩
    · have hyl : ys.length < n := by have := HS.out.2.2.1; have := hln.out; omega
      have hzn : zs.length ≤ n := by have := HS.out.2.2.1; have := hln.out; omega
      have t0 : decide ((0 : Int) < (zs.length : Int)) = true := decide_eq_true (by omega)
      have t1 : decide (0 < zs.length) = true := decide_eq_true hz
      obtain ⟨b, o, rfl, hc⟩ := HA.out.cell hz
      have hlc := HA.out.2.1
      have hlm := HA.out.2.2.1
      unfold maxLen at hlm
      by_cases hip : ys.length < pn
      · have tp : decide ((ys.length : Int) < (pn : Int)) = true := decide_eq_true (by omega)
        have tp2 : decide (ys.length < pn) = true := decide_eq_true hip
        obtain ⟨pb', po', hpe, hpc⟩ := (HP.out wr HB.out).cell (by omega)
        obtain ⟨rfl, rfl⟩ : pb = pb' ∧ po = po' := by simpa using hpe
        clear hpe
        have hyp : ys.length < ps.length := by rw [hlp.out]; exact hip
        have kp := hpc ys.length hyp
        clear hpc
        have hpi := Lib.hid (hpa.out.get ys.length hyp)
        have HC := Lib.hid hc
        clear hc
        go_wp2_with fail
        refine (round_any ps[ys.length] zs.length _ hpi.out hz (by omega)).mono ?_
        rintro e w' ⟨k, hk, rfl, rfl⟩
        have kc := HC.out k hk
        have hcapi : Below wr.heap.size wr (wr.alloc (.cells #[.int .i64 zs[k]] 2)) := (Below.refl _ wr).alloc (Nat.le_refl _) _
        have HAa := Lib.hid (HA.out.below hcapi (Nat.le_refl _))
        clear hcapi
        have hysz : ys.length + 1 ≤ 17592186044416 := by omega
        go_wp2_with (at_builtin; refine wpList_append_own _ rfl (.tmp 43) (.tmp 48) 27 rfl w.heap.size 2 i0 (.int .i64 0) 1 8 Try.underlying27 hi hz0 hz1 hz2 rfl (by decide) _ _ _ rfl (HO.out.alloc _) ⟨wr.heap.size, 0, none⟩ 1 1 [.int .i64 zs[k]] rfl rfl (cells_one _ _ _) (by intro u hu; simp at hu; subst hu; rfl) (by unfold maxLen; omega) (by omega) (by have := HB.out.size; simp; omega) ?_; intro ov' w2 hown2 hgrow2 _)
        have HA2 := Lib.hid (HAa.out.grown HBe.out hgrow2)
        have HB2 : Hid (Below w.heap.size w w2) := Lib.hid ((HB.out.alloc HB.out.size _).grown hgrow2 (by have := HB.out.size; simp; omega) (fun b hb => (HO.out.lt b hb).1))
        have HO2 : Hid (w2.ownsRow w.heap.size 2 1 ov' (ys ++ [zs[k]]).length ((ys ++ [zs[k]]).map (Value.int .i64))) := Lib.hid (by rw [← map_snoc]; simpa using hown2)
        clear hown2 hgrow2 HAa kc kp
        have hx2 : IntsAt w2 ⟨b, o, none⟩ zs := by
          rcases HA2.out.2.2.2.2 with ⟨h, _⟩ | ⟨y, h, h2⟩
          · cases h
          · cases h; exact h2
        have HX2 := Lib.hid hx2
        clear hx2
        by_cases hcap : k + 1 = lc
        · have f1 : k ≤ lc := by omega
          have f2 : k + 1 ≤ zs.length := hk
          have f3 : k + 1 ≤ lc := by omega
          have s1 : IntKind.i64.wrap ((k : Int) + 1) = (k : Int) + 1 := IntWalk.i64_in _ (by omega)
          have s2 : 0 ≤ (k : Int) + 1 := by omega
          have s3 : ((k : Int) + 1).toNat = k + 1 := by omega
          have f4 : (k : Int) + 1 ≤ (zs.length : Int) := by omega
          have f5 : (lc = k + 1) = True := by simp; omega
          have f6 : Hid (zs.length ≤ k + 1) := Lib.hid (by omega)
          clear hcap
          go_wp2_with fail
          go_region_law (first
            | ((try simp only [Act.put, List.getElem_toArray, List.getElem_cons_succ, List.getElem_cons_zero, List.setIfInBounds_toArray, List.set_cons_succ, List.set_cons_zero]); refine step_append_own (a := ⟨_, _⟩) w2.drew (by rfl) (.tmp 50) (.tmp 53) 27 (by rfl) w2.heap.size 2 i0 (.int .i64 0) 1 8 Try.underlying27 hi hz0 hz1 hz2 rfl (by decide) (.slice none 0 0) 0 [] (by rfl) (World.ownsRow_nil w2.drew _ _ _) ⟨b, o, none⟩ k lc ((zs.take k).map (Value.int .i64)) (by rfl) (by simp; try omega) (news_take HX2.out k) (one_cell _) (by unfold maxLen; omega) (by omega) (Nat.le_refl _) ?_; intro v3 w3 hown3 hgrow3)
            | ((try simp only [Act.put, List.getElem_toArray, List.getElem_cons_succ, List.getElem_cons_zero, List.setIfInBounds_toArray, List.set_cons_succ, List.set_cons_zero]); refine step_append_own (a := ⟨_, _⟩) w3 (by rfl) (.tmp 54) (.tmp 58) 27 (by rfl) w2.heap.size 2 i0 (.int .i64 0) 1 8 Try.underlying27 hi hz0 hz1 hz2 rfl (by decide) v3 (0 + k) _ (by rfl) hown3 ⟨b, o, none⟩ (zs.length - (k + 1)) (lc - (k + 1)) ((zs.drop (k + 1)).map (Value.int .i64)) (by rfl) (by simp; try omega) (news_end f6.out) (one_cell _) (by unfold maxLen; omega) (by omega) (by have := hgrow3.size; simpa using this) ?_; intro v4 w4 hown4 hgrow4))
          have hmap : [] ++ (zs.take k).map (Value.int .i64) ++ (zs.drop (k + 1)).map (Value.int .i64) = (zs.take k ++ zs.drop (k + 1)).map (Value.int .i64) := by simp
          rw [hmap] at hown4
          have hlen := hown4.1
          rw [List.length_map, Nat.mul_one] at hlen
          have hb24 : Below w2.heap.size w2 w4 := (((Below.refl w2.heap.size w2).drew.grown hgrow3 (Nat.le_refl _) (fun b hb => by cases hb)).grown hgrow4 (by have := hgrow3.size; simpa using this) (fun b hb => (hown3.lt b hb).1))
          obtain ⟨a4, c4, rfl⟩ := own_form hown4
          have HSn := Lib.hid (HS.out.step hk)
          have HBen : Hid (Behind a4 ov') := Lib.hid ⟨w2.heap.size, fun x hx => (hown4.lt x.block (by rw [hx]; rfl)).1, fun g hg => (HO2.out.lt g hg).2⟩
          have HAn : Hid (Ints w4 a4 (zs.take k ++ zs.drop (k + 1)).length c4 (zs.take k ++ zs.drop (k + 1))) := Lib.hid (by rw [← hlen] at hown4; exact ints_owned HSn.out.2.2.2.1 hown4)
          have HOn := Lib.hid (own_below HO2.out hb24 (Nat.le_refl _))
          have HBn := Lib.hid (HB2.out.trans (hb24.mono HB2.out.size))
          have HLn := Lib.hid hlen
          clear hown3 hgrow3 hown4 hgrow4 hb24 hmap hlen s1 s2 s3 f4 f5
          go_wp2
          go_roundw
          case rel => exact ⟨zs.take k ++ zs.drop (k + 1), ys ++ [zs[k]], a4, c4, slice_len (by have := HLn.out; omega), by simp, HSn, HAn, HOn, HBen, HBn⟩
          case measure => first | (show k < zs.length; omega) | (show k + (zs.length - (k + 1)) < zs.length; omega) | (show zs.length - (k + 1) < zs.length; omega)
        · have f1 : k ≤ lc := by omega
          have f2 : k + 1 ≤ zs.length := hk
          have f3 : k + 1 ≤ lc := by omega
          have s1 : IntKind.i64.wrap ((k : Int) + 1) = (k : Int) + 1 := IntWalk.i64_in _ (by omega)
          have s2 : 0 ≤ (k : Int) + 1 := by omega
          have s3 : ((k : Int) + 1).toNat = k + 1 := by omega
          have f4 : (k : Int) + 1 ≤ (zs.length : Int) := by omega
          have f5 : (lc = k + 1) = False := by simp; omega
          clear hcap
          go_wp2_with fail
          go_region_law (first
            | ((try simp only [Act.put, List.getElem_toArray, List.getElem_cons_succ, List.getElem_cons_zero, List.setIfInBounds_toArray, List.set_cons_succ, List.set_cons_zero]); refine step_append_own (a := ⟨_, _⟩) w2.drew (by rfl) (.tmp 50) (.tmp 53) 27 (by rfl) w2.heap.size 2 i0 (.int .i64 0) 1 8 Try.underlying27 hi hz0 hz1 hz2 rfl (by decide) (.slice none 0 0) 0 [] (by rfl) (World.ownsRow_nil w2.drew _ _ _) ⟨b, o, none⟩ k lc ((zs.take k).map (Value.int .i64)) (by rfl) (by simp; try omega) (news_take HX2.out k) (one_cell _) (by unfold maxLen; omega) (by omega) (Nat.le_refl _) ?_; intro v3 w3 hown3 hgrow3)
            | ((try simp only [Act.put, List.getElem_toArray, List.getElem_cons_succ, List.getElem_cons_zero, List.setIfInBounds_toArray, List.set_cons_succ, List.set_cons_zero]); refine step_append_own (a := ⟨_, _⟩) w3 (by rfl) (.tmp 54) (.tmp 58) 27 (by rfl) w2.heap.size 2 i0 (.int .i64 0) 1 8 Try.underlying27 hi hz0 hz1 hz2 rfl (by decide) v3 (0 + k) _ (by rfl) hown3 ⟨b, o + (k + 1), none⟩ (zs.length - (k + 1)) (lc - (k + 1)) ((zs.drop (k + 1)).map (Value.int .i64)) (by rfl) (by simp; try omega) (news_drop (hx3_of HX2.out hgrow3) (k + 1)) (one_cell _) (by unfold maxLen; omega) (by omega) (by have := hgrow3.size; simpa using this) ?_; intro v4 w4 hown4 hgrow4))
          have hmap : [] ++ (zs.take k).map (Value.int .i64) ++ (zs.drop (k + 1)).map (Value.int .i64) = (zs.take k ++ zs.drop (k + 1)).map (Value.int .i64) := by simp
          rw [hmap] at hown4
          have hlen := hown4.1
          rw [List.length_map, Nat.mul_one] at hlen
          have hb24 : Below w2.heap.size w2 w4 := (((Below.refl w2.heap.size w2).drew.grown hgrow3 (Nat.le_refl _) (fun b hb => by cases hb)).grown hgrow4 (by have := hgrow3.size; simpa using this) (fun b hb => (hown3.lt b hb).1))
          obtain ⟨a4, c4, rfl⟩ := own_form hown4
          have HSn := Lib.hid (HS.out.step hk)
          have HBen : Hid (Behind a4 ov') := Lib.hid ⟨w2.heap.size, fun x hx => (hown4.lt x.block (by rw [hx]; rfl)).1, fun g hg => (HO2.out.lt g hg).2⟩
          have HAn : Hid (Ints w4 a4 (zs.take k ++ zs.drop (k + 1)).length c4 (zs.take k ++ zs.drop (k + 1))) := Lib.hid (by rw [← hlen] at hown4; exact ints_owned HSn.out.2.2.2.1 hown4)
          have HOn := Lib.hid (own_below HO2.out hb24 (Nat.le_refl _))
          have HBn := Lib.hid (HB2.out.trans (hb24.mono HB2.out.size))
          have HLn := Lib.hid hlen
          clear hown3 hgrow3 hown4 hgrow4 hb24 hmap hlen s1 s2 s3 f4 f5
          go_wp2
          go_roundw
          case rel => exact ⟨zs.take k ++ zs.drop (k + 1), ys ++ [zs[k]], a4, c4, slice_len (by have := HLn.out; omega), by simp, HSn, HAn, HOn, HBen, HBn⟩
          case measure => first | (show k < zs.length; omega) | (show k + (zs.length - (k + 1)) < zs.length; omega) | (show zs.length - (k + 1) < zs.length; omega)
      · have tp : decide ((ys.length : Int) < (pn : Int)) = false := decide_eq_false (by omega)
        have tp2 : decide (ys.length < pn) = false := decide_eq_false hip
        have kc : wr.cell? ⟨b, o, none⟩ = some (.int .i64 zs[0]) := hc 0 hz
        have kp : True := trivial
        have hk : 0 < zs.length := hz
        clear hc
        have hcapi : Below wr.heap.size wr (wr.alloc (.cells #[.int .i64 zs[0]] 2)) := (Below.refl _ wr).alloc (Nat.le_refl _) _
        have HAa := Lib.hid (HA.out.below hcapi (Nat.le_refl _))
        clear hcapi
        have hysz : ys.length + 1 ≤ 17592186044416 := by omega
        go_wp2_with (at_builtin; refine wpList_append_own _ rfl (.tmp 43) (.tmp 48) 27 rfl w.heap.size 2 i0 (.int .i64 0) 1 8 Try.underlying27 hi hz0 hz1 hz2 rfl (by decide) _ _ _ rfl (HO.out.alloc _) ⟨wr.heap.size, 0, none⟩ 1 1 [.int .i64 zs[0]] rfl rfl (cells_one _ _ _) (by intro u hu; simp at hu; subst hu; rfl) (by unfold maxLen; omega) (by omega) (by have := HB.out.size; simp; omega) ?_; intro ov' w2 hown2 hgrow2 _)
        have HA2 := Lib.hid (HAa.out.grown HBe.out hgrow2)
        have HB2 : Hid (Below w.heap.size w w2) := Lib.hid ((HB.out.alloc HB.out.size _).grown hgrow2 (by have := HB.out.size; simp; omega) (fun b hb => (HO.out.lt b hb).1))
        have HO2 : Hid (w2.ownsRow w.heap.size 2 1 ov' (ys ++ [zs[0]]).length ((ys ++ [zs[0]]).map (Value.int .i64))) := Lib.hid (by rw [← map_snoc]; simpa using hown2)
        clear hown2 hgrow2 HAa kc kp
        have hx2 : IntsAt w2 ⟨b, o, none⟩ zs := by
          rcases HA2.out.2.2.2.2 with ⟨h, _⟩ | ⟨y, h, h2⟩
          · cases h
          · cases h; exact h2
        have HX2 := Lib.hid hx2
        clear hx2
        by_cases hcap : 1 = lc
        · have f1 : 0 ≤ lc := by omega
          have f2 : 1 ≤ zs.length := hk
          have f3 : 1 ≤ lc := by omega
          have s1 : IntKind.i64.wrap ((1 : Int)) = (1 : Int) := IntWalk.i64_in _ (by omega)
          have s2 : 0 ≤ (1 : Int) := by omega
          have s3 : ((1 : Int)).toNat = 1 := by omega
          have f4 : (1 : Int) ≤ (zs.length : Int) := by omega
          have f5 : (lc = 1) = True := by simp; omega
          have f6 : Hid (zs.length ≤ 1) := Lib.hid (by omega)
          clear hcap
          go_wp2_with fail
          go_region_law (first
            | ((try simp only [Act.put, List.getElem_toArray, List.getElem_cons_succ, List.getElem_cons_zero, List.setIfInBounds_toArray, List.set_cons_succ, List.set_cons_zero]); refine step_append_own (a := ⟨_, _⟩) w2.drew (by rfl) (.tmp 50) (.tmp 53) 27 (by rfl) w2.heap.size 2 i0 (.int .i64 0) 1 8 Try.underlying27 hi hz0 hz1 hz2 rfl (by decide) (.slice none 0 0) 0 [] (by rfl) (World.ownsRow_nil w2.drew _ _ _) ⟨b, o, none⟩ 0 lc ((zs.take 0).map (Value.int .i64)) (by rfl) (by simp; try omega) (news_take HX2.out 0) (one_cell _) (by unfold maxLen; omega) (by omega) (Nat.le_refl _) ?_; intro v3 w3 hown3 hgrow3)
            | ((try simp only [Act.put, List.getElem_toArray, List.getElem_cons_succ, List.getElem_cons_zero, List.setIfInBounds_toArray, List.set_cons_succ, List.set_cons_zero]); refine step_append_own (a := ⟨_, _⟩) w3 (by rfl) (.tmp 54) (.tmp 58) 27 (by rfl) w2.heap.size 2 i0 (.int .i64 0) 1 8 Try.underlying27 hi hz0 hz1 hz2 rfl (by decide) v3 (0 + 0) _ (by rfl) hown3 ⟨b, o, none⟩ (zs.length - (1)) (lc - (1)) ((zs.drop (1)).map (Value.int .i64)) (by rfl) (by simp; try omega) (news_end f6.out) (one_cell _) (by unfold maxLen; omega) (by omega) (by have := hgrow3.size; simpa using this) ?_; intro v4 w4 hown4 hgrow4))
          have hmap : [] ++ (zs.take 0).map (Value.int .i64) ++ (zs.drop (1)).map (Value.int .i64) = (zs.take 0 ++ zs.drop (1)).map (Value.int .i64) := by simp
          rw [hmap] at hown4
          have hlen := hown4.1
          rw [List.length_map, Nat.mul_one] at hlen
          have hb24 : Below w2.heap.size w2 w4 := (((Below.refl w2.heap.size w2).drew.grown hgrow3 (Nat.le_refl _) (fun b hb => by cases hb)).grown hgrow4 (by have := hgrow3.size; simpa using this) (fun b hb => (hown3.lt b hb).1))
          obtain ⟨a4, c4, rfl⟩ := own_form hown4
          have HSn := Lib.hid (HS.out.step hk)
          have HBen : Hid (Behind a4 ov') := Lib.hid ⟨w2.heap.size, fun x hx => (hown4.lt x.block (by rw [hx]; rfl)).1, fun g hg => (HO2.out.lt g hg).2⟩
          have HAn : Hid (Ints w4 a4 (zs.take 0 ++ zs.drop (1)).length c4 (zs.take 0 ++ zs.drop (1))) := Lib.hid (by rw [← hlen] at hown4; exact ints_owned HSn.out.2.2.2.1 hown4)
          have HOn := Lib.hid (own_below HO2.out hb24 (Nat.le_refl _))
          have HBn := Lib.hid (HB2.out.trans (hb24.mono HB2.out.size))
          have HLn := Lib.hid hlen
          clear hown3 hgrow3 hown4 hgrow4 hb24 hmap hlen s1 s2 s3 f4 f5
          go_wp2
          go_roundw
          case rel => exact ⟨zs.take 0 ++ zs.drop (1), ys ++ [zs[0]], a4, c4, slice_len (by have := HLn.out; omega), by simp, HSn, HAn, HOn, HBen, HBn⟩
          case measure => first | (show 0 < zs.length; omega) | (show 0 + (zs.length - (1)) < zs.length; omega) | (show zs.length - (1) < zs.length; omega)
        · have f1 : 0 ≤ lc := by omega
          have f2 : 1 ≤ zs.length := hk
          have f3 : 1 ≤ lc := by omega
          have s1 : IntKind.i64.wrap ((1 : Int)) = (1 : Int) := IntWalk.i64_in _ (by omega)
          have s2 : 0 ≤ (1 : Int) := by omega
          have s3 : ((1 : Int)).toNat = 1 := by omega
          have f4 : (1 : Int) ≤ (zs.length : Int) := by omega
          have f5 : (lc = 1) = False := by simp; omega
          clear hcap
          go_wp2_with fail
          go_region_law (first
            | ((try simp only [Act.put, List.getElem_toArray, List.getElem_cons_succ, List.getElem_cons_zero, List.setIfInBounds_toArray, List.set_cons_succ, List.set_cons_zero]); refine step_append_own (a := ⟨_, _⟩) w2.drew (by rfl) (.tmp 50) (.tmp 53) 27 (by rfl) w2.heap.size 2 i0 (.int .i64 0) 1 8 Try.underlying27 hi hz0 hz1 hz2 rfl (by decide) (.slice none 0 0) 0 [] (by rfl) (World.ownsRow_nil w2.drew _ _ _) ⟨b, o, none⟩ 0 lc ((zs.take 0).map (Value.int .i64)) (by rfl) (by simp; try omega) (news_take HX2.out 0) (one_cell _) (by unfold maxLen; omega) (by omega) (Nat.le_refl _) ?_; intro v3 w3 hown3 hgrow3)
            | ((try simp only [Act.put, List.getElem_toArray, List.getElem_cons_succ, List.getElem_cons_zero, List.setIfInBounds_toArray, List.set_cons_succ, List.set_cons_zero]); refine step_append_own (a := ⟨_, _⟩) w3 (by rfl) (.tmp 54) (.tmp 58) 27 (by rfl) w2.heap.size 2 i0 (.int .i64 0) 1 8 Try.underlying27 hi hz0 hz1 hz2 rfl (by decide) v3 (0 + 0) _ (by rfl) hown3 ⟨b, o + (1), none⟩ (zs.length - (1)) (lc - (1)) ((zs.drop (1)).map (Value.int .i64)) (by rfl) (by simp; try omega) (news_drop (hx3_of HX2.out hgrow3) (1)) (one_cell _) (by unfold maxLen; omega) (by omega) (by have := hgrow3.size; simpa using this) ?_; intro v4 w4 hown4 hgrow4))
          have hmap : [] ++ (zs.take 0).map (Value.int .i64) ++ (zs.drop (1)).map (Value.int .i64) = (zs.take 0 ++ zs.drop (1)).map (Value.int .i64) := by simp
          rw [hmap] at hown4
          have hlen := hown4.1
          rw [List.length_map, Nat.mul_one] at hlen
          have hb24 : Below w2.heap.size w2 w4 := (((Below.refl w2.heap.size w2).drew.grown hgrow3 (Nat.le_refl _) (fun b hb => by cases hb)).grown hgrow4 (by have := hgrow3.size; simpa using this) (fun b hb => (hown3.lt b hb).1))
          obtain ⟨a4, c4, rfl⟩ := own_form hown4
          have HSn := Lib.hid (HS.out.step hk)
          have HBen : Hid (Behind a4 ov') := Lib.hid ⟨w2.heap.size, fun x hx => (hown4.lt x.block (by rw [hx]; rfl)).1, fun g hg => (HO2.out.lt g hg).2⟩
          have HAn : Hid (Ints w4 a4 (zs.take 0 ++ zs.drop (1)).length c4 (zs.take 0 ++ zs.drop (1))) := Lib.hid (by rw [← hlen] at hown4; exact ints_owned HSn.out.2.2.2.1 hown4)
          have HOn := Lib.hid (own_below HO2.out hb24 (Nat.le_refl _))
          have HBn := Lib.hid (HB2.out.trans (hb24.mono HB2.out.size))
          have HLn := Lib.hid hlen
          clear hown3 hgrow3 hown4 hgrow4 hb24 hmap hlen s1 s2 s3 f4 f5
          go_wp2
          go_roundw
          case rel => exact ⟨zs.take 0 ++ zs.drop (1), ys ++ [zs[0]], a4, c4, slice_len (by have := HLn.out; omega), by simp, HSn, HAn, HOn, HBen, HBn⟩
          case measure => first | (show 0 < zs.length; omega) | (show 0 + (zs.length - (1)) < zs.length; omega) | (show zs.length - (1) < zs.length; omega)

set_option maxHeartbeats 2400000 in
theorem walk_sn (x : Addr) (pa : Option Addr) (n cap pc : Nat) (l ps : List Int) (w : World) (hI : Ints w (some x) n cap l) (hJ : Ints w pa 0 pc ps) (hr : n * 8 ≤ 140737488351232) :
    Calls Try.prog 7 #[.slice (some x) n cap, .slice pa 0 pc] w fun e w' => e = .returned (.bool true) ∧ Below w.heap.size w w' := by
  obtain ⟨i0, hi, hz0, hz1, hz2⟩ := info_parts info_i64
  have HL : Hid (∀ W, Below w.heap.size w W → Ints W (some x) n cap l) := Lib.hid fun W hW => hI.below hW (Nat.le_refl _)
  have HP : Hid (∀ W, Below w.heap.size w W → Ints W pa 0 pc ps) := Lib.hid fun W hW => hJ.below hW (Nat.le_refl _)
  have hcm := hI.2.2.1
  have hpm := hJ.2.2.1
  have hpn := hJ.2.1
  unfold maxLen at hcm hpm
  have hln := Lib.hid hI.1
  have hlp := Lib.hid hJ.1
  have hla := Lib.hid hI.2.2.2.1
  have hpa := Lib.hid hJ.2.2.2.1
  clear hI hJ
  go_enter Try.func7, Try.ntmps7
  go_wp2_with fail
  refine (awake_below w).mono ?_
  rintro e w0 ⟨rfl, hb0⟩
  have hb0 := Lib.hid hb0
  have hI0 := HL.out w0 hb0.out
  have hx0 : IntsAt w0 x l := by
    rcases hI0.2.2.2.2 with ⟨h, _⟩ | ⟨y, h, h2⟩
    · cases h
    · cases h; exact h2
  have hl0 := hI0.1
  go_wp2_with (at_builtin; refine wpList_append_own _ rfl (.tmp 24) (.tmp 25) 27 rfl w0.heap.size 2 i0 (.int .i64 0) 1 8 Try.underlying27 hi hz0 hz1 hz2 rfl (by decide) _ _ _ rfl (World.ownsRow_nil _ _ _ _) x n cap (l.map (Value.int .i64)) rfl (by simp [hl0]) (news_of hx0) (one_cell l) (by unfold maxLen; omega) (by omega) (Nat.le_refl _) ?_)
  intro v1 w1 hown1 hgrow1 _
  try simp only [Nat.zero_add, List.nil_append] at hown1
  have hb1 : Below w0.heap.size w0 w1 := (Below.refl _ w0).grown hgrow1 (Nat.le_refl _) (fun b hb => by have h : (Value.slice none 0 0).ownBlock = some b := hb; cases h)
  obtain ⟨ba, bc, rfl⟩ := own_form hown1
  have HB1 : Hid (Below w.heap.size w w1) := Lib.hid (hb0.out.trans (hb1.mono hb0.out.size))
  have HA1 : Hid (Ints w1 ba l.length bc l) := Lib.hid (ints_owned hla.out (by rw [hl0]; exact hown1))
  have HLN := Lib.hid hl0
  clear hown1 hgrow1 hb1 hx0 hI0 hl0
  go_wp2_with fail
  have HS0 := Lib.hid (Same.start hla.out)
  have HBh : Hid (Behind ba (.slice none 0 0)) := Lib.hid ⟨0, fun _ _ => Nat.zero_le _, fun _ h => by cases h⟩
  have HO0 : Hid (w1.ownsRow w.heap.size 2 1 (.slice none 0 0) 0 (([] : List Int).map (Value.int .i64))) := Lib.hid (World.ownsRow_nil _ _ _ _)
  go_loopw [5, 6, 7] (fun lv ov i wr => ∃ (zs ys : List Int) (la : Option Addr) (lc : Nat), lv = .slice la zs.length lc ∧ i = .int .i64 ys.length ∧ Hid (Same l zs ys) ∧ Hid (Ints wr la zs.length lc zs) ∧ Hid (wr.ownsRow w.heap.size 2 1 ov ys.length (ys.map (Value.int .i64))) ∧ Hid (Behind la ov) ∧ Hid (Below w.heap.size w wr)) (fun lv _ _ _ => match lv with | .slice _ k _ => k | _ => 0)
  case atStart => exact ⟨l, [], ba, bc, slice_len HLN.out.symm, rfl, HS0, HA1, HO0, HBh, HB1⟩
  case round =>
    obtain ⟨zs, ys, la, lc, rfl, rfl, HS, HA, HO, HBe, HB⟩ := hrel
    rcases Nat.eq_zero_or_pos zs.length with hz | hz
    · have hz' : zs = [] := List.length_eq_zero_iff.1 hz
      subst hz'
      have HT := Lib.hid HS.out.stop
      have hyn : ys.length ≤ n := by have := HT.out.2.2.1; have := hln.out; omega
      have e6 : (ys ++ [0]).sum = l.sum := by rw [sum_more]; exact HT.out.1
      have e7 : prd (ys ++ [1]) = prd l := by rw [prd_more]; exact HT.out.2.1
      have E6 := Lib.hid e6
      have E7 := Lib.hid e7
      clear e6 e7 hz
      go_wp2_with fail
      refine (sum_any (HL.out wr HB.out)).mono ?_
      rintro e w' ⟨rfl, rfl⟩
      go_wp2_with (at_builtin; refine wpList_append_keep _ rfl (.tmp 67) (.tmp 68) 27 rfl w.heap.size 2 i0 (.int .i64 0) 1 8 Try.underlying27 hi hz0 hz1 hz2 rfl (by decide) _ _ _ rfl (HO.out.alloc _) ⟨wr.heap.size, 0, none⟩ 1 1 [.int .i64 0] rfl rfl (cells_one _ _ _) (by intro u hu; simp at hu; subst hu; rfl) (by unfold maxLen; omega) (by omega) (by have := HB.out.size; simp; omega) ?_; intro v6 w5 hown5 hgrow5 hkeep5; obtain ⟨a6, c6, rfl⟩ := own_form hown5; have HB5 : Hid (Below w.heap.size w w5) := Lib.hid ((HB.out.alloc HB.out.size _).grown hgrow5 (by have := HB.out.size; simp; omega) (fun b hb => (HO.out.lt b hb).1)); have HI6 : Hid (Ints w5 a6 (ys.length + 1) c6 (ys ++ [0])) := Lib.hid (ints_more (fun x hx => by rcases List.mem_append.1 hx with h | h <;> first | exact HT.out.2.2.2 x h | (simp at h; subst h; omega)) hown5); have HK5 := Lib.hid hkeep5; clear hown5 hgrow5 hkeep5)
      refine (sum_any HI6.out).mono ?_
      rintro e w' ⟨rfl, rfl⟩
      rw [E6.out]
      go_wp2_with fail
      refine (prod_any (HL.out w5 HB5.out)).mono ?_
      rintro e w' ⟨rfl, rfl⟩
      go_wp2_with (at_builtin; refine wpList_append_own _ rfl (.tmp 79) (.tmp 80) 27 rfl w.heap.size 2 i0 (.int .i64 0) 1 8 Try.underlying27 hi hz0 hz1 hz2 rfl (by decide) _ _ _ rfl (HK5.out.alloc _) ⟨w5.heap.size, 0, none⟩ 1 1 [.int .i64 1] rfl rfl (cells_one _ _ _) (by intro u hu; simp at hu; subst hu; rfl) (by unfold maxLen; omega) (by omega) (by have := HB5.out.size; simp; omega) ?_; intro v7 w6 hown6 hgrow6 _; obtain ⟨a7, c7, rfl⟩ := own_form hown6; have HB6 : Hid (Below w.heap.size w w6) := Lib.hid ((HB5.out.alloc HB5.out.size _).grown hgrow6 (by have := HB5.out.size; simp; omega) (fun b hb => (HK5.out.lt b hb).1)); have HI7 : Hid (Ints w6 a7 (ys.length + 1) c7 (ys ++ [1])) := Lib.hid (ints_more (fun x hx => by rcases List.mem_append.1 hx with h | h <;> first | exact HT.out.2.2.2 x h | (simp at h; subst h; omega)) hown6); clear hown6 hgrow6)
      refine (prod_any HI7.out).mono ?_
      rintro e w' ⟨rfl, rfl⟩
      rw [E7.out]
      by_cases hn2 : n = 2
      · have hl2 : l.length = 2 := by rw [hln.out]; exact hn2
        obtain ⟨xb, xo, hxe, hxc⟩ := (HL.out w6 HB6.out).cell (by omega)
        have hx' : x = ⟨xb, xo, none⟩ := by simpa using hxe
        subst hx'
        have m0 : w6.cell? ⟨xb, xo, none⟩ = some (.int .i64 l[0]) := hxc 0 (by omega)
        have m1 := hxc 1 (by omega)
        have g0 := hla.out.get 0 (by omega)
        have g1 := hla.out.get 1 (by omega)
        have K1 : Hid (∀ W, Calls Try.prog 9 #[.int .i64 l[0], .int .i64 l[1]] W fun e w' => e = .returned (.tuple #[.int .i64 (fitV l.sum), .int .i64 (fitE l.sum)]) ∧ w' = W) := Lib.hid fun W => (add_any l[0] l[1] W g0 g1).mono fun _ _ h => ⟨h.1.trans (ret2 (by rw [sum_two hl2]) (by rw [sum_two hl2])), h.2.symm⟩
        have K2 : Hid (∀ W, Calls Try.prog 13 #[.int .i64 l[0], .int .i64 l[1]] W fun e w' => e = .returned (.tuple #[.int .i64 (fitV (prd l)), .int .i64 (fitE (prd l))]) ∧ w' = W) := Lib.hid fun W => (mul_any l[0] l[1] W g0 g1).mono fun _ _ h => ⟨h.1.trans (ret2 (by rw [prd_two hl2]) (by rw [prd_two hl2])), h.2.symm⟩
        have hcap2 : 2 ≤ cap := by have := (HL.out w6 HB6.out).2.1; omega
        have tn : ((n : Int) != 2) = false := by rw [hn2]; rfl
        have tl0 : 0 < n := by omega
        have tl1 : 1 < n := by omega
        clear hxc g0 g1 hn2
        go_wp2_with fail
        go_quiet ((go_at_call 9; exact Calls.quiet_of_same (K1.out _)))
        have HB7 := Lib.hid (below_drewN HB6.out nq)
        generalize w6.drewN nq = w7 at HB7 ⊢
        clear m0 m1
        have m0 : w7.cell? ⟨xb, xo, none⟩ = some (.int .i64 l[0]) := (HL.out w7 HB7.out).cells' 0 (by omega)
        have m1 := (HL.out w7 HB7.out).cells' 1 (by omega)
        go_wp2_with fail
        go_quiet ((go_at_call 13; exact Calls.quiet_of_same (K2.out _)))
        go_wp2
        go_ret
        exact ⟨rfl, below_drewN HB7.out _⟩
      · have tn : ((n : Int) != 2) = true := by simp; omega
        go_wp2
        go_ret
        exact ⟨rfl, HB6.out⟩
    · have hyl : ys.length < n := by have := HS.out.2.2.1; have := hln.out; omega
      have hzn : zs.length ≤ n := by have := HS.out.2.2.1; have := hln.out; omega
      have t0 : decide ((0 : Int) < (zs.length : Int)) = true := decide_eq_true (by omega)
      have t1 : decide (0 < zs.length) = true := decide_eq_true hz
      obtain ⟨b, o, rfl, hc⟩ := HA.out.cell hz
      have hlc := HA.out.2.1
      have hlm := HA.out.2.2.1
      unfold maxLen at hlm
      have tp : decide ((ys.length : Int) < (0 : Int)) = false := decide_eq_false (by omega)
      have tp2 : decide (ys.length < 0) = false := decide_eq_false (by omega)
      have kc : wr.cell? ⟨b, o, none⟩ = some (.int .i64 zs[0]) := hc 0 hz
      have kp : True := trivial
      have hk : 0 < zs.length := hz
      clear hc
      have hcapi : Below wr.heap.size wr (wr.alloc (.cells #[.int .i64 zs[0]] 2)) := (Below.refl _ wr).alloc (Nat.le_refl _) _
      have HAa := Lib.hid (HA.out.below hcapi (Nat.le_refl _))
      clear hcapi
      have hysz : ys.length + 1 ≤ 17592186044416 := by omega
      go_wp2_with (at_builtin; refine wpList_append_own _ rfl (.tmp 43) (.tmp 48) 27 rfl w.heap.size 2 i0 (.int .i64 0) 1 8 Try.underlying27 hi hz0 hz1 hz2 rfl (by decide) _ _ _ rfl (HO.out.alloc _) ⟨wr.heap.size, 0, none⟩ 1 1 [.int .i64 zs[0]] rfl rfl (cells_one _ _ _) (by intro u hu; simp at hu; subst hu; rfl) (by unfold maxLen; omega) (by omega) (by have := HB.out.size; simp; omega) ?_; intro ov' w2 hown2 hgrow2 _)
      have HA2 := Lib.hid (HAa.out.grown HBe.out hgrow2)
      have HB2 : Hid (Below w.heap.size w w2) := Lib.hid ((HB.out.alloc HB.out.size _).grown hgrow2 (by have := HB.out.size; simp; omega) (fun b hb => (HO.out.lt b hb).1))
      have HO2 : Hid (w2.ownsRow w.heap.size 2 1 ov' (ys ++ [zs[0]]).length ((ys ++ [zs[0]]).map (Value.int .i64))) := Lib.hid (by rw [← map_snoc]; simpa using hown2)
      clear hown2 hgrow2 HAa kc kp
      have hx2 : IntsAt w2 ⟨b, o, none⟩ zs := by
        rcases HA2.out.2.2.2.2 with ⟨h, _⟩ | ⟨y, h, h2⟩
        · cases h
        · cases h; exact h2
      have HX2 := Lib.hid hx2
      clear hx2
      by_cases hcap : 1 = lc
      · have f1 : 0 ≤ lc := by omega
        have f2 : 1 ≤ zs.length := hk
        have f3 : 1 ≤ lc := by omega
        have s1 : IntKind.i64.wrap ((1 : Int)) = (1 : Int) := IntWalk.i64_in _ (by omega)
        have s2 : 0 ≤ (1 : Int) := by omega
        have s3 : ((1 : Int)).toNat = 1 := by omega
        have f4 : (1 : Int) ≤ (zs.length : Int) := by omega
        have f5 : (lc = 1) = True := by simp; omega
        have f6 : Hid (zs.length ≤ 1) := Lib.hid (by omega)
        clear hcap
        go_wp2_with fail
        go_region_law (first
          | ((try simp only [Act.put, List.getElem_toArray, List.getElem_cons_succ, List.getElem_cons_zero, List.setIfInBounds_toArray, List.set_cons_succ, List.set_cons_zero]); refine step_append_own (a := ⟨_, _⟩) w2.drew (by rfl) (.tmp 50) (.tmp 53) 27 (by rfl) w2.heap.size 2 i0 (.int .i64 0) 1 8 Try.underlying27 hi hz0 hz1 hz2 rfl (by decide) (.slice none 0 0) 0 [] (by rfl) (World.ownsRow_nil w2.drew _ _ _) ⟨b, o, none⟩ 0 lc ((zs.take 0).map (Value.int .i64)) (by rfl) (by simp; try omega) (news_take HX2.out 0) (one_cell _) (by unfold maxLen; omega) (by omega) (Nat.le_refl _) ?_; intro v3 w3 hown3 hgrow3)
          | ((try simp only [Act.put, List.getElem_toArray, List.getElem_cons_succ, List.getElem_cons_zero, List.setIfInBounds_toArray, List.set_cons_succ, List.set_cons_zero]); refine step_append_own (a := ⟨_, _⟩) w3 (by rfl) (.tmp 54) (.tmp 58) 27 (by rfl) w2.heap.size 2 i0 (.int .i64 0) 1 8 Try.underlying27 hi hz0 hz1 hz2 rfl (by decide) v3 (0 + 0) _ (by rfl) hown3 ⟨b, o, none⟩ (zs.length - (1)) (lc - (1)) ((zs.drop (1)).map (Value.int .i64)) (by rfl) (by simp; try omega) (news_end f6.out) (one_cell _) (by unfold maxLen; omega) (by omega) (by have := hgrow3.size; simpa using this) ?_; intro v4 w4 hown4 hgrow4))
        have hmap : [] ++ (zs.take 0).map (Value.int .i64) ++ (zs.drop (1)).map (Value.int .i64) = (zs.take 0 ++ zs.drop (1)).map (Value.int .i64) := by simp
        rw [hmap] at hown4
        have hlen := hown4.1
        rw [List.length_map, Nat.mul_one] at hlen
        have hb24 : Below w2.heap.size w2 w4 := (((Below.refl w2.heap.size w2).drew.grown hgrow3 (Nat.le_refl _) (fun b hb => by cases hb)).grown hgrow4 (by have := hgrow3.size; simpa using this) (fun b hb => (hown3.lt b hb).1))
        obtain ⟨a4, c4, rfl⟩ := own_form hown4
        have HSn := Lib.hid (HS.out.step hk)
        have HBen : Hid (Behind a4 ov') := Lib.hid ⟨w2.heap.size, fun x hx => (hown4.lt x.block (by rw [hx]; rfl)).1, fun g hg => (HO2.out.lt g hg).2⟩
        have HAn : Hid (Ints w4 a4 (zs.take 0 ++ zs.drop (1)).length c4 (zs.take 0 ++ zs.drop (1))) := Lib.hid (by rw [← hlen] at hown4; exact ints_owned HSn.out.2.2.2.1 hown4)
        have HOn := Lib.hid (own_below HO2.out hb24 (Nat.le_refl _))
        have HBn := Lib.hid (HB2.out.trans (hb24.mono HB2.out.size))
        have HLn := Lib.hid hlen
        clear hown3 hgrow3 hown4 hgrow4 hb24 hmap hlen s1 s2 s3 f4 f5
        go_wp2
        go_roundw
        case rel => exact ⟨zs.take 0 ++ zs.drop (1), ys ++ [zs[0]], a4, c4, slice_len (by have := HLn.out; omega), by simp, HSn, HAn, HOn, HBen, HBn⟩
        case measure => first | (show 0 < zs.length; omega) | (show 0 + (zs.length - (1)) < zs.length; omega) | (show zs.length - (1) < zs.length; omega)
      · have f1 : 0 ≤ lc := by omega
        have f2 : 1 ≤ zs.length := hk
        have f3 : 1 ≤ lc := by omega
        have s1 : IntKind.i64.wrap ((1 : Int)) = (1 : Int) := IntWalk.i64_in _ (by omega)
        have s2 : 0 ≤ (1 : Int) := by omega
        have s3 : ((1 : Int)).toNat = 1 := by omega
        have f4 : (1 : Int) ≤ (zs.length : Int) := by omega
        have f5 : (lc = 1) = False := by simp; omega
        clear hcap
        go_wp2_with fail
        go_region_law (first
          | ((try simp only [Act.put, List.getElem_toArray, List.getElem_cons_succ, List.getElem_cons_zero, List.setIfInBounds_toArray, List.set_cons_succ, List.set_cons_zero]); refine step_append_own (a := ⟨_, _⟩) w2.drew (by rfl) (.tmp 50) (.tmp 53) 27 (by rfl) w2.heap.size 2 i0 (.int .i64 0) 1 8 Try.underlying27 hi hz0 hz1 hz2 rfl (by decide) (.slice none 0 0) 0 [] (by rfl) (World.ownsRow_nil w2.drew _ _ _) ⟨b, o, none⟩ 0 lc ((zs.take 0).map (Value.int .i64)) (by rfl) (by simp; try omega) (news_take HX2.out 0) (one_cell _) (by unfold maxLen; omega) (by omega) (Nat.le_refl _) ?_; intro v3 w3 hown3 hgrow3)
          | ((try simp only [Act.put, List.getElem_toArray, List.getElem_cons_succ, List.getElem_cons_zero, List.setIfInBounds_toArray, List.set_cons_succ, List.set_cons_zero]); refine step_append_own (a := ⟨_, _⟩) w3 (by rfl) (.tmp 54) (.tmp 58) 27 (by rfl) w2.heap.size 2 i0 (.int .i64 0) 1 8 Try.underlying27 hi hz0 hz1 hz2 rfl (by decide) v3 (0 + 0) _ (by rfl) hown3 ⟨b, o + (1), none⟩ (zs.length - (1)) (lc - (1)) ((zs.drop (1)).map (Value.int .i64)) (by rfl) (by simp; try omega) (news_drop (hx3_of HX2.out hgrow3) (1)) (one_cell _) (by unfold maxLen; omega) (by omega) (by have := hgrow3.size; simpa using this) ?_; intro v4 w4 hown4 hgrow4))
        have hmap : [] ++ (zs.take 0).map (Value.int .i64) ++ (zs.drop (1)).map (Value.int .i64) = (zs.take 0 ++ zs.drop (1)).map (Value.int .i64) := by simp
        rw [hmap] at hown4
        have hlen := hown4.1
        rw [List.length_map, Nat.mul_one] at hlen
        have hb24 : Below w2.heap.size w2 w4 := (((Below.refl w2.heap.size w2).drew.grown hgrow3 (Nat.le_refl _) (fun b hb => by cases hb)).grown hgrow4 (by have := hgrow3.size; simpa using this) (fun b hb => (hown3.lt b hb).1))
        obtain ⟨a4, c4, rfl⟩ := own_form hown4
        have HSn := Lib.hid (HS.out.step hk)
        have HBen : Hid (Behind a4 ov') := Lib.hid ⟨w2.heap.size, fun x hx => (hown4.lt x.block (by rw [hx]; rfl)).1, fun g hg => (HO2.out.lt g hg).2⟩
        have HAn : Hid (Ints w4 a4 (zs.take 0 ++ zs.drop (1)).length c4 (zs.take 0 ++ zs.drop (1))) := Lib.hid (by rw [← hlen] at hown4; exact ints_owned HSn.out.2.2.2.1 hown4)
        have HOn := Lib.hid (own_below HO2.out hb24 (Nat.le_refl _))
        have HBn := Lib.hid (HB2.out.trans (hb24.mono HB2.out.size))
        have HLn := Lib.hid hlen
        clear hown3 hgrow3 hown4 hgrow4 hb24 hmap hlen s1 s2 s3 f4 f5
        go_wp2
        go_roundw
        case rel => exact ⟨zs.take 0 ++ zs.drop (1), ys ++ [zs[0]], a4, c4, slice_len (by have := HLn.out; omega), by simp, HSn, HAn, HOn, HBen, HBn⟩
        case measure => first | (show 0 < zs.length; omega) | (show 0 + (zs.length - (1)) < zs.length; omega) | (show zs.length - (1) < zs.length; omega)


theorem ints_nil (w : World) : Ints w none 0 0 [] := ⟨rfl, Nat.le_refl _, Nat.zero_le _, Dig.nil.allIn, .inl ⟨rfl, rfl, rfl⟩⟩
theorem sum0 {w : World} {a : Option Addr} {n c : Nat} {l : List Int} (h : Ints w a n c l) (e : l.sum = 0) : Calls Try.prog 21 #[.slice a n c] w fun e w' => e = .returned (.tuple #[.int .i64 (fitV 0), .int .i64 (fitE 0)]) ∧ w = w' :=
  (sum_any h).mono fun _ _ h => ⟨h.1.trans (ret2 (by rw [e]) (by rw [e])), h.2⟩
theorem prod1 {w : World} {a : Option Addr} {n c : Nat} {l : List Int} (h : Ints w a n c l) (e : prd l = 1) : Calls Try.prog 23 #[.slice a n c] w fun e w' => e = .returned (.tuple #[.int .i64 (fitV 1), .int .i64 (fitE 1)]) ∧ w = w' :=
  (prod_any h).mono fun _ _ h => ⟨h.1.trans (ret2 (by rw [e]) (by rw [e])), h.2⟩

set_option maxHeartbeats 2400000 in
theorem walk_none (v : Value) (w : World) :
    Calls Try.prog 7 #[.slice none 0 0, v] w fun e w' => e = .returned (.bool true) ∧ Below w.heap.size w w' := by
  obtain ⟨i0, hi, hz0, hz1, hz2⟩ := info_parts info_i64
  go_enter Try.func7, Try.ntmps7
  go_wp2_with fail
  refine (awake_below w).mono ?_
  rintro e w0 ⟨rfl, hb0⟩
  have hb0 := Lib.hid hb0
  go_wp2_with (at_builtin; refine wpList_append_own_none rfl (.tmp 24) (.tmp 25) 27 rfl w0.heap.size 2 i0 1 Try.underlying27 hi (.slice none 0 0) 0 [] rfl (World.ownsRow_nil _ _ _ _) rfl ?_)
  refine wp_loop_rounds 1 ?_
  rw [rounds_succ]
  go_wp2_with fail
  refine (sum0 (ints_nil w0) rfl).mono ?_
  rintro e w' ⟨rfl, rfl⟩
  go_wp2_with (at_builtin; refine wpList_append_own _ rfl (.tmp 67) (.tmp 68) 27 rfl w0.heap.size 2 i0 (.int .i64 0) 1 8 Try.underlying27 hi hz0 hz1 hz2 rfl (by decide) _ _ _ rfl ((World.ownsRow_nil w0 w0.heap.size 2 1).alloc _) ⟨w0.heap.size, 0, none⟩ 1 1 [.int .i64 0] rfl rfl (cells_one _ _ _) (by intro u hu; simp at hu; subst hu; rfl) (by unfold maxLen; omega) (by omega) (by simp) ?_; intro v6 w5 hown5 hgrow5 _; obtain ⟨a6, c6, rfl⟩ := own_form hown5; have HB5 : Hid (Below w0.heap.size w0 w5) := Lib.hid (((Below.refl _ w0).alloc (Nat.le_refl _) _).grown hgrow5 (by simp) (fun b hb => by have h : (Value.slice none 0 0).ownBlock = some b := hb; cases h)); have HI6 : Hid (Ints w5 a6 1 c6 [0]) := Lib.hid (ints_owned (fun x hx => by simp at hx; subst hx; omega) hown5); clear hown5 hgrow5)
  refine (sum0 HI6.out (by simp)).mono ?_
  rintro e w' ⟨rfl, rfl⟩
  go_wp2_with fail
  refine (prod1 (ints_nil w5) rfl).mono ?_
  rintro e w' ⟨rfl, rfl⟩
  go_wp2_with (at_builtin; refine wpList_append_own _ rfl (.tmp 79) (.tmp 80) 27 rfl w5.heap.size 2 i0 (.int .i64 0) 1 8 Try.underlying27 hi hz0 hz1 hz2 rfl (by decide) _ _ _ rfl ((World.ownsRow_nil w5 w5.heap.size 2 1).alloc _) ⟨w5.heap.size, 0, none⟩ 1 1 [.int .i64 1] rfl rfl (cells_one _ _ _) (by intro u hu; simp at hu; subst hu; rfl) (by unfold maxLen; omega) (by omega) (by simp) ?_; intro v7 w6 hown6 hgrow6 _; obtain ⟨a7, c7, rfl⟩ := own_form hown6; have HB6 : Hid (Below w5.heap.size w5 w6) := Lib.hid (((Below.refl _ w5).alloc (Nat.le_refl _) _).grown hgrow6 (by simp) (fun b hb => by have h : (Value.slice none 0 0).ownBlock = some b := hb; cases h)); have HI7 : Hid (Ints w6 a7 1 c7 [1]) := Lib.hid (ints_owned (fun x hx => by simp at hx; subst hx; omega) hown6); clear hown6 hgrow6)
  refine (prod1 HI7.out (by simp [prd])).mono ?_
  rintro e w' ⟨rfl, rfl⟩
  go_wp2
  go_ret
  exact ⟨rfl, (hb0.out.trans (HB5.out.mono hb0.out.size)).trans (HB6.out.mono (Nat.le_trans hb0.out.size HB5.out.size))⟩

theorem laidOut : laidOutB Try.prog = true := by kernel_rfl
theorem bytes_i64 : Try.prog.bytesOf 2 = 8 := by kernel_rfl

theorem walk (a : Option Addr) (n cap : Nat) (l : List Int) (pa : Option Addr) (pn pc : Nat) (ps : List Int) (w : World) (hI : Ints w a n cap l) (hJ : Ints w pa pn pc ps) (hr : n * 8 ≤ 140737488351232) :
    Calls Try.prog 7 #[.slice a n cap, .slice pa pn pc] w fun e w' => e = .returned (.bool true) ∧ Below w.heap.size w w' := by
  rcases hI.2.2.2.2 with ⟨rfl, rfl, rfl⟩ | ⟨x, rfl, hx⟩
  · exact walk_none _ w
  · rcases Nat.eq_zero_or_pos pn with rfl | hp
    · exact walk_sn x pa n cap pc l ps w hI hJ hr
    · have hJ2 := hJ
      obtain ⟨pb, po, rfl, _⟩ := hJ.cell hp
      exact walk_ss x pb po n cap pn pc l ps w hI hJ2 hr hp

/-- what the form hands over of a slice of ints -/
theorem ints_of_row {w : World} {x : Addr} {len cap : Nat} {zs : List Int} (hl : len ≤ cap) (hm : cap ≤ maxLen) (hz : zs.length = cap) (hc : ∀ i, i < zs.length → w.cell? (x.add i) = some (.int .i64 (zs.getD i 0))) (hw : ∀ n ∈ zs, (Lit.int .i64 n).wf = true) :
    Ints w (some x) len cap (zs.take len) := by
  refine ⟨by simp; omega, hl, hm, fun y hy => in_of_wf (hw y (List.mem_of_mem_take hy)), .inr ⟨x, rfl, fun i hi => ?_⟩⟩
  have hi2 : i < len := by simp at hi; omega
  rw [hc i (by omega)]
  rw [List.getD_eq_getElem?_getD, List.getElem?_eq_getElem (by omega)]
  simp

theorem lifted (os : Os) (started : os.Started) (H : Type) (enc : TypeId × Value → H) :
    ReturnsInHanded {} Try.checked os 7 .any (Rows.checkedOrderSpec.pre6 enc Try.prog Try.f7 Rows.checkedOrderRow.domain false) (Rows.checkedOrderSpec.post enc Try.prog Try.f7 false true false false) := by
  refine returnsInHanded_of_change_sized (C := Try.checked) own started (by kernel_rfl) Try.func7
    (ChangeSpec.witness6 (enc := enc) (C := Try.checked) false ⟨#[], #[.slice none 0 0, .slice none 0 0], []⟩ 8 (by kernel_rfl) (by kernel_rfl) (by kernel_rfl) (by kernel_rfl)) ?_
  intro W base args ds gs before hval0 hW hcnd hsz0 _
  have hsz : (DataW.weightsEach Try.prog (Try.f7.params.toList ++ Rows.checkedOrderSpec.plain.varTypes Try.prog) (ds ++ gs)).all (· ≤ reachBytes) = true := hsz0
  clear hsz0 hcnd
  have hval : ∀ (j : Nat) t v, Try.f7.params[j]? = some t → args[j]? = some v → Value.okWide Try.prog W .any base t v := hval0
  have hW' := hW
  obtain ⟨p, q, hA0, hV, rfl, hfz, hnd⟩ := hW
  have hA : DataW.TrodAll enc Try.prog W 0 (fun _ => true) true Try.f7.params.toList args.toList ds p := hA0
  rw [Try.params7] at hA hval hsz
  obtain ⟨v0, vs0, d0, ds0, p0, q0, hargs, rfl, rfl, h0, r0⟩ := trodAll_cons hA
  obtain ⟨v1, vs1, d1, ds1, p1, q1, rfl, rfl, rfl, h1, r1⟩ := trodAll_cons r0
  obtain ⟨rfl, rfl, rfl⟩ := trodAll_nil r1
  obtain rfl : args = #[v0, v1] := by cases args; simp_all
  obtain ⟨rfl, rfl⟩ := trodVars_none hV
  obtain ⟨a0, len0, cap0, rfl⟩ := okWide_slice Try.underlying27 (hval 0 27 v0 rfl rfl)
  obtain ⟨a1, len1, cap1, rfl⟩ := okWide_slice Try.underlying35 (hval 1 35 v1 rfl rfl)
  have k0 := h0
  have k1 := h1
  have lt0 : ∀ x ∈ p0, x.block < W.heap.size := by obtain ⟨m, hm⟩ := k0; exact DataW.trod_lt m _ _ _ hm
  have lt1 : ∀ x ∈ p1, x.block < W.heap.size := by obtain ⟨m, hm⟩ := k1; exact DataW.trod_lt m _ _ _ hm
  obtain ⟨z0, w0, hr⟩ : ∃ l, Ints W a0 len0 cap0 l ∧ len0 * 8 ≤ 140737488351232 := by
    obtain ⟨fuel, hf⟩ := h0
    rcases open_ints Try.underlying27 Try.underlying2 (by kernel_rfl) hf with ⟨hcs, _⟩ | ⟨x, l, c, zs, hcs, _, hl, hm, hz, hx, hcell, hwz⟩
    · simp [Value.cells] at hcs
      obtain ⟨rfl, rfl, rfl⟩ := hcs
      exact ⟨[], ints_nil W, Nat.zero_le _⟩
    · simp [Value.cells] at hcs
      obtain ⟨rfl, rfl, rfl⟩ := hcs
      have hz' : zs.length = cap0 := by simpa using hz
      refine ⟨_, ints_of_row hl hm hz' hcell hwz, ?_⟩
      simp only [Prod.mk.injEq] at hx
      obtain ⟨rfl, _⟩ := hx
      have := sized_slice hsz (j := 0) (t := 27) (e := 2) rfl rfl Try.underlying27
      rw [bytes_i64] at this
      simp only [lits, List.length_map, List.length_take, List.length_drop, reachBytes] at this
      omega
  obtain ⟨z1, w1⟩ : ∃ l, Ints W a1 len1 cap1 l := by
    obtain ⟨fuel, hf⟩ := h1
    rcases open_ints Try.underlying35 Try.underlying3 (by kernel_rfl) hf with ⟨hcs, _⟩ | ⟨x, l, c, zs, hcs, _, hl, hm, hz, hx, hcell, hwz⟩
    · simp [Value.cells] at hcs
      obtain ⟨rfl, rfl, rfl⟩ := hcs
      exact ⟨[], ints_nil W⟩
    · simp [Value.cells] at hcs
      obtain ⟨rfl, rfl, rfl⟩ := hcs
      have hz' : zs.length = cap1 := by simpa using hz
      exact ⟨_, ints_of_row hl hm hz' hcell hwz⟩
  clear hA0 hval0
  refine (walk a0 len0 cap0 z0 a1 len1 cap1 z1 W w0 w1 hr).mono fun e W' ⟨he, bel⟩ => ?_
  subst he
  exact ⟨_, rfl, _, _, _, [], _, [], hW', trodAll_mk1 (shut_bool Try.underlying4 _), (trodAll_cons_mk (Below.trod laidOut (by kernel_rfl) (of_decide_eq_true (by kernel_rfl)) k0 bel lt0) (trodAll_cons_mk (Below.trod laidOut (by kernel_rfl) (of_decide_eq_true (by kernel_rfl)) k1 bel lt1) trodAll_mk0)), rfl, bel.frame _, fun h => by cases h⟩

theorem over : Rows.checkedOrderRow.holds Try.pinned (OpenSpec.ofChange Rows.checkedOrderSpec) :=
  OpenClaim.holds_of_wide 7 Try.f7 rfl rfl rfl rfl rfl rfl rfl ⟨rfl, rfl, rfl, rfl, rfl⟩ rfl rfl rfl rfl rfl (by kernel_rfl) Try.func7 (by kernel_rfl)
    (of_decide_eq_true (by kernel_rfl)) (by unfold Func.isWrapper; first | (rw [if_pos (by decide +kernel)]; kernel_rfl) | (rw [if_neg (by decide +kernel)]; exact ⟨rfl, rfl⟩))
    (fun os started H enc _ => lifted os started H enc)

theorem proved : Rows.CheckedOrderSaid := over
#print axioms proved
end Go.Proofs.Ytdckenkomjikbaa.checkedOrder
