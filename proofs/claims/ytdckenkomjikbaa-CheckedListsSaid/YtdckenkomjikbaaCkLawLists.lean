/- Sums and products of any list are the reference's, twice, and the list stays as it was: for every list of numbers of 64 bits, no condition. -/
import Derived.Test.YtdckenkomjikbaaCkHeld
import Derived.ProofKit
import Derived.OpenShut
import Derived.ChangeOld
import Derived.SizedLaws
namespace Go.Proofs.Ytdckenkomjikbaa.checkedLists
open Go.ChangeShapes Go.WideShapes Go.ChangeAt Go.RowKit
set_option maxRecDepth 100000

theorem own : ownKnob Try.prog.godebug = none := by kernel_rfl

set_option maxHeartbeats 16000000 in
theorem walk_some (x : Addr) (n cap : Nat) (l : List Int) (w : World) (hI : Ints w (some x) n cap l) (hx : IntsAt w x l) (hr : n * 8 ≤ 140737488351232) :
    Calls Try.prog 4 #[.slice (some x) n cap] w fun e w' => e = .returned (.bool true) ∧ Below w.heap.size w w' := by
  obtain ⟨i0, hi, hz0, hz1, hz2⟩ := info_parts info_i64
  have hl := hI.1
  have ha := hI.2.2.2.1
  clear hI
  go_enter Try.func4, Try.ntmps4
  go_wp2_with (at_builtin; refine wpList_append_own _ rfl (.tmp 11) (.tmp 12) 27 rfl w.heap.size 2 i0 (.int .i64 0) 1 8 Try.underlying27 hi hz0 hz1 hz2 rfl (by decide) _ _ _ rfl (World.ownsRow_nil _ _ _ _) x n cap (l.map (Value.int .i64)) rfl (by simp [hl]) (news_of hx) (one_cell l) (by unfold maxLen; omega) (by omega) (Nat.le_refl _) ?_)
  intro v1 w1 hown1 hgrow1 _
  try simp only [Nat.zero_add, List.nil_append] at hown1
  have hb1 : Below w.heap.size w w1 := (Below.refl _ w).grown hgrow1 (Nat.le_refl _) (fun b hb => by simp [Value.ownBlock] at hb)
  have hsz := hb1.size
  go_wp2_with (at_builtin; refine wpList_append_own _ rfl (.tmp 13) (.tmp 14) 27 rfl w.heap.size 2 i0 (.int .i64 0) 1 8 Try.underlying27 hi hz0 hz1 hz2 rfl (by decide) _ _ _ rfl (hown1.alloc _) ⟨w1.heap.size, 0, none⟩ 1 1 [.int .i64 77] rfl rfl (cells_one _ _ _) (by intro u hu; simp at hu; subst hu; rfl) (by unfold maxLen; omega) (by omega) (by simp; omega) ?_)
  intro v' w2 hown hgrow _
  obtain ⟨g, c, rfl⟩ := ownsRow_succ hown
  have hb : Below w.heap.size w w2 := (hb1.alloc hsz _).grown hgrow (by simp; omega) (fun b hb => (hown1.lt b hb).1)
  rw [map_snoc] at hown
  have HH : Hid (Held w w2 g c n l) := Lib.hid ⟨hl, ha, hown, hb⟩
  have hgc := HH.out.cap
  have hgc1 : n ≤ c := by omega
  have hgc2 := hgc.2
  unfold maxLen at hgc2
  clear hown1 hgrow1 hb1 hsz hown hgrow hb hx hl ha hgc
  go_wp2_with fail
  go_loopw [4] (fun t wr => ∃ (k : Nat) (zs : List Int), t = .int .i64 k ∧ k ≤ 2 ∧ Hid (Held w wr g c n zs)) (fun t _ => 2 - (intOf t).toNat)
  case atStart => exact ⟨0, l, rfl, by omega, HH⟩
  case round =>
    obtain ⟨k, zs, rfl, hk, HZ⟩ := hrel
    obtain ⟨wo, rfl⟩ : ∃ wo : World, wo = wr := ⟨_, rfl⟩
    by_cases hlt : k < 2
    · have hx := HZ.out.ints
      obtain ⟨hcap, hcm⟩ := HZ.out.cap
      have hcm2 := hcm
      unfold maxLen at hcm2
      have hIA : IntsAt wo ⟨g, 0, none⟩ zs := by
        rcases hx.2.2.2.2 with ⟨h, _⟩ | ⟨x, h, h2⟩
        · cases h
        · cases h; exact h2
      have hzl := hx.1
      go_wp2_with (at_builtin; refine wpList_append_own _ rfl (.tmp 24) (.tmp 25) 27 rfl wo.heap.size 2 i0 (.int .i64 0) 1 8 Try.underlying27 hi hz0 hz1 hz2 rfl (by decide) _ _ _ rfl (World.ownsRow_nil _ _ _ _) ⟨g, 0, none⟩ n c (zs.map (Value.int .i64)) rfl (by simp [hzl]) (news_of hIA) (one_cell zs) (by unfold maxLen; omega) (by omega) (Nat.le_refl _) ?_; intro v5 w1 hown1 hgrow1 _)
      try simp only [List.nil_append, Nat.zero_add] at hown1
      obtain ⟨a5, c5, rfl⟩ := own_form hown1
      have hb1 : Below wo.heap.size wo w1 := (Below.refl _ wo).grown hgrow1 (Nat.le_refl _) (fun b hb => by have h : (Value.slice none 0 0).ownBlock = some b := hb; cases h)
      have HS := Lib.hid (ints_owned (l := zs) hx.2.2.2.1 hown1)
      have HA5 : Hid (∀ x, a5 = some x → wo.heap.size ≤ x.block) := Lib.hid fun x hx => (hown1.lt x.block (by rw [hx]; rfl)).1
      have HZ1 := Lib.hid (HZ.out.below hb1)
      have hgl := HZ.out.lt
      clear hown1 hgrow1 hb1 hx hIA
      go_wp2_with fail
      refine (sum_any HZ1.out.ints).mono ?_
      rintro e w' ⟨rfl, rfl⟩
      go_wp2_with fail
      refine (refsum_any HS.out (by omega)).mono ?_
      rintro e w2 ⟨rfl, hb2⟩
      have HZ2 := Lib.hid (HZ1.out.below hb2)
      have HS2 := Lib.hid (HS.out.below hb2 (Nat.le_refl _))
      clear hb2
      go_wp2_with fail
      refine (prod_any HZ2.out.ints).mono ?_
      rintro e w' ⟨rfl, rfl⟩
      go_wp2_with fail
      refine (refprod_any HS2.out).mono ?_
      rintro e w3 ⟨rfl, hb3⟩
      have HZ3 := Lib.hid (HZ2.out.below hb3)
      have HS3 := Lib.hid (HS2.out.below hb3 (Nat.le_refl _))
      clear hb3
      have m77 := HZ3.out.last
      go_wp2_with fail
      go_loopw [10] (fun i wr => ∃ (j : Nat) (ys : List Int), i = .int .i64 j ∧ j ≤ n ∧ Hid (Held w wr g c n ys) ∧ Hid (∀ q, j ≤ q → ys[q]? = zs[q]?) ∧ Hid (Ints wr a5 n c5 zs)) (fun i _ => n - (intOf i).toNat)
      case atStart => exact ⟨0, zs, rfl, Nat.zero_le _, HZ3, Lib.hid fun _ _ => rfl, HS3⟩
      case round =>
        obtain ⟨j, ys, rfl, hj, HY, HE, HI⟩ := hrel
        clear m77
        by_cases hjn : j < n
        · have hjz : j < zs.length := by omega
          have hjy : j < ys.length := by rw [HY.out.1]; exact hjn
          have he : ys[j] = zs[j] := by
            have := HE.out j (Nat.le_refl _)
            rw [List.getElem?_eq_getElem hjy, List.getElem?_eq_getElem hjz] at this
            exact Option.some.inj this
          have k1 := HY.out.at j hjy
          rw [he] at k1
          obtain ⟨z1, z2⟩ := HZ.out.2.1.get j hjz
          obtain ⟨u1, u2⟩ := upd_in ⟨z1, z2⟩
          obtain ⟨u3, u4⟩ := upd_in1 ⟨z1, z2⟩
          obtain ⟨b5, o5, rfl, hc5⟩ := HI.out.cell (by omega)
          have k2 := hc5 j hjz
          have t1 : (zs[j] != zs[j]) = false := by simp
          have hcc := HI.out.2.1
          have hcc2 := HI.out.2.2.1
          unfold maxLen at hcc2
          clear hc5 he
          go_wp2_with fail
          go_quiet (fail)
          have HYd := HY.out.below (below_drewN (Below.refl wr.heap.size wr) nq)
          have HId := HI.out.drewN nq
          generalize wr.drewN nq = wd at HYd HId ⊢
          have k3 := HYd.at j hjy
          rw [show ys[j] = zs[j] from by
            have := HE.out j (Nat.le_refl _)
            rw [List.getElem?_eq_getElem hjy, List.getElem?_eq_getElem hjz] at this
            exact Option.some.inj this] at k3
          have k4 := HYd.free j
          have HYn := Lib.hid (HYd.set j hjn (u := upd zs[j]) ⟨u1, u2⟩)
          have HIn := Lib.hid (HId.own_set (g := g) (j := j) HA5.out hgl.2 (.int .i64 (upd zs[j])))
          have HEn : Hid (∀ q, j + 1 ≤ q → (ys.set j (upd zs[j]))[q]? = zs[q]?) := Lib.hid fun q hq => by
            rw [List.getElem?_set_ne (by omega)]; exact HE.out q (by omega)
          clear k1 k2 HYd HId
          go_wp2
          go_roundw
          case rel => exact ⟨j + 1, ys.set j (upd zs[j]), by go_num, by omega, HYn, HEn, HIn⟩
          case measure => simp [intOf]; omega
        · go_wp2
          go_roundw
          case rel => exact ⟨k + 1, ys, by go_num, by omega, HY⟩
          case measure => simp [intOf]; omega
    · go_wp2
      go_ret
      exact ⟨rfl, HZ.out.2.2.2⟩


set_option maxHeartbeats 16000000 in
theorem walk_none (w : World) :
    Calls Try.prog 4 #[.slice none 0 0] w fun e w' => e = .returned (.bool true) ∧ Below w.heap.size w w' := by
  obtain ⟨i0, hi, hz0, hz1, hz2⟩ := info_parts info_i64
  go_enter Try.func4, Try.ntmps4
  go_wp2_with (first | (at_builtin; refine wpList_append_own_none rfl (.tmp 11) (.tmp 12) 27 rfl w.heap.size 2 i0 1 Try.underlying27 hi (.slice none 0 0) 0 [] rfl (World.ownsRow_nil _ _ _ _) rfl ?_) | (at_builtin; refine wpList_append_own _ rfl (.tmp 13) (.tmp 14) 27 rfl w.heap.size 2 i0 (.int .i64 0) 1 8 Try.underlying27 hi hz0 hz1 hz2 rfl (by decide) _ _ _ rfl ((World.ownsRow_nil w w.heap.size 2 1).alloc _) ⟨w.heap.size, 0, none⟩ 1 1 [.int .i64 77] rfl rfl (cells_one _ _ _) (by intro u hu; simp at hu; subst hu; rfl) (by unfold maxLen; omega) (by omega) (by simp) ?_))
  intro v' w2 hown hgrow _
  obtain ⟨g, c, hv⟩ := ownsRow_succ hown
  have hv : v' = .slice (some ⟨g, 0, none⟩) 1 c := hv
  subst hv
  have hb : Below w.heap.size w w2 := ((Below.refl _ w).alloc (Nat.le_refl _) _).grown hgrow (by simp) (fun b hb => by have h : (Value.slice none 0 0).ownBlock = some b := hb; cases h)
  have hown' : w2.ownsRow w.heap.size 2 1 (.slice (some ⟨g, 0, none⟩) (0 + 1) c) (0 + 1) ((([] : List Int) ++ [77]).map (Value.int .i64)) := hown
  have HH : Hid (Held w w2 g c 0 []) := Lib.hid ⟨rfl, Dig.nil.allIn, hown', hb⟩
  have hgc := HH.out.cap
  have hgc1 : 0 ≤ c := by omega
  have hgc2 := hgc.2
  unfold maxLen at hgc2
  clear hown hgrow hb hown' hgc
  go_wp2_with fail
  go_loopw [4] (fun t wr => ∃ (k : Nat) (zs : List Int), t = .int .i64 k ∧ k ≤ 2 ∧ Hid (Held w wr g c 0 zs)) (fun t _ => 2 - (intOf t).toNat)
  case atStart => exact ⟨0, [], rfl, by omega, HH⟩
  case round =>
    obtain ⟨k, zs, rfl, hk, HZ⟩ := hrel
    obtain ⟨wo, rfl⟩ : ∃ wo : World, wo = wr := ⟨_, rfl⟩
    by_cases hlt : k < 2
    · have hx := HZ.out.ints
      obtain ⟨hcap, hcm⟩ := HZ.out.cap
      have hcm2 := hcm
      unfold maxLen at hcm2
      have hIA : IntsAt wo ⟨g, 0, none⟩ zs := by
        rcases hx.2.2.2.2 with ⟨h, _⟩ | ⟨x, h, h2⟩
        · cases h
        · cases h; exact h2
      have hzl := hx.1
      go_wp2_with (at_builtin; refine wpList_append_own _ rfl (.tmp 24) (.tmp 25) 27 rfl wo.heap.size 2 i0 (.int .i64 0) 1 8 Try.underlying27 hi hz0 hz1 hz2 rfl (by decide) _ _ _ rfl (World.ownsRow_nil _ _ _ _) ⟨g, 0, none⟩ 0 c (zs.map (Value.int .i64)) rfl (by simp [hzl]) (news_of hIA) (one_cell zs) (by unfold maxLen; omega) (by omega) (Nat.le_refl _) ?_; intro v5 w1 hown1 hgrow1 _)
      try simp only [List.nil_append, Nat.zero_add] at hown1
      obtain ⟨a5, c5, rfl⟩ := own_form hown1
      have hb1 : Below wo.heap.size wo w1 := (Below.refl _ wo).grown hgrow1 (Nat.le_refl _) (fun b hb => by have h : (Value.slice none 0 0).ownBlock = some b := hb; cases h)
      have HS := Lib.hid (ints_owned (l := zs) hx.2.2.2.1 hown1)
      have HA5 : Hid (∀ x, a5 = some x → wo.heap.size ≤ x.block) := Lib.hid fun x hx => (hown1.lt x.block (by rw [hx]; rfl)).1
      have HZ1 := Lib.hid (HZ.out.below hb1)
      have hgl := HZ.out.lt
      clear hown1 hgrow1 hb1 hx hIA
      go_wp2_with fail
      refine (sum_any HZ1.out.ints).mono ?_
      rintro e w' ⟨rfl, rfl⟩
      go_wp2_with fail
      refine (refsum_any HS.out (by omega)).mono ?_
      rintro e w2 ⟨rfl, hb2⟩
      have HZ2 := Lib.hid (HZ1.out.below hb2)
      have HS2 := Lib.hid (HS.out.below hb2 (Nat.le_refl _))
      clear hb2
      go_wp2_with fail
      refine (prod_any HZ2.out.ints).mono ?_
      rintro e w' ⟨rfl, rfl⟩
      go_wp2_with fail
      refine (refprod_any HS2.out).mono ?_
      rintro e w3 ⟨rfl, hb3⟩
      have HZ3 := Lib.hid (HZ2.out.below hb3)
      have HS3 := Lib.hid (HS2.out.below hb3 (Nat.le_refl _))
      clear hb3
      have m77 := HZ3.out.last
      go_wp2_with fail
      go_loopw [10] (fun i wr => ∃ (j : Nat) (ys : List Int), i = .int .i64 j ∧ j ≤ 0 ∧ Hid (Held w wr g c 0 ys) ∧ Hid (∀ q, j ≤ q → ys[q]? = zs[q]?) ∧ Hid (Ints wr a5 0 c5 zs)) (fun i _ => 0 - (intOf i).toNat)
      case atStart => exact ⟨0, zs, rfl, Nat.zero_le _, HZ3, Lib.hid fun _ _ => rfl, HS3⟩
      case round =>
        obtain ⟨j, ys, rfl, hj, HY, HE, HI⟩ := hrel
        clear m77
        have hjn : ¬ j < 0 := by omega
        go_wp2
        go_roundw
        case rel => exact ⟨k + 1, ys, by go_num, by omega, HY⟩
        case measure => simp [intOf]; omega
    · go_wp2
      go_ret
      exact ⟨rfl, HZ.out.2.2.2⟩


theorem laidOut : laidOutB Try.prog = true := by kernel_rfl
theorem bytes_i64 : Try.prog.bytesOf 2 = 8 := by kernel_rfl

theorem walk (a : Option Addr) (n cap : Nat) (l : List Int) (w : World) (hI : Ints w a n cap l) (hr : n * 8 ≤ 140737488351232) :
    Calls Try.prog 4 #[.slice a n cap] w fun e w' => e = .returned (.bool true) ∧ Below w.heap.size w w' := by
  have hI2 := hI
  obtain ⟨h1, h2, h3, h5, h4⟩ := hI
  rcases h4 with ⟨rfl, rfl, rfl⟩ | ⟨x, rfl, hx⟩
  · exact walk_none w
  · exact walk_some x n cap l w hI2 hx hr

/-- what the form hands over of a slice of ints -/
theorem ints_of_row {w : World} {x : Addr} {len cap : Nat} {zs : List Int} (hl : len ≤ cap) (hm : cap ≤ maxLen) (hz : zs.length = cap) (hc : ∀ i, i < zs.length → w.cell? (x.add i) = some (.int .i64 (zs.getD i 0))) (hw : ∀ n ∈ zs, (Lit.int .i64 n).wf = true) :
    Ints w (some x) len cap (zs.take len) := by
  refine ⟨by simp; omega, hl, hm, fun y hy => in_of_wf (hw y (List.mem_of_mem_take hy)), .inr ⟨x, rfl, fun i hi => ?_⟩⟩
  have hi2 : i < len := by simp at hi; omega
  rw [hc i (by omega)]
  rw [List.getD_eq_getElem?_getD, List.getElem?_eq_getElem (by omega)]
  simp

theorem lifted (os : Os) (started : os.Started) (H : Type) (enc : TypeId × Value → H) :
    ReturnsInHanded {} Try.checked os 4 .any (Rows.checkedListsSpec.pre6 enc Try.prog Try.f4 Rows.checkedListsRow.domain false) (Rows.checkedListsSpec.post enc Try.prog Try.f4 false true false false) := by
  refine returnsInHanded_of_change_sized (C := Try.checked) own started (by kernel_rfl) Try.func4
    (ChangeSpec.witness6 (enc := enc) (C := Try.checked) false ⟨#[], #[.slice none 0 0], []⟩ 8 (by kernel_rfl) (by kernel_rfl) (by kernel_rfl) (by kernel_rfl)) ?_
  intro W base args ds gs before hval0 hW hcnd hsz0 _
  have hsz : (DataW.weightsEach Try.prog (Try.f4.params.toList ++ Rows.checkedListsSpec.plain.varTypes Try.prog) (ds ++ gs)).all (· ≤ reachBytes) = true := hsz0
  clear hsz0 hcnd
  have hval : ∀ (j : Nat) t v, Try.f4.params[j]? = some t → args[j]? = some v → Value.okWide Try.prog W .any base t v := hval0
  have hW' := hW
  obtain ⟨p, q, hA0, hV, rfl, hfz, hnd⟩ := hW
  have hA : DataW.TrodAll enc Try.prog W 0 (fun _ => true) true Try.f4.params.toList args.toList ds p := hA0
  rw [Try.params4] at hA hval hsz
  obtain ⟨v0, vs0, d0, ds0, p0, q0, hargs, rfl, rfl, h0, r0⟩ := trodAll_cons hA
  obtain ⟨rfl, rfl, rfl⟩ := trodAll_nil r0
  obtain rfl : args = #[v0] := by cases args; simp_all
  obtain ⟨rfl, rfl⟩ := trodVars_none hV
  obtain ⟨a0, len0, cap0, rfl⟩ := okWide_slice Try.underlying27 (hval 0 27 v0 rfl rfl)
  have k0 := h0
  have lt0 : ∀ x ∈ p0, x.block < W.heap.size := by obtain ⟨m, hm⟩ := k0; exact DataW.trod_lt m _ _ _ hm
  obtain ⟨z0, w0, hr⟩ : ∃ l, Ints W a0 len0 cap0 l ∧ len0 * 8 ≤ 140737488351232 := by
    obtain ⟨fuel, hf⟩ := h0
    rcases open_ints Try.underlying27 Try.underlying2 (by kernel_rfl) hf with ⟨hcs, _⟩ | ⟨x, l, c, zs, hcs, _, hl, hm, hz, hx, hcell, hwz⟩
    · simp [Value.cells] at hcs
      obtain ⟨rfl, rfl, rfl⟩ := hcs
      exact ⟨[], ⟨rfl, Nat.le_refl _, Nat.zero_le _, Dig.nil.allIn, .inl ⟨rfl, rfl, rfl⟩⟩, Nat.zero_le _⟩
    · simp [Value.cells] at hcs
      obtain ⟨rfl, rfl, rfl⟩ := hcs
      have hz' : zs.length = cap0 := by simpa using hz
      refine ⟨_, ints_of_row hl hm hz' hcell hwz, ?_⟩
      simp only [Prod.mk.injEq] at hx
      obtain ⟨rfl, _⟩ := hx
      have := sized_slice hsz (j := 0) (t := 27) (e := 2) rfl rfl Try.underlying27
      rw [bytes_i64] at this
      simp only [lits, List.length_map, List.length_take, List.length_drop, reachBytes] at this
      omega
  clear hA0 hval0
  refine (walk a0 len0 cap0 z0 W w0 hr).mono fun e W' ⟨he, bel⟩ => ?_
  subst he
  exact ⟨_, rfl, _, _, _, [], _, [], hW', trodAll_mk1 (shut_bool Try.underlying4 _), (trodAll_cons_mk (Below.trod laidOut (by kernel_rfl) (of_decide_eq_true (by kernel_rfl)) k0 bel lt0) trodAll_mk0), rfl, bel.frame _, fun h => by cases h⟩

theorem over : Rows.checkedListsRow.holds Try.pinned (OpenSpec.ofChange Rows.checkedListsSpec) :=
  OpenClaim.holds_of_wide 4 Try.f4 rfl rfl rfl rfl rfl rfl rfl ⟨rfl, rfl, rfl, rfl, rfl⟩ rfl rfl rfl rfl rfl (by kernel_rfl) Try.func4 (by kernel_rfl)
    (of_decide_eq_true (by kernel_rfl)) (by unfold Func.isWrapper; first | (rw [if_pos (by decide +kernel)]; kernel_rfl) | (rw [if_neg (by decide +kernel)]; exact ⟨rfl, rfl⟩))
    (fun os started H enc _ => lifted os started H enc)

theorem proved : Rows.CheckedListsSaid := over
#print axioms proved
end Go.Proofs.Ytdckenkomjikbaa.checkedLists
