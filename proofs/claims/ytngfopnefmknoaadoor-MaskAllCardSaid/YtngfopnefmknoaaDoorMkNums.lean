/- Masks: Numbers: all of a mask's numbers, in new memory. -/
import Derived.Test.YtngfopnefmknoaaDoorMkSelect
import Derived.Test.YtngfopnefmknoaaDoorMkRNums
set_option linter.all false
namespace Go.Proofs.YtngfopnefmknoaaDoor
open Go.RowKit Go.Shelf
attribute [local go_sem] Oper.semAt_some
set_option maxRecDepth 100000
/-- what stands between the rounds: the row, its box, the mask's box -/
structure Nu (P lb m : Nat) (l : List Nat) (F : List Nat) (v : Value) (W : World) : Prop where
  row : Ir W P F v (natI l)
  box : Boxed W lb 37 v
  cap : Boxed W (lb + 1) 23 (.int .u64 (m : Int))
  glob : GlobM W
theorem Nu.below {P lb m : Nat} {l : List Nat} {F : List Nat} {v : Value} {W W' : World} (h : Nu P lb m l F v W) (hb : Below W.heap.size W W') : Nu P lb m l F v W' :=
  ⟨h.row.below hb, boxed_below h.box hb, boxed_below h.cap hb, globM_below h.glob hb (Nat.le_refl _)⟩
theorem Nu.kc {P lb m : Nat} {l : List Nat} {F : List Nat} {v : Value} {W W' : World} (h : Nu P lb m l F v W) (hk : KC W W') (hg : GlobM W') : Nu P lb m l F v W' := by
  refine ⟨⟨⟨h.row.row.1, ?_⟩, h.row.fp⟩, hk _ _ _ _ h.box, hk _ _ _ _ h.cap, hg⟩
  rcases h.row.row.2 with hn | ⟨g, cap, cur, rfl, hb, hg, r⟩
  · exact .inl hn
  · exact .inr ⟨g, cap, cur, rfl, hb, hk _ _ _ _ hg, r⟩
theorem boxed_apart {w : World} {B b : Nat} {F : List Nat} {v u : Value} {l : List Int} {t : TypeId} (h : Ir w B F v l) (hb : Boxed w b t u) (ht : t ≠ 3) : b ∉ F := by
  intro hF
  obtain ⟨_, cur, hc⟩ := h.ty b hF
  have h2 : w.heap[b]? = some (.cells #[u] t (0, 0)) := hb
  rw [hc] at h2
  cases h2
  exact ht rfl
theorem boxed_out {W W' : World} {B : Nat} {t : TypeId} {v : Value} {Fy : List Nat} (h : Boxed W B t v) (ho : Out Fy W W') (hB : B ∉ Fy) : Boxed W' B t v := (ho.block B h.lt hB).trans h
theorem lp_out {r : LoopState → Option Code → Loop} {b : Nat} {st : LoopState} {j : Option Code} {W W' : World} {B : Nat} {F : List Nat} {v : Value} {l : List Int} (h : Lp r b st j W) (hi : Ir W B F v l) (ho : Out F W W') : Lp r b st j W' := by
  have h1 : b ∉ F := fun hF => by
    obtain ⟨_, cur, hc⟩ := hi.ty b hF
    have := h.dfr
    rw [hc] at this
    cases this
  have h2 : b + 1 ∉ F := fun hF => by
    obtain ⟨_, cur, hc⟩ := hi.ty (b + 1) hF
    have := h.rcd
    rw [hc] at this
    cases this
  exact ⟨(ho.block _ (some_lt h.rcd) h2).trans h.rcd, (ho.block _ (some_lt h.dfr) h1).trans h.dfr⟩
def NumP (m : Nat) (w : World) (e : Ending) (w' : World) : Prop := ∃ v F, e = .returned v ∧ Ir w' w.heap.size F v (natI (numsF m.testBit 64)) ∧ Below w.heap.size w w'
set_option maxHeartbeats 4000000 in
theorem nums_in (n : Nat) {m : Nat} (hm : Wd m) (w : World) (hG : GlobM w) (hn : 4 ≤ n) : CallsIn Fence.wide n Tryd.prog 29 #[.int .u64 (m : Int)] w (NumP m w) := by
  have h1 : 1 ≤ n := by omega
  obtain ⟨i0, hi, hzz, hzs, hzb⟩ := info_parts info_int
  obtain ⟨P, hP⟩ : ∃ P, P = w.heap.size := ⟨_, rfl⟩
  have HP := Lib.hid hP
  have HM := Lib.hid hm
  have HG := Lib.hid hG
  have HGL := Lib.hid (globM_lt hG)
  have hcle := cntF_le m.testBit 64
  have HC := Lib.hid (count_any hm w)
  obtain ⟨cc, hcc⟩ : ∃ cc, cc = cntF m.testBit 64 := ⟨_, rfl⟩
  rw [← hcc] at HC hcle
  clear hP hm hG hcc
  refine callsIn_of_wp_marks Tryd.func29 rfl trivial ?_ rfl
  simp only [Tryd.ntmps29, List.size_toArray, List.length_cons, List.length_nil, Nat.reduceAdd, Nat.reduceSub, Array.replicate_succ, Array.replicate_zero, List.push_toArray, List.append_toArray, List.nil_append, List.cons_append]
  gi_wp2_with fail
  refine ⟨trivial, ?_⟩
  refine (callsIn_wide.2 HC.out).mono ?_
  rintro e w0 ⟨rfl, rfl⟩
  gi_wp2_with (gi_at_make; refine wpListIn_make_own _ rfl (.const (.int .i64 0)) (.tmp 6) 37 rfl w.heap.size 3 i0 (.int .i64 0) 1 Tryd.underlying37 hi hzz hzs .i64 .i64 (cc : Int) cc rfl rfl rfl (by rw [hzb]; omega) (by unfold maxLen; omega) (Nat.le_refl _) ?_; intro w1 hown1 hg1; have HO1 := Lib.hid hown1; have HG1 := Lib.hid hg1; clear hown1 hg1)
  refine ⟨trivial, ?_⟩
  obtain ⟨lb, hlb⟩ : ∃ lb, lb = w1.heap.size := ⟨_, rfl⟩
  obtain ⟨w2, hw2⟩ : ∃ w2, w2 = w1.alloc (.cells #[.slice (some ⟨w.heap.size, 0, none⟩) 0 cc] 37) := ⟨_, rfl⟩
  have hbel1 : Below w.heap.size w w1 := (Below.refl _ w).grown HG1.out (Nat.le_refl _) (fun k e => by cases e)
  have hb2 : Below w1.heap.size w1 w2 := by rw [hw2]; exact (Below.refl _ w1).alloc (Nat.le_refl _) _
  have z2 : w2.heap.size = lb + 1 := by rw [hw2, hlb]; simp
  have hir : Ir w1 P [P] (.slice (some ⟨w.heap.size, 0, none⟩) 0 cc) [] := by rw [HP.out]; exact ⟨HO1.out, rfl⟩
  have hbx : Boxed w2 lb 37 (.slice (some ⟨w.heap.size, 0, none⟩) 0 cc) := by rw [hw2, hlb]; exact Boxed.new w1 _ _
  rw [← hw2]
  refine (callsIn_wide.2 (each_any m w2)).mono ?_
  rintro e w4 ⟨rfl, hw4⟩
  have hb4 : Below w2.heap.size w2 w4 := by rw [hw4]; exact (Below.refl _ w2).alloc (Nat.le_refl _) _
  have z4 : w4.heap.size = lb + 2 := by rw [hw4, World.size_alloc, z2]
  have hbel4 : Below w.heap.size w w4 := (hbel1.trans (hb2.mono hbel1.size)).trans (hb4.mono (Nat.le_trans hbel1.size hb2.size))
  have HNU := Lib.hid (show Nu P lb m [] [P] (.slice (some ⟨w.heap.size, 0, none⟩) 0 cc) w4 from ⟨(hir.below hb2).below hb4, boxed_below hbx hb4, by rw [hw4, ← z2]; exact Boxed.new w2 _ _, globM_below HG.out hbel4 (Nat.le_refl _)⟩)
  have HB4 := Lib.hid hbel4
  have HZ4 := Lib.hid z4
  have HLB := Lib.hid hlb
  have hPl : w.heap.size ≤ lb := by rw [hlb]; exact hbel1.size
  have HPL := Lib.hid hPl
  have HZ2 := Lib.hid z2
  clear hw4 hb4 z4 hbel4 hbx hir z2 hb2 hbel1 hw2 hlb HO1 HG1 HC HG hPl hi hzz hzs hzb
  gi_wp2_with fail
  rw [HZ2.out, ← HLB.out]
  refine lp_range2 rfl h1 (gf := 41) (lb := #[.pointer (some ⟨lb + 1, 0, none⟩)]) rfl trivial (enters_of Tryd.func41 (by kernel_rfl) rfl) ?_
  intro fn rc hfn hrc W1 hlp hb1 hz1
  refine CallsIn.mono (each1_any (n - 1) (lb + 1) m HM.out (w4.heap.size + 1)
    (fun l W => Lp rc w4.heap.size .ready none W ∧ (∃ v F, Nu P lb m l F v W) ∧ Below w.heap.size w W ∧ w4.heap.size + 2 ≤ W.heap.size)
    (fun _ _ => False)
    W1 (by omega) ?hS ?hY ?h0) ?hfin
  case hS => exact fun l A ⟨_, ⟨v, F, h⟩, _⟩ => ⟨h.cap, h.glob⟩
  case h0 => exact ⟨hlp, ⟨_, _, HNU.out.below hb1⟩, HB4.out.trans (hb1.mono HB4.out.size), by rw [hz1]; exact Nat.le_refl _⟩
  case hfin =>
    rintro e W9 ⟨hv, ⟨a1, ⟨v, F, a2⟩, a3, a4⟩ | ⟨x0, hx0, hx1, hf⟩⟩
    · refine ⟨hv, .inl ⟨a1, ?_⟩⟩
      have hp := a1.put (st' := .exhausted) (j' := none)
      obtain ⟨WA, hWA⟩ : ∃ WA, WA = W9.putObj (w4.heap.size + 1) (.loop (rc .exhausted none)) := ⟨_, rfl⟩
      have hbA : Below w.heap.size W9 WA := by rw [hWA]; exact below_put (by have := HZ4.out; have := HPL.out; omega) a1.rcd
      have hnu : Nu P lb m (numsF m.testBit 64) F v WA := by rw [hWA]; exact a2.kc (KC.put _ a1.rcd) (by rw [← hWA]; exact globM_below2 a2.glob HGL.out hbA)
      rw [← hWA] at hp ⊢
      have hbE : Below w.heap.size w (WA.putObj w4.heap.size (.deferred none)) := (a3.trans hbA).trans (below_put (by have := HZ4.out; have := HPL.out; omega) hp.dfr)
      have hir : Ir (WA.putObj w4.heap.size (.deferred none)) w.heap.size F v (natI (numsF m.testBit 64)) := by
        rw [← HP.out]
        refine hnu.row.keep fun b hb => World.putObj_heap_other ?_
        obtain ⟨_, cur, hc⟩ := hnu.row.ty b hb
        rintro rfl
        have := hp.dfr
        rw [hc] at this
        cases this
      have c0 := hnu.box.cell
      have HDA := Lib.hid hp.dfr
      have HBE := Lib.hid hbE
      have HIR := Lib.hid hir
      clear hp hWA hbA a1 a2 a3 a4 hnu hbE hir hlp hrc hb1 hz1
      gi_wp2_with fail
      refine ⟨by simp, .inl ⟨_, _, rfl, run_takeDeferred HDA.out, ?_⟩⟩
      refine ⟨v, ?_, v, F, rfl, HIR.out, HBE.out⟩
      simp [results, Tryd.f29, go_sem]
    · exact hf.elim
  case hY =>
    rintro x W2 hx64 hxb ⟨j1, ⟨v, F, j2⟩, j3, j4⟩
    refine lp_yield2 hrc hfn j1 rfl ?_
    clear hrc
    have HL2 := Lib.hid j1
    have HJ2 := Lib.hid j2
    have HB2 := Lib.hid j3
    have HS2 := Lib.hid j4
    have HX := Lib.hid (And.intro hx64 hxb)
    have hlen : (natI (numsF m.testBit x)).length ≤ 64 := by rw [List.length_map, nums_len]; have := cntF_le m.testBit x; omega
    have HLN := Lib.hid hlen
    clear j1 j2 j3 j4 hlp hb1 hz1 hx64 hxb hlen
    gi_wp2_with fail
    refine ⟨HL2.out, ?_⟩
    obtain ⟨W4, hW4⟩ : ∃ W4, W4 = W2.putObj (w4.heap.size + 1) (.loop (rc .busy none)) := ⟨_, rfl⟩
    have hp := HL2.out.put (st' := .busy) (j' := none)
    rw [← hW4] at hp
    have HL4 := Lib.hid hp
    have hb24 : Below w.heap.size W2 W4 := by rw [hW4]; exact below_put (by have := HZ4.out; have := HPL.out; omega) HL2.out.rcd
    have HJ4 := Lib.hid (show Nu P lb m (numsF m.testBit x) F v W4 by rw [hW4]; exact HJ2.out.kc (KC.put _ HL2.out.rcd) (by rw [← hW4]; exact globM_below2 HJ2.out.glob HGL.out hb24))
    have HBW := Lib.hid (HB2.out.trans hb24)
    have HS4 := Lib.hid (show w4.heap.size + 2 ≤ W4.heap.size by rw [hW4, World.putObj_size]; exact HS2.out)
    rw [← hW4]
    clear hp hW4 HL2 HJ2 HB2 hb24 HS2
    have c1 := HJ4.out.box.cell
    gi_wp2_with (gi_at_builtin; refine wpListIn_ir1 (w0 := W4) rfl (.tmp 11) (.tmp 13) rfl HJ4.out.row (x : Int) rfl rfl rfl (by have := HLN.out; omega) (by have := HP.out; have := HPL.out; have := HZ4.out; have := HS4.out; omega) ?_; intro v' G W5 k1 k2 k3; obtain ⟨sa, sn, sc, rfl⟩ : ∃ sa sn sc, v' = .slice sa sn sc := ⟨_, _, _, k1.slice.choose_spec.choose_spec⟩; have K := Lib.hid (And.intro k1 (And.intro k2 k3)); have d1 := (boxed_out HJ4.out.box k2 (boxed_apart HJ4.out.row HJ4.out.box (by decide))).cell; have d2 := (boxed_out HJ4.out.box k2 (boxed_apart HJ4.out.row HJ4.out.box (by decide))).frozen; clear k1 k2 k3 c1)
    obtain ⟨V, hV⟩ : ∃ V, V = W5.setCell ⟨lb, 0, none⟩ (.slice sa sn sc) := ⟨_, rfl⟩
    obtain ⟨k1, k2, k3⟩ := K.out
    have hbF : ∀ b ∈ F, w.heap.size ≤ b := fun b hb => by rw [← HP.out]; exact (HJ4.out.row.ty b hb).1
    have hb5 : Below w.heap.size W4 W5 := k2.toBelow HBW.out.size hbF
    have hl5 : Lp rc w4.heap.size .busy none W5 := lp_out HL4.out HJ4.out.row k2
    have hx5 := boxed_out HJ4.out.box k2 (boxed_apart HJ4.out.row HJ4.out.box (by decide))
    have hc5 := boxed_out HJ4.out.cap k2 (boxed_apart HJ4.out.row HJ4.out.cap (by decide))
    have hg5 : GlobM W5 := globM_below2 HJ4.out.glob HGL.out hb5
    have hl : Lp rc w4.heap.size .busy none V := by rw [hV]; exact hl5.other (by have := HZ4.out; omega) _
    have hsc : Below w.heap.size W5 V := by rw [hV]; exact (Below.refl _ W5).setCell (p := ⟨lb, 0, none⟩) (by show w.heap.size ≤ lb; exact HPL.out) _
    have hnu : Nu P lb m (numsF m.testBit (x + 1)) G (.slice sa sn sc) V := by
      refine ⟨?_, by rw [hV]; exact hx5.set _, by rw [hV]; exact boxed_other hc5 (by omega) _, globM_below2 hg5 HGL.out hsc⟩
      rw [nums_yes HX.out.2, natI_snoc]
      rw [hV]
      refine k1.keep fun b hb => heap_setCell_other W5 ⟨lb, 0, none⟩ b _ ?_
      show b ≠ lb
      rintro rfl
      exact boxed_apart k1 hx5 (by decide) hb
    rw [← hV]
    have hbV := (HBW.out.trans hb5).trans hsc
    have hbW := below_put (B := w.heap.size) (o' := .loop (rc .ready none)) (by have := HZ4.out; have := HPL.out; omega) hl.rcd
    refine ⟨hl, .inl ⟨rfl, hl.put, ⟨_, G, hnu.kc (KC.put _ hl.rcd) (globM_below2 hnu.glob HGL.out hbW)⟩, hbV.trans hbW, ?_⟩⟩
    rw [World.putObj_size, hV, World.size_setCell]
    exact Nat.le_trans HS4.out k2.size
theorem numbers_any {m : Nat} (hm : Wd m) (w : World) (hG : GlobM w) : Calls Tryd.prog 29 #[.int .u64 (m : Int)] w (NumP m w) :=
  (callsIn_wide (n := 4)).1 (nums_in 4 hm w hG (Nat.le_refl _))
end Go.Proofs.YtngfopnefmknoaaDoor
