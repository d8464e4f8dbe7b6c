/- Queue: Each: a queue's items, one by one, as they were when the sequence began to be gone over. -/
import Derived.Test.YtpemdfdmnbhpjaaQuOpt
import Derived.Sort.CutIn
import Derived.ControlIn
set_option linter.all false
namespace Go.Proofs.Ytpemdfdmnbhpjaa
open Go.RowKit Go.Shelf
attribute [local go_sem] Oper.semAt_some
set_option maxRecDepth 100000
theorem qeach {w : World} {p : Option Addr} : Calls Try.prog 33 #[.pointer p] w fun e w' =>
    e = .returned (.func (.func 40) #[] #[.pointer (some ⟨w.heap.size, 0, none⟩)]) ∧ w' = w.alloc (.cells #[.pointer p] 23) := by
  go_enter Try.func33, Try.ntmps33
  go_wp2
  go_ret
  exact ⟨rfl, rfl⟩
def itemsO : Option Qs → List It
  | none => []
  | some s => s.l
/-- what stands between the rounds -/
structure Sq (B0 nb rb : Nat) (L : List It) (v0 : Value) (yv : Value) (W : World) : Prop where
  src : Src W nb 56 L v0 0 []
  rb : Boxed W rb 74 (.pointer (some ⟨nb, 0, none⟩))
  yb : Boxed W B0 73 yv
theorem Src.out {W W' : World} {g : Nat} {T : TypeId} {L : List It} {v0 : Value} {first : Nat} {rest : List Value} {Fy : List Nat} (h : Src W g T L v0 first rest) (ho : Out Fy W W') (hg : g ∉ Fy) (hp : ∀ pb n cap, v0 = .slice (some ⟨pb, 0, none⟩) n cap → pb ∉ Fy) : Src W' g T L v0 first rest :=
  ⟨h.cells.out ho hg, fun hl => by obtain ⟨pb, n, cap, cs, h1, h2⟩ := h.ring hl; exact ⟨pb, n, cap, cs, h1, h2.box.out ho hg, h2.pls.out ho (hp _ _ _ h1), h2.rg, h2.cap, h2.few⟩, h.few⟩
theorem boxed_out {W W' : World} {B : Nat} {t : TypeId} {v : Value} {Fy : List Nat} (h : Boxed W B t v) (ho : Out Fy W W') (hB : B ∉ Fy) : Boxed W' B t v := (ho.block B h.lt hB).trans h
theorem Lp.out {r : LoopState → Option Code → Loop} {b : Nat} {st : LoopState} {j : Option Code} {W W' : World} {Fy : List Nat} (h : Lp r b st j W) (ho : Out Fy W W') (h0 : b ∉ Fy) (h1 : b + 1 ∉ Fy) : Lp r b st j W' := ⟨(ho.block _ (some_lt h.rcd) h1).trans h.rcd, (ho.block _ (some_lt h.dfr) h0).trans h.dfr⟩
theorem src_laid {W : World} {nb pb : Nat} {L : List It} {cs : List Value} (h : Bk W nb 56 [.slice (some ⟨pb, 0, none⟩) L.length L.length, .int .i64 0, .int .i64 (L.length : Int)]) (k : Bk W pb 64 cs) (hc : cs.length = L.length * 2) (ht : cs.take (L.length * 2) = cellsQ L) (hf : L.length ≤ 8796093022207) :
    Src W nb 56 L (.slice (some ⟨pb, 0, none⟩) L.length L.length) 0 [] := by
  refine ⟨h, fun hl => ⟨pb, L.length, L.length, cs, rfl, h, k, Rg.laid (List.length_pos_iff.2 hl) (Nat.le_refl _) (by omega) ht, Nat.le_refl _, by omega⟩, by omega⟩
set_option maxHeartbeats 8000000 in
theorem each1q_in (m : Nat) (hm : 5 ≤ m) {W0 : World} {B qb : Nat} {p : Option Addr} {F : List Nat} {o : Option Qs} {caps : Array Value} (hq : QO W0 B p F o) (hf : lenO o ≤ 8796093022207) (hqb : Boxed W0 qb 23 (.pointer p)) (J Jx : List It → World → Prop) (Fy : List Nat)
    (hFy : ∀ b ∈ Fy, b < W0.heap.size) (hJ : ∀ pre A A', J pre A → Below W0.heap.size A A' → J pre A') (hJx : ∀ pre A A', Jx pre A → Below W0.heap.size A A' → Jx pre A')
    (hY : ∀ pre x W, pre ++ [x] <+: itemsO o → J pre W → Calls Try.prog 34 (#[.int .i64 x.1, .int .i64 x.2] ++ caps) W fun e W' => ∃ b : Bool, e = .returned (.bool b) ∧ Out Fy W W' ∧ (if b then J (pre ++ [x]) W' else Jx (pre ++ [x]) W'))
    (h0 : J [] W0) :
    CallsIn Fence.wide m Try.prog 40 #[.func (.func 34) #[] caps, .pointer (some ⟨qb, 0, none⟩)] W0 fun e W' => (∃ v, e = .returned v) ∧ (J (itemsO o) W' ∨ ∃ pre, pre <+: itemsO o ∧ Jx pre W') := by
  have h1 : 1 ≤ m := by omega
  obtain ⟨B0, hB0⟩ : ∃ B0, B0 = W0.heap.size := ⟨_, rfl⟩
  have HB0 := Lib.hid hB0
  have HJ := Lib.hid hJ
  have HJX := Lib.hid hJx
  have HY := Lib.hid hY
  have HFY := Lib.hid hFy
  obtain ⟨W1, hW1⟩ : ∃ W1, W1 = W0.alloc (.cells #[.func (.func 34) #[] caps] 73) := ⟨_, rfl⟩
  have hb1 : Below W0.heap.size W0 W1 := by rw [hW1]; exact (Below.refl _ W0).alloc (Nat.le_refl _) _
  have hy1 : Boxed W1 B0 73 (.func (.func 34) #[] caps) := by rw [hW1, hB0]; exact Boxed.new W0 _ _
  have hqb1 := boxed_below hqb hb1
  have HQ1 := Lib.hid (hq.below hb1)
  have HY1 := Lib.hid hy1
  have HB1 := Lib.hid hb1
  have HJ1 := Lib.hid (hJ _ _ _ h0 hb1)
  have HE1 := Lib.hid hW1.symm
  have d0 := hqb1.cell
  have HQB1 := Lib.hid hqb1
  clear hJ hJx hY hFy h0 hq hqb hb1 hy1 hqb1 hW1 hB0
  refine callsIn_of_wp_marks Try.func40 rfl trivial ?_ rfl
  simp only [Try.ntmps40, List.size_toArray, List.length_cons, List.length_nil, Nat.reduceAdd, Nat.reduceSub, Array.replicate_succ, Array.replicate_zero, List.push_toArray, List.append_toArray, List.nil_append, List.cons_append]
  rcases HQ1.out with ⟨rfl, rfl, rfl⟩ | ⟨g, G, s, rfl, rfl, rfl, hown⟩
  · gi_upto_region 1 with (fail)
    rw [← HB0.out, HE1.out]
    gi_wp2_with fail
    exact ⟨_, results_none rfl _ _ _, ⟨_, rfl⟩, .inl HJ1.out⟩
  · have HO := Lib.hid hown
    obtain ⟨a, n, cap, first, hb, hp, hg⟩ := hown.q.ring
    have hf' : s.l.length ≤ 8796093022207 := hf
    have c2 := hb.c 2 rfl
    have HLD := Lib.hid (fun (W : World) (hW : Below W1.heap.size W1 W) => laid_any ((hp.src hb).below hW) s.l.length (Nat.le_refl _) (by omega))
    have HBK := Lib.hid hb
    have HF := Lib.hid hf'
    clear hown hb hp hg hf hf'
    gi_upto_region 1 with (fail)
    rw [← HB0.out, HE1.out]
    gi_upto_region 2 with (fail)
    gi_cut [3] from 7 (fun s3 wx => ∃ (nb : Nat) (v0 : Value), s3 = .pointer (some ⟨nb, 0, none⟩) ∧ Hid (Src wx nb 56 s.l v0 0 []) ∧ Hid (Below W1.heap.size W1 wx) ∧ Hid (W1.heap.size ≤ nb ∧ ∀ pb n cap, v0 = .slice (some ⟨pb, 0, none⟩) n cap → W1.heap.size ≤ pb))
    case first =>
      have hq1 : qb ≠ W1.heap.size := Nat.ne_of_lt HQB1.out.lt
      have hg1 : g ≠ W1.heap.size := Nat.ne_of_lt HBK.out.lt
      refine wpIn_wide.2 ?_
      go_region_held3 (fun W => W.cell? ⟨qb, 0, none⟩ = some (.pointer (some ⟨g, 0, none⟩)) ∧ W.cell? ⟨g, 2, none⟩ = some (.int .i64 (s.l.length : Int)))
        (first | (refine ⟨?_, ?_⟩ <;> assumption) | (refine ⟨?_, ?_⟩ <;> (rw [World.cell?_setCell_other _ _ _ _ (by first | exact fun e => hq1 (congrArg Addr.block e).symm | exact fun e => hg1 (congrArg Addr.block e).symm), World.cell?_setCell_other _ _ _ _ (by first | exact fun e => hq1 (congrArg Addr.block e).symm | exact fun e => hg1 (congrArg Addr.block e).symm), World.cell?_setCell_other _ _ _ _ (by first | exact fun e => hq1 (congrArg Addr.block e).symm | exact fun e => hg1 (congrArg Addr.block e).symm)]; assumption)) | go_keep)
        (first | (go_at_call 26; first
          | (refine (HLD.out W1.drew (drew_below W1)).mono ?_; rintro e w3 ⟨pb, cs, rfl, hpb, hb3, hk3, hc3, ht3⟩; have hbe : Below W1.heap.size W1 w3 := (drew_below W1).trans (hb3.mono (Nat.le_refl _)); have d1 := (boxed_below HQB1.out hbe).cell; have d2 := (HBK.out.below hbe).c 2 rfl; have HBE := Lib.hid hbe; have HK3 := Lib.hid hk3; have HC3 := Lib.hid hc3; have HT3 := Lib.hid ht3; have HPB := Lib.hid (show W1.heap.size ≤ pb from hpb); clear hk3 hc3 ht3 hb3 hpb hbe)
          | (refine (HLD.out (W1.alloc (.cells #[.slice none 0 0, .int .i64 0, .int .i64 0] 56)).drew (((Below.refl _ W1).alloc (Nat.le_refl _) _).drew)).mono ?_; rintro e w3 ⟨pb, cs, rfl, hpb, hb3, hk3, hc3, ht3⟩; have hbe : Below W1.heap.size W1 w3 := (((Below.refl _ W1).alloc (Nat.le_refl _) _).drew).trans (hb3.mono (by show W1.heap.size ≤ (W1.alloc _).heap.size; rw [World.size_alloc]; omega)); have hnb : Bk w3 W1.heap.size 56 [.slice none 0 0, .int .i64 0, .int .i64 0] := ((Bk.new W1 _ _).below (drew_below _)).below hb3; have d1 := (boxed_below HQB1.out hbe).cell; have d2 := (HBK.out.below hbe).c 2 rfl; have n0 := hnb.c 0 rfl; have n1 := hnb.c 1 rfl; have n2 := hnb.c 2 rfl; have z0 := hnb.fz 0; have z1 := hnb.fz 1; have z2 := hnb.fz 2; have HNB := Lib.hid hnb; have HBE := Lib.hid hbe; have HK3 := Lib.hid hk3; have HC3 := Lib.hid hc3; have HT3 := Lib.hid ht3; have HPB := Lib.hid (show W1.heap.size + 1 ≤ pb by rw [← World.size_alloc W1 (.cells #[.slice none 0 0, .int .i64 0, .int .i64 0] 56)]; exact hpb); clear hk3 hc3 ht3 hb3 hpb hbe hnb)))
      · go_wp2_with fail
        go_meet
        have k := (Below.refl w3.heap.size w3).alloc (Nat.le_refl _) (.cells #[.slice (some ⟨pb, 0, none⟩) s.l.length s.l.length, .int .i64 0, .int .i64 (s.l.length : Int)] 56)
        exact ⟨_, _, rfl, Lib.hid (src_laid (Bk.new w3 _ _) (HK3.out.below k) HC3.out HT3.out HF.out), Lib.hid (HBE.out.trans (k.mono HBE.out.size)), Lib.hid ⟨HBE.out.size, fun pb' n' c' e => by cases e; exact HPB.out⟩⟩
      · go_wp2_with fail
        go_meet
        have hpb : pb ≠ W1.heap.size := by have := HPB.out; omega
        exact ⟨_, _, rfl, Lib.hid (src_laid (((HNB.out.set 0 _).set 1 _).set 2 _) (((HK3.out.other hpb 0 _).other hpb 1 _).other hpb 2 _) HC3.out HT3.out HF.out), Lib.hid (((HBE.out.setCell (p := ⟨W1.heap.size, 0, none⟩) (Nat.le_refl _) _).setCell (p := ⟨W1.heap.size, 1, none⟩) (Nat.le_refl _) _).setCell (p := ⟨W1.heap.size, 2, none⟩) (Nat.le_refl _) _), Lib.hid ⟨Nat.le_refl _, fun pb' n' c' e => by cases e; have := HPB.out; omega⟩⟩
    case rest =>
      obtain ⟨nb, v0, rfl, HSRC, HBW, HNEW⟩ := hcut
      clear HLD HBK c2 HO HQ1 d0 HF HQB1
      obtain ⟨rb, hrb⟩ : ∃ rb, rb = wc.heap.size := ⟨_, rfl⟩
      obtain ⟨w2, hw2⟩ : ∃ w2, w2 = wc.alloc (.cells #[.pointer (some ⟨nb, 0, none⟩)] 74) := ⟨_, rfl⟩
      have hb2 : Below wc.heap.size wc w2 := by rw [hw2]; exact (Below.refl _ wc).alloc (Nat.le_refl _) _
      have hbw2 : Below W1.heap.size W1 w2 := HBW.out.trans (hb2.mono HBW.out.size)
      have hz1 : W0.heap.size + 1 = W1.heap.size := by rw [← HE1.out, World.size_alloc]
      have hz2 : w2.heap.size = rb + 1 := by rw [hw2, World.size_alloc, hrb]
      have hrw : W1.heap.size ≤ rb := by rw [hrb]; exact HBW.out.size
      have HSEQ := Lib.hid (show Seq w2 rb nb 56 s.l v0 0 [] from ⟨by rw [hw2, hrb]; exact Boxed.new wc _ _, HSRC.out.below hb2⟩)
      have HYB := Lib.hid (boxed_below HY1.out hbw2)
      have HJ2 := Lib.hid (HJ.out _ _ _ HJ1.out (hbw2.mono (by omega)))
      have HE2 := Lib.hid hw2.symm
      have HRB := Lib.hid hrb
      have HZ1 := Lib.hid hz1
      have HZ2 := Lib.hid hz2
      have HRW := Lib.hid hrw
      clear hrb hw2 hb2 hbw2 hz1 hz2 hrw HSRC HBW HJ1 HY1 HB1 HE1
      gi_wp2_with fail
      refine ⟨trivial, ?_⟩
      refine (callsIn_wide.2 each_any).mono ?_
      rintro e w4 ⟨rfl, rfl⟩
      rw [HE2.out, ← HRB.out]
      gi_wp2_with fail
      have hB0z : B0 < W1.heap.size := by rw [HB0.out, ← HZ1.out]; omega
      have hny : ∀ b, W0.heap.size ≤ b → b ∉ Fy := fun b hb h => by have := HFY.out b h; omega
      have HNY := Lib.hid hny
      clear hny
      refine lp_range2 rfl h1 (gf := 41) (lb := #[.pointer (some ⟨rb, 0, none⟩)]) rfl trivial (enters_of Try.func41 (by kernel_rfl) rfl) ?_
      intro fn rc hfn hrc W3 hlp hb3 hz3
      refine CallsIn.mono (each1_any (m - 1) rb nb 56 s.l v0 0 [] (w2.heap.size + 1) (fun pre W => Lp rc w2.heap.size .ready none W ∧ Seq W rb nb 56 s.l v0 0 [] ∧ Boxed W B0 73 (.func (.func 34) #[] caps) ∧ J pre W ∧ w2.heap.size + 2 ≤ W.heap.size) (fun pre W => Lp rc w2.heap.size .done (some .ret) W ∧ Jx pre W) W3 (by omega) ?hS ?hJ ?hY ?h0) ?hfin
      case hS => exact fun pre A h => h.2.1
      case hJ =>
        rintro pre A B' ⟨a1, a2, a3, a4, a5⟩ hb
        exact ⟨a1.grown hb, ⟨boxed_below a2.box hb, a2.src.below hb⟩, boxed_below a3 hb, HJ.out _ _ _ a4 (hb.mono (by have := HZ1.out; have := HZ2.out; have := HRW.out; omega)), Nat.le_trans a5 hb.size⟩
      case h0 =>
        exact ⟨hlp, ⟨boxed_below HSEQ.out.box hb3, HSEQ.out.src.below hb3⟩, boxed_below HYB.out hb3, HJ.out _ _ _ HJ2.out (hb3.mono (by have := HZ1.out; have := HZ2.out; have := HRW.out; omega)), by rw [hz3]; exact Nat.le_refl _⟩
      case hfin =>
        rintro e W9 ⟨hv, ⟨a1, a2, a3, a4, a5⟩ | ⟨pre, hpre, a1, a2⟩⟩
        · refine ⟨hv, .inl ⟨a1, ?_⟩⟩
          have hp := a1.put (st' := .exhausted) (j' := none)
          refine ⟨by simp, .inl ⟨_, _, rfl, run_takeDeferred hp.dfr, ?_⟩⟩
          refine ⟨_, results_none rfl _ _ _, ⟨_, rfl⟩, .inl ?_⟩
          exact HJ.out _ _ _ a4 ((below_put (by have := HZ1.out; have := HZ2.out; have := HRW.out; omega) a1.rcd).trans (below_put (by have := HZ1.out; have := HZ2.out; have := HRW.out; omega) hp.dfr))
        · refine ⟨hv, .inr ⟨_, a1, wpIn_ret ?_⟩⟩
          have hp := a1.put (st' := .exhausted) (j' := some .ret)
          refine ⟨by simp, .inl ⟨_, _, rfl, run_takeDeferred hp.dfr, ?_⟩⟩
          refine ⟨_, results_none rfl _ _ _, ⟨_, rfl⟩, .inr ⟨pre, hpre, ?_⟩⟩
          exact HJX.out _ _ _ a2 ((below_put (by have := HZ1.out; have := HZ2.out; have := HRW.out; omega) a1.rcd).trans (below_put (by have := HZ1.out; have := HZ2.out; have := HRW.out; omega) hp.dfr))
      case hY =>
        rintro pre x W5 hpre ⟨a1, a2, a3, a4, a5⟩
        refine lp_yield2 hrc hfn a1 rfl ?_
        clear hrc hlp hb3 hz3
        obtain ⟨ib, hib⟩ : ∃ ib, ib = W5.heap.size := ⟨_, rfl⟩
        obtain ⟨W6, hW6⟩ : ∃ W6, W6 = W5.alloc (.cells #[.int .i64 x.1, .int .i64 x.2] 64) := ⟨_, rfl⟩
        have hba : Below W5.heap.size W5 W6 := by rw [hW6]; exact (Below.refl _ W5).alloc (Nat.le_refl _) _
        have HL6 := Lib.hid (a1.grown hba)
        have HS6 := Lib.hid (show Seq W6 rb nb 56 s.l v0 0 [] from ⟨boxed_below a2.box hba, a2.src.below hba⟩)
        have HY6 := Lib.hid (boxed_below a3 hba)
        have HJ6 := Lib.hid (HJ.out _ _ _ a4 (hba.mono (by have := HZ1.out; have := HZ2.out; have := HRW.out; omega)))
        have HI6 := Lib.hid (show Bk W6 ib 64 [.int .i64 x.1, .int .i64 x.2] by rw [hW6, hib]; exact Bk.new W5 _ _)
        have HZ6 := Lib.hid (show W6.heap.size = ib + 1 by rw [hW6, hib]; simp)
        have HIB := Lib.hid hib
        have HE6 := Lib.hid hW6.symm
        have HPRE := Lib.hid hpre
        have A5 := Lib.hid a5
        clear a1 a2 a3 a4 a5 hba hib hW6 hpre
        simp only [encQ]
        gi_wp2_with fail
        rw [HE6.out, ← HIB.out]
        refine ⟨HL6.out, ?_⟩
        obtain ⟨W7, hW7⟩ : ∃ W7, W7 = W6.putObj (w2.heap.size + 1) (.loop (rc .busy none)) := ⟨_, rfl⟩
        have hkc : KC W6 W7 := by rw [hW7]; exact KC.put _ HL6.out.rcd
        have hb7 : Below W0.heap.size W6 W7 := by rw [hW7]; exact below_put (by have := HZ1.out; have := HZ2.out; have := HRW.out; omega) HL6.out.rcd
        have HL7 : Hid (Lp rc w2.heap.size .busy none W7) := Lib.hid (by rw [hW7]; exact HL6.out.put)
        have HS7 := Lib.hid (show Seq W7 rb nb 56 s.l v0 0 [] from ⟨hkc.boxed HS6.out.box, hkc.src HS6.out.src⟩)
        have HY7 := Lib.hid (hkc.boxed HY6.out)
        have HJ7 := Lib.hid (HJ.out _ _ _ HJ6.out hb7)
        have hi7 := hkc.bk HI6.out
        have HZ7 := Lib.hid (show W7.heap.size = ib + 1 by rw [hW7, World.putObj_size, HZ6.out])
        have HE7 := Lib.hid hW7.symm
        rw [HE7.out]
        have d0 := HY7.out.cell
        have i0 := hi7.c 0 rfl
        have i1 := hi7.c 1 rfl
        clear hW7 hkc hb7 hi7
        gi_wp2_with fail
        refine ⟨trivial, fun _ => by omega, ?_⟩
        refine CallsIn.mono ((callsIn_wide.2 (HY.out pre x _ HPRE.out HJ7.out)).inRound _) ?_
        rintro e W8 ⟨b, rfl, hout, hj⟩
        have hlp8 : Lp rc w2.heap.size .busy none W8 := HL7.out.out hout (HNY.out _ (by have := HZ1.out; have := HZ2.out; have := HRW.out; omega)) (HNY.out _ (by have := HZ1.out; have := HZ2.out; have := HRW.out; omega))
        have HLP8 := Lib.hid hlp8
        have HO8 := Lib.hid hout
        have HJ8 := Lib.hid hj
        clear hlp8 hout hj d0 i0 i1
        cases b with
        | true =>
          gi_wp2_with fail
          refine ⟨HLP8.out, .inl ⟨rfl, HLP8.out.put, ?_, ?_, ?_, ?_⟩⟩
          · exact ⟨(KC.put _ HLP8.out.rcd).boxed (boxed_out HS7.out.box HO8.out (HNY.out _ (by have := HZ1.out; have := HRW.out; omega))), (KC.put _ HLP8.out.rcd).src (HS7.out.src.out HO8.out (HNY.out _ (by have := HZ1.out; have := HNEW.out.1; omega)) (fun pb n cap e => HNY.out _ (by have := HZ1.out; have := HNEW.out.2 pb n cap e; omega)))⟩
          · exact (KC.put _ HLP8.out.rcd).boxed (boxed_out HY7.out HO8.out (HNY.out _ (by have := HB0.out; omega)))
          · exact HJ.out _ _ _ HJ8.out (below_put (by have := HZ1.out; have := HZ2.out; have := HRW.out; omega) HLP8.out.rcd)
          · rw [World.putObj_size]
            have := HO8.out.size
            have := HZ7.out
            have := A5.out
            have := HIB.out
            omega
        | false =>
          gi_wp2_with fail
          refine ⟨HLP8.out, .inr ⟨rfl, HLP8.out.put, ?_⟩⟩
          exact HJX.out _ _ _ HJ8.out (below_put (by have := HZ1.out; have := HZ2.out; have := HRW.out; omega) HLP8.out.rcd)
theorem each1q_any {W0 : World} {B qb : Nat} {p : Option Addr} {F : List Nat} {o : Option Qs} {caps : Array Value} (hq : QO W0 B p F o) (hf : lenO o ≤ 8796093022207) (hqb : Boxed W0 qb 23 (.pointer p)) (J Jx : List It → World → Prop) (Fy : List Nat)
    (hFy : ∀ b ∈ Fy, b < W0.heap.size) (hJ : ∀ pre A A', J pre A → Below W0.heap.size A A' → J pre A') (hJx : ∀ pre A A', Jx pre A → Below W0.heap.size A A' → Jx pre A')
    (hY : ∀ pre x W, pre ++ [x] <+: itemsO o → J pre W → Calls Try.prog 34 (#[.int .i64 x.1, .int .i64 x.2] ++ caps) W fun e W' => ∃ b : Bool, e = .returned (.bool b) ∧ Out Fy W W' ∧ (if b then J (pre ++ [x]) W' else Jx (pre ++ [x]) W'))
    (h0 : J [] W0) :
    Calls Try.prog 40 #[.func (.func 34) #[] caps, .pointer (some ⟨qb, 0, none⟩)] W0 fun e W' => (∃ v, e = .returned v) ∧ (J (itemsO o) W' ∨ ∃ pre, pre <+: itemsO o ∧ Jx pre W') :=
  (callsIn_wide (n := 5)).1 (each1q_in 5 (Nat.le_refl _) hq hf hqb J Jx Fy hFy hJ hJx hY h0)
end Go.Proofs.Ytpemdfdmnbhpjaa
