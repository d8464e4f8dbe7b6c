/- WireRows. -/
import Derived.Test.YtloofajopgbfmaaWrStep
import Derived.Test.YtloofajopgbfmaaWrFixed
import Derived.Sort.CutIn
namespace Go.Proofs.Ytloofajopgbfmaa
set_option linter.all false
open Go.RowKit Go.Shelf
attribute [local go_sem] Oper.semAt_some
set_option maxRecDepth 100000
/-- how many messages the first range has seen -/
def Seen9 (most : Int) (k T : Nat) : Prop := (0 < most ∧ most < T ∧ (k : Int) = most) ∨ (¬ (0 < most ∧ most < T) ∧ k = T)
set_option maxHeartbeats 8000000 in
theorem wirerows_in (m : Nat) (a : Option Addr) (n cap : Nat) (l : List UInt8) (most : Int) (w : World) (hm : 5 ≤ m) (hmo : -9223372036854775808 ≤ most ∧ most ≤ 9223372036854775807) (ht : Txt w a n cap l) (hab : ∀ x : Addr, a = some x → x.block < w.heap.size) (hr : n ≤ 1048576) :
    CallsIn Fence.wide m Try.prog 4 #[.slice a n cap, .int .i64 most] w fun e W' => e = .returned (.bool true) ∧ Below w.heap.size w W' := by
  have h1 : 1 ≤ m := by omega
  have HT := Lib.hid ht
  clear ht
  refine callsIn_of_wp_marks Try.func4 rfl trivial ?_ rfl
  simp only [Try.ntmps4, List.size_toArray, List.length_cons, List.length_nil, Nat.reduceAdd, Nat.reduceSub, Array.replicate_succ, Array.replicate_zero, List.push_toArray, List.append_toArray, List.nil_append, List.cons_append]
  obtain ⟨w0, hw0⟩ : ∃ w0, w0 = w.alloc (.cells #[.int .i64 most] 3) := ⟨_, rfl⟩
  obtain ⟨w1, hw1⟩ : ∃ w1, w1 = w0.alloc (.cells #[.bool false] 4) := ⟨_, rfl⟩
  have z0 : w0.heap.size = w.heap.size + 1 := by rw [hw0]; simp
  have z1 : w1.heap.size = w.heap.size + 2 := by rw [hw1]; simp [z0]
  have hb1 : Below w.heap.size w w1 := by rw [hw1, hw0]; exact ((Below.refl _ w).alloc (Nat.le_refl _) _).alloc (by simp) _
  have bm1 : Boxed w1 w.heap.size 3 (.int .i64 most) := by rw [hw1, hw0]; exact (Boxed.new w _ _).alloc _
  have br1 : Boxed w1 (w.heap.size + 1) 4 (.bool false) := by rw [hw1, ← z0]; exact Boxed.new w0 _ _
  have hE1 : (w.alloc (.cells #[.int .i64 most] 3)).alloc (.cells #[.bool false] 4) = w1 := by rw [hw1, hw0]
  have HB1 := Lib.hid hb1
  have HM1 := Lib.hid bm1
  have HR1 := Lib.hid br1
  have HE1 := Lib.hid hE1
  have HZ1 := Lib.hid z1
  clear hb1 bm1 br1 hE1 z1 z0 hw0 hw1
  gi_wp2_with fail
  rw [HE1.out]
  refine ⟨trivial, ?_⟩
  refine (callsIn_wide.2 (lent_any a n cap l w1 (HT.out.below HB1.out (Nat.le_refl _)) (by omega))).mono ?_
  rintro e w2 ⟨g, c, rfl, hc, hg, hown, hb2⟩
  have HO2 := Lib.hid hown
  have HB2 := Lib.hid (HB1.out.trans (hb2.mono HB1.out.size))
  have HM2 := Lib.hid (boxed_below HM1.out hb2)
  have HR2 := Lib.hid (boxed_below HR1.out hb2)
  have hp2 : w.heap.size + 2 ≤ w2.heap.size := by rw [← HZ1.out]; exact hb2.size
  clear hown hb2 HM1 HR1 HB1
  obtain ⟨P, hP⟩ : ∃ P, P = w2.heap.size := ⟨_, rfl⟩
  have HPP := Lib.hid hP
  obtain ⟨Wa, hWa⟩ : ∃ Wa, Wa = w2.alloc (.cells #[.slice none 0 0] 51) := ⟨_, rfl⟩
  obtain ⟨Wb, hWb⟩ : ∃ Wb, Wb = Wa.alloc (.cells #[.slice none 0 0] 52) := ⟨_, rfl⟩
  obtain ⟨W3, hW3⟩ : ∃ W3, W3 = Wb.alloc (.cells #[.slice a n cap, .int .i64 0, .bool false] 40) := ⟨_, rfl⟩
  have za : Wa.heap.size = P + 1 := by rw [hWa]; simp [hP]
  have zb : Wb.heap.size = P + 2 := by rw [hWb, World.size_alloc, za]
  have hb3 : Below P w2 W3 := by rw [hW3, hWb, hWa, hP]; exact (((Below.refl _ w2).alloc (Nat.le_refl _) _).alloc (by simp) _).alloc (by simp; omega) _
  have hinv : RdI P w2 a n cap l 0 (l.length + 1) [] (.slice none 0 0) (.slice none 0 0) W3 := by
    refine ⟨RSt.start (HT.out.below (HB2.out.trans (hb3.mono (by rw [hP]; exact HB2.out.size))) (Nat.le_refl _)) (fun x e => by have := hab x e; omega) ?_, ?_, ?_, Wn.nil _ _, World.ownsRow_nil _ _ _ _, hb3, Nat.zero_le _, by rw [HT.out.1]; omega, rfl, Nat.le_refl _⟩
    · rw [hW3, ← zb]; exact Bk.new Wb _ _
    · rw [hW3, hWb, hWa, hP]; exact ((Boxed.new w2 _ _).alloc _).alloc _
    · rw [hW3, hWb, ← za]; exact (Boxed.new Wa _ _).alloc _
  have HI := Lib.hid hinv
  have hE3 : ((w2.alloc (.cells #[.slice none 0 0] 51)).alloc (.cells #[.slice none 0 0] 52)).alloc (.cells #[.slice a n cap, .int .i64 0, .bool false] 40) = W3 := by rw [hW3, hWb, hWa]
  have HE3 := Lib.hid hE3
  have HAB := Lib.hid hab
  clear hinv hb3 za zb hW3 hWb hWa hE3 hab hP
  gi_wp2_with fail
  rw [HE3.out]
  rw [← HPP.out]
  gi_loopw [] (fun wr => ∃ (k f : Nat) (acc : List X9) (vw vp : Value), Hid (RdI P w2 a n cap l k f acc vw vp wr)) (fun wr => n - offW (P + 2) wr)
  case atStart => exact ⟨0, l.length + 1, [], _, _, HI⟩
  case round =>
    obtain ⟨k, f, acc, vw, vp, HR⟩ := hrel
    clear HI
    have hoff := offW_at HR.out.st.at.1
    have hk := HR.out.kn
    have hcn := HR.out.cn
    have hfu := HR.out.fu
    have hwf : ∃ wa wq, vw = .slice wa acc.length wq := by
      have := own_slice HR.out.wn.row
      rw [List.length_map] at this
      exact this
    obtain ⟨wa, wq, rfl⟩ := hwf
    obtain ⟨pa, pc, rfl⟩ := own_slice HR.out.pn
    have hPlt : P + 2 < wr.heap.size := HR.out.st.lt
    cases hrd : rdM (l.drop k) with
    | none =>
      have HMC := Lib.hid (msg_none HR.out.st hrd)
      have hrows : rowsF l = acc.map strip9 := by rw [HR.out.sp, rdR_end hrd, List.append_nil]
      have HROWS := Lib.hid hrows
      have hac : acc.length ≤ 1048576 := by omega
      clear hrows hrd hoff hcn hfu hk
      gi_wp2_with fail
      refine ⟨trivial, ?_⟩
      refine (callsIn_wide.2 HMC.out).mono ?_
      rintro e w4 ⟨al, cp, rfl, hst, he⟩
      have HJ4 := Lib.hid (HR.out.j.eff HR.out.st.at.1 he)
      have HST4 := Lib.hid hst
      have hz4 := he.size
      clear hst he HMC
      obtain ⟨W5, hW5⟩ : ∃ W5, W5 = w4.alloc (.cells #[.int .i64 0, .string ⟨#[]⟩, .slice al 0 cp] 35) := ⟨_, rfl⟩
      have hba : Below w4.heap.size w4 W5 := by rw [hW5]; exact (Below.refl _ w4).alloc (Nat.le_refl _) _
      have HJ5 := Lib.hid (HJ4.out.below hba (by omega))
      have HEND := Lib.hid (end_none (HST4.out.below hba))
      have hz5 := hba.size
      have HW5 := Lib.hid hW5
      clear hba hW5 HJ4 HST4
      gi_wp2_with fail
      rw [← HW5.out]
      refine ⟨trivial, ?_⟩
      refine (callsIn_wide.2 HEND.out).mono ?_
      rintro e w5 ⟨rfl, rfl⟩
      clear HEND HR
      have hbel : Below w2.heap.size w2 W5 := by rw [← HPP.out]; exact HJ5.out.bel
      have htg : Txt W5 (some ⟨g, 0, none⟩) n c l := (txt_lent (own_keep9 HO2.out hbel)).1
      have HRW := Lib.hid (rows_any (some ⟨g, 0, none⟩) n c l W5 htg (by omega))
      unfold RowsP at HRW
      clear htg
      gi_wp2_with fail
      refine ⟨trivial, ?_⟩
      refine (callsIn_wide.2 HRW.out).mono ?_
      rintro e w7 ⟨Bn, a', c', rfl, hit, hbn, hb7⟩
      have HIT7 := Lib.hid hit
      have HJ7 := Lib.hid (HJ5.out.below hb7 (by omega))
      have hz7 := hb7.size
      have hnil : ∀ (bs : Array Value) (w' : World), (binOp BinOp.eql 54 (.func (.func 40) #[] bs) .nilFunc).run Try.prog w' = .ok (.bool false) w' := fun _ _ => rfl
      clear hit hb7 HJ5 HRW HW5 hbel
      obtain ⟨nb, hnb⟩ : ∃ nb, nb = w7.heap.size := ⟨_, rfl⟩
      obtain ⟨W8, hW8⟩ : ∃ W8, W8 = w7.alloc (.cells #[.int .i64 0] 3) := ⟨_, rfl⟩
      have hb8 : Below w7.heap.size w7 W8 := by rw [hW8]; exact (Below.refl _ w7).alloc (Nat.le_refl _) _
      have hz8 : W8.heap.size = nb + 1 := by rw [hW8, hnb]; simp
      have HZ8 := Lib.hid hz8
      have BN8 := Lib.hid (show Boxed W8 nb 3 (.int .i64 0) by rw [hW8, hnb]; exact Boxed.new w7 _ _)
      have HIT8 := Lib.hid (HIT7.out.below hb8)
      have HJ8 := Lib.hid (HJ7.out.below hb8 (by omega))
      have HNB := Lib.hid hnb
      have HE8 : Hid (w7.alloc (.cells #[.int .i64 0] 3) = W8) := Lib.hid hW8.symm
      have hBn : Bn < nb := by rw [hnb]; exact HIT7.out.1.lt
      have hPn : P + 2 < nb := by omega
      have H78 := Lib.hid hb8
      clear hb8 hz8 hW8 hnb
      gi_wp2_with fail
      rw [HE8.out, ← HNB.out]
      refine lp_block (fun W => ∃ kk : Nat, Seen9 most kk acc.length ∧ Boxed W nb 3 (.int .i64 kk) ∧ Below nb W8 W) rfl h1 (gf := 40) (lb := #[.pointer (some ⟨Bn, 0, none⟩)]) rfl trivial (enters_of Try.func40 (by kernel_rfl) rfl) ?hrest ?hfirst
      case hfirst =>
       intro fn rc hfn hrc W1 hlp hb1 hz1
       refine CallsIn.mono (rows1_any (m - 1) Bn a' n c' l (W8.heap.size + 1)
        (fun pre W => Lp rc W8.heap.size .ready none W ∧ (most ≤ 0 ∨ (pre.length : Int) < most) ∧ Boxed W nb 3 (.int .i64 pre.length) ∧ Below nb W8 W)
        (fun pre W => Lp rc W8.heap.size .done (some (.exit 2)) W ∧ (0 < pre.length ∧ (pre.length : Int) = most) ∧ Boxed W nb 3 (.int .i64 pre.length) ∧ Below nb W8 W)
        W1 (by omega) (HIT8.out.below hb1) ?hJ ?hY ?h0) ?hfin
       case hJ =>
         rintro pre A B ⟨j1, j2, j3, j4⟩ hb
         exact ⟨j1.grown hb, j2, boxed_below j3 hb, j4.trans (hb.mono (Nat.le_of_lt j3.lt))⟩
       case h0 => exact ⟨hlp, by simp; omega, boxed_below BN8.out hb1, hb1.mono (by rw [HZ8.out]; omega)⟩
       case hY =>
         rintro pre x W2 ⟨j1, j2, j3, j4⟩ hit hin hpre
         refine lp_yield2 hrc hfn j1 rfl ?_
         clear hrc
         have hpl : pre.length < acc.length := by
           have := hpre.length_le
           rw [HROWS.out] at this
           simp at this
           omega
         obtain ⟨⟨mm, ⟨al9, cp9⟩⟩, pl⟩ := x
         obtain ⟨⟨⟨mz, ⟨bl9, cq9⟩⟩, pz⟩, hz⟩ : ∃ z, acc[pre.length]? = some z := ⟨_, List.getElem?_eq_getElem hpl⟩
         have hzz : (mm, pl) = (mz, pz) := by
           obtain ⟨r, hr9⟩ := hpre
           rw [HROWS.out] at hr9
           have h9 := congrArg (fun l => l[pre.length]?) hr9
           have e1 : (acc.map strip9)[pre.length]? = some (mz, pz) := by rw [List.getElem?_map, hz]; rfl
           have e2 : ((pre.map strip9 ++ [(mm, pl)]) ++ r)[pre.length]? = some (mm, pl) := by simp
           simp only [strip9] at h9 e1 e2
           rw [e1] at h9
           exact Option.some.inj (e2.symm.trans h9)
         simp only [Prod.mk.injEq] at hzz
         obtain ⟨rfl, rfl⟩ := hzz
         obtain ⟨W3, hW3⟩ : ∃ W3, W3 = W2.alloc (.cells #[.int .i64 mm.id, .string ⟨mm.tag.toArray⟩, .slice al9 mm.vs.length cp9] 35) := ⟨_, rfl⟩
         have hba : Below W2.heap.size W2 W3 := by rw [hW3]; exact (Below.refl _ W2).alloc (Nat.le_refl _) _
         have HW3 := Lib.hid hW3
         have HL3 := Lib.hid (j1.grown hba)
         have HN3 := Lib.hid (boxed_below j3 hba)
         have HB3 := Lib.hid (j4.trans (hba.mono (Nat.le_of_lt j3.lt)))
         have HI3 := Lib.hid (hit.below hba)
         have HX3 := Lib.hid (show Bk W3 W2.heap.size 35 [.int .i64 mm.id, .string ⟨mm.tag.toArray⟩, .slice al9 mm.vs.length cp9] by rw [hW3]; exact Bk.new W2 _ _)
         have HIN := Lib.hid (show InX ((mm, (al9, cp9)), pl) W3 from ⟨own_keep9 hin.1 hba, hin.2⟩)
         have HPR := Lib.hid hpre
         have HZ := Lib.hid hz
         clear j1 j3 j4 hit hin hba hW3 hpre hz
         simp only [encX]
         gi_wp2_with fail
         rw [← HW3.out]
         refine ⟨HL3.out, ?_⟩
         obtain ⟨W4, hW4⟩ : ∃ W4, W4 = W3.putObj (W8.heap.size + 1) (.loop (rc .busy none)) := ⟨_, rfl⟩
         have hp4 : ∀ k, k ≠ W8.heap.size + 1 → W4.heap[k]? = W3.heap[k]? := fun k hk => by rw [hW4]; exact World.putObj_heap_other hk
         have hko : ∀ U, KO U W3 W4 := fun U b cs t fr _ h => by
           by_cases e : b = W8.heap.size + 1
           · subst e
             have h9 := HL3.out.rcd
             rw [h] at h9
             cases h9
           · exact (hp4 b e).trans h
         have hj3 := HJ7.out.below (H78.out.trans (by rw [← HNB.out]; exact HB3.out)) (by omega)
         have wb4 := boxed_ko hj3.wb (by decide) (hko 4)
         have pb4 := boxed_ko hj3.pb (by decide) (hko 4)
         have wn4 := hj3.wn.ko (by decide) (by decide) (hko 4)
         have pn4 := own_ko hj3.pn (by decide) (hko 4)
         have bx4 := HX3.out.ko (by decide) (hko 4)
         have n4 := boxed_ko HN3.out (by decide) (hko 4)
         have ro4 := own_ko HIN.out.1 (by decide) (hko 4)
         have hz1 : (acc.map fun x : X9 => x.1)[pre.length]? = some (mm, (bl9, cq9)) := by rw [List.getElem?_map, HZ.out]; rfl
         obtain ⟨gw, rfl, hgw, y0, y1, y2⟩ := wn4.at hz1
         have rw4 := wn4.each _ (List.mem_of_getElem? hz1)
         obtain ⟨gp, rfl, z0⟩ : ∃ gp : Nat, pa = some ⟨gp, 0, none⟩ ∧ W4.cell? ⟨gp, pre.length, none⟩ = some (.int .i64 pl) := by
           rcases pn4.2 with ⟨_, h0⟩ | ⟨g9, cap9, cur9, he9, _⟩
           · omega
           · simp only [Value.slice.injEq] at he9
             obtain ⟨rfl, _, _⟩ := he9
             have h9 := pn4.cells (g := g9) rfl pre.length (.int .i64 pl) (by rw [List.getElem?_map, HZ.out]; rfl)
             have hadd : (⟨g9, 0, none⟩ : Addr).add pre.length = ⟨g9, pre.length, none⟩ := by unfold Addr.add; split <;> simp_all
             rw [hadd] at h9
             exact ⟨g9, rfl, h9⟩
         have hoz : ∀ v ∈ mm.vs, OkZ v := fun v hv => .inl (HIN.out.2.vs.all v hv)
         have hfew := HIN.out.2.vs.few
         have HMS := Lib.hid (fun W (hW : Below W4.heap.size W4 W) => message_self mm al9 bl9 cp9 cq9 W hoz (Nat.le_trans hfew (by decide)) (own_keep9 ro4 hW) (own_keep9 rw4 hW))
         have HCC := Lib.hid (fun W (hW : Below W4.heap.size W4 W) => And.intro (old_cell9 hW n4.cell) (And.intro (old_cell9 hW wb4.cell) (And.intro (old_cell9 hW pb4.cell) (And.intro (old_cell9 hW (bx4.c 0 rfl)) (And.intro (old_cell9 hW (bx4.c 1 rfl)) (And.intro (old_cell9 hW (bx4.c 2 rfl)) (And.intro (old_cell9 hW y0) (And.intro (old_cell9 hW y1) (And.intro (old_cell9 hW y2) (old_cell9 hW z0))))))))))
         have HN4 := Lib.hid n4
         clear hko hj3 wb4 pb4 wn4 pn4 bx4 n4 ro4 hz1 y0 y1 y2 z0 rw4 hoz hfew hgw
         have HL4 := Lib.hid (show Lp rc W8.heap.size .busy none W4 by rw [hW4]; exact HL3.out.put)
         have HP4 := Lib.hid (show Below nb W3 W4 by rw [hW4]; exact below_put (by rw [HZ8.out]; omega) HL3.out.rcd)
         have m4 : Boxed W4 w.heap.size 3 (.int .i64 most) := by
           have hlt9 : w.heap.size < P := by rw [HPP.out]; omega
           have b7 : w7.heap[w.heap.size]? = w2.heap[w.heap.size]? := HJ7.out.bel.block _ hlt9
           have b8 : W8.heap[w.heap.size]? = w7.heap[w.heap.size]? := H78.out.block _ (by rw [← HNB.out]; omega)
           have b3 : W3.heap[w.heap.size]? = W8.heap[w.heap.size]? := HB3.out.block _ (by omega)
           have b4 : W4.heap[w.heap.size]? = W3.heap[w.heap.size]? := HP4.out.block _ (by omega)
           exact b4.trans (b3.trans (b8.trans (b7.trans HM2.out)))
         have HM4 := Lib.hid m4
         clear m4
         rw [← hW4]
         clear hW4
         gi_wp2_with fail
         have hcc := HCC.out
         have q1 : decide (acc.length ≤ pre.length) = false := decide_eq_false (by omega)
         have q2 : decide ((acc.length : Int) ≤ (pre.length : Int)) = false := decide_eq_false (by omega)
         obtain ⟨DV, hDV⟩ : ∃ DV : List (Nat × Value), DV = [(47, .int .i64 pre.length), (48, .slice (some ⟨gw, 0, none⟩) acc.length wq), (49, .int .i64 acc.length), (50, .bool false), (51, .bool false), (52, .agg #[.int .i64 mm.id, .string ⟨mm.tag.toArray⟩, .slice al9 mm.vs.length cp9]), (53, .slice (some ⟨gw, 0, none⟩) acc.length wq), (54, .int .i64 pre.length), (55, .pointer (some ⟨gw, pre.length * 3, none⟩)), (56, .agg #[.int .i64 mm.id, .string ⟨mm.tag.toArray⟩, .slice bl9 mm.vs.length cq9]), (57, .bool true), (58, .bool false), (59, .bool false), (60, .bool false), (61, .int .i64 pl), (62, .slice (some ⟨gp, 0, none⟩) acc.length pc), (63, .int .i64 pre.length), (64, .pointer (some ⟨gp, pre.length, none⟩)), (65, .int .i64 pl), (66, .bool false), (67, .bool false)] := ⟨_, rfl⟩
         have hnd : (DV.map (·.1)).Nodup := by
           rw [hDV]
           show ([47, 48, 49, 50, 51, 52, 53, 54, 55, 56, 57, 58, 59, 60, 61, 62, 63, 64, 65, 66, 67] : List Nat).Nodup
           decide
         refine frame_named ?_
         intro FR hFR
         simp only at hFR
         have s13 : FR.getD 13 undef = .pointer (some ⟨nb, 0, none⟩) := by rw [hFR]; rfl
         have s6 : FR.getD 6 undef = .pointer (some ⟨P, 0, none⟩) := by rw [hFR]; rfl
         refine region_fixed (by kernel_rfl) DV (fun W => Below W4.heap.size W4 W) (by rw [hDV]; rfl) hnd (drew_below W4) ?hup ?hop ?hend
         case hup =>
           intro i o ho
           rcases i with _ | _ | _ | _ | _ | _ | _ | _ | _ | _ | _ | _ | _ | _ | _ | _ | _ | _ | _ | _ | _ | i
           all_goals
             first
               | (obtain rfl := Option.some.inj ho; simp)
               | (exfalso; have h := (Array.getElem?_eq_some_iff.1 ho).1; simp at h; omega)
         case hop =>
           intro i o d v ho hdv L W hlen hf hdeps hC
           have e13 : (fillT FR DV L).getD 13 undef = .pointer (some ⟨nb, 0, none⟩) := by rw [fillT_other DV L FR 13 undef (by rw [hDV]; simp)]; rw [hFR]; rfl
           have e6 : (fillT FR DV L).getD 6 undef = .pointer (some ⟨P, 0, none⟩) := by rw [fillT_other DV L FR 6 undef (by rw [hDV]; simp)]; rw [hFR]; rfl
           have e7 : (fillT FR DV L).getD 7 undef = .pointer (some ⟨P + 1, 0, none⟩) := by rw [fillT_other DV L FR 7 undef (by rw [hDV]; simp)]; rw [hFR]; rfl
           have e14 : (fillT FR DV L).getD 14 undef = .pointer (some ⟨W2.heap.size, 0, none⟩) := by rw [fillT_other DV L FR 14 undef (by rw [hDV]; simp)]; rw [hFR]; rfl
           have e15 : (fillT FR DV L).getD 15 undef = .int .i64 pl := by rw [fillT_other DV L FR 15 undef (by rw [hDV]; simp)]; rw [hFR]; rfl
           have hsz : FR.size = 123 := by rw [hFR]; rfl
           obtain ⟨dn, dw, dp, x0, x1, x2, y0, y1, y2, z0⟩ := hcc W hC
           rcases i with _ | _ | _ | _ | _ | _ | _ | _ | _ | _ | _ | _ | _ | _ | _ | _ | _ | _ | _ | _ | _ | i
           · obtain rfl := Option.some.inj ho
             rw [hDV] at hdv
             obtain ⟨rfl, rfl⟩ := Prod.mk.inj (Option.some.inj hdv)
             refine ⟨rfl, ?_⟩
             clear hdv hdeps hf
             unfold Oper.wpIn
             refine ⟨fun f _ => trivial, ?_⟩
             unfold fillA
             generalize fillT FR DV L = TT at *
             go_simp
           · obtain rfl := Option.some.inj ho
             rw [hDV] at hdv
             obtain ⟨rfl, rfl⟩ := Prod.mk.inj (Option.some.inj hdv)
             refine ⟨rfl, ?_⟩
             clear hdv hdeps hf
             unfold Oper.wpIn
             refine ⟨fun f _ => trivial, ?_⟩
             unfold fillA
             generalize fillT FR DV L = TT at *
             go_simp
           · obtain rfl := Option.some.inj ho
             rw [hDV] at hdv
             obtain ⟨rfl, rfl⟩ := Prod.mk.inj (Option.some.inj hdv)
             have g1 : L[1]? = some true := hdeps ⟨1, .data⟩ (by simp) rfl
             have e48 : (fillT FR DV L).getD 48 undef = (.slice (some ⟨gw, 0, none⟩) acc.length wq) := fillT_at DV L FR 1 48 _ undef hnd (by rw [hDV]; rfl) g1 (by rw [hsz]; decide)
             refine ⟨rfl, ?_⟩
             clear hdv hdeps hf
             unfold Oper.wpIn
             refine ⟨fun f _ => trivial, ?_⟩
             unfold fillA
             generalize fillT FR DV L = TT at *
             go_simp
           · obtain rfl := Option.some.inj ho
             rw [hDV] at hdv
             obtain ⟨rfl, rfl⟩ := Prod.mk.inj (Option.some.inj hdv)
             have g0 : L[0]? = some true := hdeps ⟨0, .data⟩ (by simp) rfl
             have e47 : (fillT FR DV L).getD 47 undef = (.int .i64 pre.length) := fillT_at DV L FR 0 47 _ undef hnd (by rw [hDV]; rfl) g0 (by rw [hsz]; decide)
             have g2 : L[2]? = some true := hdeps ⟨2, .data⟩ (by simp) rfl
             have e49 : (fillT FR DV L).getD 49 undef = (.int .i64 acc.length) := fillT_at DV L FR 2 49 _ undef hnd (by rw [hDV]; rfl) g2 (by rw [hsz]; decide)
             refine ⟨rfl, ?_⟩
             clear hdv hdeps hf
             unfold Oper.wpIn
             refine ⟨fun f _ => trivial, ?_⟩
             unfold fillA
             generalize fillT FR DV L = TT at *
             go_simp
           · obtain rfl := Option.some.inj ho
             rw [hDV] at hdv
             obtain ⟨rfl, rfl⟩ := Prod.mk.inj (Option.some.inj hdv)
             have g3 : L[3]? = some true := hdeps ⟨3, .data⟩ (by simp) rfl
             have e50 : (fillT FR DV L).getD 50 undef = (.bool false) := fillT_at DV L FR 3 50 _ undef hnd (by rw [hDV]; rfl) g3 (by rw [hsz]; decide)
             refine ⟨rfl, ?_⟩
             clear hdv hdeps hf
             unfold Oper.wpIn
             refine ⟨fun f _ => trivial, ?_⟩
             unfold fillA
             generalize fillT FR DV L = TT at *
             go_simp
           · obtain rfl := Option.some.inj ho
             rw [hDV] at hdv
             obtain ⟨rfl, rfl⟩ := Prod.mk.inj (Option.some.inj hdv)
             have g4 : L[4]? = some true := hdeps ⟨4, .guard⟩ (by simp) rfl
             have e51 : (fillT FR DV L).getD 51 undef = (.bool false) := fillT_at DV L FR 4 51 _ undef hnd (by rw [hDV]; rfl) g4 (by rw [hsz]; decide)
             have y51 : (fillT FR DV L)[51]? = some (.bool false) := fillT_get hnd (by rw [hDV]; rfl) g4 (by rw [hsz]; decide)
             refine ⟨by simp [Region.wanted, yielded, y51], ?_⟩
             clear hdv hdeps hf
             unfold Oper.wpIn
             refine ⟨fun f _ => trivial, ?_⟩
             unfold fillA
             generalize fillT FR DV L = TT at *
             go_simp
           · obtain rfl := Option.some.inj ho
             rw [hDV] at hdv
             obtain ⟨rfl, rfl⟩ := Prod.mk.inj (Option.some.inj hdv)
             have g4 : L[4]? = some true := hdeps ⟨4, .guard⟩ (by simp) rfl
             have e51 : (fillT FR DV L).getD 51 undef = (.bool false) := fillT_at DV L FR 4 51 _ undef hnd (by rw [hDV]; rfl) g4 (by rw [hsz]; decide)
             have y51 : (fillT FR DV L)[51]? = some (.bool false) := fillT_get hnd (by rw [hDV]; rfl) g4 (by rw [hsz]; decide)
             refine ⟨by simp [Region.wanted, yielded, y51], ?_⟩
             clear hdv hdeps hf
             unfold Oper.wpIn
             refine ⟨fun f _ => trivial, ?_⟩
             unfold fillA
             generalize fillT FR DV L = TT at *
             go_simp
           · obtain rfl := Option.some.inj ho
             rw [hDV] at hdv
             obtain ⟨rfl, rfl⟩ := Prod.mk.inj (Option.some.inj hdv)
             have g4 : L[4]? = some true := hdeps ⟨4, .guard⟩ (by simp) rfl
             have e51 : (fillT FR DV L).getD 51 undef = (.bool false) := fillT_at DV L FR 4 51 _ undef hnd (by rw [hDV]; rfl) g4 (by rw [hsz]; decide)
             have y51 : (fillT FR DV L)[51]? = some (.bool false) := fillT_get hnd (by rw [hDV]; rfl) g4 (by rw [hsz]; decide)
             refine ⟨by simp [Region.wanted, yielded, y51], ?_⟩
             clear hdv hdeps hf
             unfold Oper.wpIn
             refine ⟨fun f _ => trivial, ?_⟩
             unfold fillA
             generalize fillT FR DV L = TT at *
             go_simp
           · obtain rfl := Option.some.inj ho
             rw [hDV] at hdv
             obtain ⟨rfl, rfl⟩ := Prod.mk.inj (Option.some.inj hdv)
             have g6 : L[6]? = some true := hdeps ⟨6, .data⟩ (by simp) rfl
             have e53 : (fillT FR DV L).getD 53 undef = (.slice (some ⟨gw, 0, none⟩) acc.length wq) := fillT_at DV L FR 6 53 _ undef hnd (by rw [hDV]; rfl) g6 (by rw [hsz]; decide)
             have g7 : L[7]? = some true := hdeps ⟨7, .data⟩ (by simp) rfl
             have e54 : (fillT FR DV L).getD 54 undef = (.int .i64 pre.length) := fillT_at DV L FR 7 54 _ undef hnd (by rw [hDV]; rfl) g7 (by rw [hsz]; decide)
             have g4 : L[4]? = some true := hdeps ⟨4, .guard⟩ (by simp) rfl
             have e51 : (fillT FR DV L).getD 51 undef = (.bool false) := fillT_at DV L FR 4 51 _ undef hnd (by rw [hDV]; rfl) g4 (by rw [hsz]; decide)
             have y51 : (fillT FR DV L)[51]? = some (.bool false) := fillT_get hnd (by rw [hDV]; rfl) g4 (by rw [hsz]; decide)
             refine ⟨by simp [Region.wanted, yielded, y51], ?_⟩
             clear hdv hdeps hf
             unfold Oper.wpIn
             refine ⟨fun f _ => trivial, ?_⟩
             unfold fillA
             generalize fillT FR DV L = TT at *
             go_simp
           · obtain rfl := Option.some.inj ho
             rw [hDV] at hdv
             obtain ⟨rfl, rfl⟩ := Prod.mk.inj (Option.some.inj hdv)
             have g8 : L[8]? = some true := hdeps ⟨8, .data⟩ (by simp) rfl
             have e55 : (fillT FR DV L).getD 55 undef = (.pointer (some ⟨gw, pre.length * 3, none⟩)) := fillT_at DV L FR 8 55 _ undef hnd (by rw [hDV]; rfl) g8 (by rw [hsz]; decide)
             have g4 : L[4]? = some true := hdeps ⟨4, .guard⟩ (by simp) rfl
             have e51 : (fillT FR DV L).getD 51 undef = (.bool false) := fillT_at DV L FR 4 51 _ undef hnd (by rw [hDV]; rfl) g4 (by rw [hsz]; decide)
             have y51 : (fillT FR DV L)[51]? = some (.bool false) := fillT_get hnd (by rw [hDV]; rfl) g4 (by rw [hsz]; decide)
             refine ⟨by simp [Region.wanted, yielded, y51], ?_⟩
             clear hdv hdeps hf
             unfold Oper.wpIn
             refine ⟨fun f _ => trivial, ?_⟩
             unfold fillA
             generalize fillT FR DV L = TT at *
             go_simp
           · obtain rfl := Option.some.inj ho
             rw [hDV] at hdv
             obtain ⟨rfl, rfl⟩ := Prod.mk.inj (Option.some.inj hdv)
             have g5 : L[5]? = some true := hdeps ⟨5, .data⟩ (by simp) rfl
             have e52 : (fillT FR DV L).getD 52 undef = (.agg #[.int .i64 mm.id, .string ⟨mm.tag.toArray⟩, .slice al9 mm.vs.length cp9]) := fillT_at DV L FR 5 52 _ undef hnd (by rw [hDV]; rfl) g5 (by rw [hsz]; decide)
             have g9 : L[9]? = some true := hdeps ⟨9, .data⟩ (by simp) rfl
             have e56 : (fillT FR DV L).getD 56 undef = (.agg #[.int .i64 mm.id, .string ⟨mm.tag.toArray⟩, .slice bl9 mm.vs.length cq9]) := fillT_at DV L FR 9 56 _ undef hnd (by rw [hDV]; rfl) g9 (by rw [hsz]; decide)
             have g4 : L[4]? = some true := hdeps ⟨4, .guard⟩ (by simp) rfl
             have e51 : (fillT FR DV L).getD 51 undef = (.bool false) := fillT_at DV L FR 4 51 _ undef hnd (by rw [hDV]; rfl) g4 (by rw [hsz]; decide)
             have y51 : (fillT FR DV L)[51]? = some (.bool false) := fillT_get hnd (by rw [hDV]; rfl) g4 (by rw [hsz]; decide)
             refine ⟨by simp [Region.wanted, yielded, y51], ?_⟩
             clear hdv hdeps hf
             unfold Oper.wpIn
             refine ⟨fun f _ => trivial, ?_⟩
             unfold fillA
             generalize fillT FR DV L = TT at *
             go_simp
             refine ⟨fun _ => by omega, (CallsIn.inRound _ (callsIn_wide.2 (HMS.out W hC))).mono ?_⟩
             rintro e w' ⟨rfl, hb9⟩
             exact ⟨rfl, hC.trans (hb9.mono hC.size)⟩
           · obtain rfl := Option.some.inj ho
             rw [hDV] at hdv
             obtain ⟨rfl, rfl⟩ := Prod.mk.inj (Option.some.inj hdv)
             have g10 : L[10]? = some true := hdeps ⟨10, .data⟩ (by simp) rfl
             have e57 : (fillT FR DV L).getD 57 undef = (.bool true) := fillT_at DV L FR 10 57 _ undef hnd (by rw [hDV]; rfl) g10 (by rw [hsz]; decide)
             have g4 : L[4]? = some true := hdeps ⟨4, .guard⟩ (by simp) rfl
             have e51 : (fillT FR DV L).getD 51 undef = (.bool false) := fillT_at DV L FR 4 51 _ undef hnd (by rw [hDV]; rfl) g4 (by rw [hsz]; decide)
             have y51 : (fillT FR DV L)[51]? = some (.bool false) := fillT_get hnd (by rw [hDV]; rfl) g4 (by rw [hsz]; decide)
             refine ⟨by simp [Region.wanted, yielded, y51], ?_⟩
             clear hdv hdeps hf
             unfold Oper.wpIn
             refine ⟨fun f _ => trivial, ?_⟩
             unfold fillA
             generalize fillT FR DV L = TT at *
             go_simp
           · obtain rfl := Option.some.inj ho
             rw [hDV] at hdv
             obtain ⟨rfl, rfl⟩ := Prod.mk.inj (Option.some.inj hdv)
             have g4 : L[4]? = some true := hdeps ⟨4, .data⟩ (by simp) rfl
             have e51 : (fillT FR DV L).getD 51 undef = (.bool false) := fillT_at DV L FR 4 51 _ undef hnd (by rw [hDV]; rfl) g4 (by rw [hsz]; decide)
             have g11 : L[11]? = some true := hdeps ⟨11, .data⟩ (by simp) rfl
             have e58 : (fillT FR DV L).getD 58 undef = (.bool false) := fillT_at DV L FR 11 58 _ undef hnd (by rw [hDV]; rfl) g11 (by rw [hsz]; decide)
             refine ⟨rfl, ?_⟩
             clear hdv hdeps hf
             unfold Oper.wpIn
             refine ⟨fun f _ => trivial, ?_⟩
             unfold fillA
             generalize fillT FR DV L = TT at *
             go_simp
           · obtain rfl := Option.some.inj ho
             rw [hDV] at hdv
             obtain ⟨rfl, rfl⟩ := Prod.mk.inj (Option.some.inj hdv)
             have g12 : L[12]? = some true := hdeps ⟨12, .data⟩ (by simp) rfl
             have e59 : (fillT FR DV L).getD 59 undef = (.bool false) := fillT_at DV L FR 12 59 _ undef hnd (by rw [hDV]; rfl) g12 (by rw [hsz]; decide)
             refine ⟨rfl, ?_⟩
             clear hdv hdeps hf
             unfold Oper.wpIn
             refine ⟨fun f _ => trivial, ?_⟩
             unfold fillA
             generalize fillT FR DV L = TT at *
             go_simp
           · obtain rfl := Option.some.inj ho
             rw [hDV] at hdv
             obtain ⟨rfl, rfl⟩ := Prod.mk.inj (Option.some.inj hdv)
             have g13 : L[13]? = some true := hdeps ⟨13, .guard⟩ (by simp) rfl
             have e60 : (fillT FR DV L).getD 60 undef = (.bool false) := fillT_at DV L FR 13 60 _ undef hnd (by rw [hDV]; rfl) g13 (by rw [hsz]; decide)
             have y60 : (fillT FR DV L)[60]? = some (.bool false) := fillT_get hnd (by rw [hDV]; rfl) g13 (by rw [hsz]; decide)
             refine ⟨by simp [Region.wanted, yielded, y60], ?_⟩
             clear hdv hdeps hf
             unfold Oper.wpIn
             refine ⟨fun f _ => trivial, ?_⟩
             unfold fillA
             generalize fillT FR DV L = TT at *
             go_simp
           · obtain rfl := Option.some.inj ho
             rw [hDV] at hdv
             obtain ⟨rfl, rfl⟩ := Prod.mk.inj (Option.some.inj hdv)
             have g13 : L[13]? = some true := hdeps ⟨13, .guard⟩ (by simp) rfl
             have e60 : (fillT FR DV L).getD 60 undef = (.bool false) := fillT_at DV L FR 13 60 _ undef hnd (by rw [hDV]; rfl) g13 (by rw [hsz]; decide)
             have y60 : (fillT FR DV L)[60]? = some (.bool false) := fillT_get hnd (by rw [hDV]; rfl) g13 (by rw [hsz]; decide)
             refine ⟨by simp [Region.wanted, yielded, y60], ?_⟩
             clear hdv hdeps hf
             unfold Oper.wpIn
             refine ⟨fun f _ => trivial, ?_⟩
             unfold fillA
             generalize fillT FR DV L = TT at *
             go_simp
           · obtain rfl := Option.some.inj ho
             rw [hDV] at hdv
             obtain ⟨rfl, rfl⟩ := Prod.mk.inj (Option.some.inj hdv)
             have g13 : L[13]? = some true := hdeps ⟨13, .guard⟩ (by simp) rfl
             have e60 : (fillT FR DV L).getD 60 undef = (.bool false) := fillT_at DV L FR 13 60 _ undef hnd (by rw [hDV]; rfl) g13 (by rw [hsz]; decide)
             have y60 : (fillT FR DV L)[60]? = some (.bool false) := fillT_get hnd (by rw [hDV]; rfl) g13 (by rw [hsz]; decide)
             refine ⟨by simp [Region.wanted, yielded, y60], ?_⟩
             clear hdv hdeps hf
             unfold Oper.wpIn
             refine ⟨fun f _ => trivial, ?_⟩
             unfold fillA
             generalize fillT FR DV L = TT at *
             go_simp
           · obtain rfl := Option.some.inj ho
             rw [hDV] at hdv
             obtain ⟨rfl, rfl⟩ := Prod.mk.inj (Option.some.inj hdv)
             have g15 : L[15]? = some true := hdeps ⟨15, .data⟩ (by simp) rfl
             have e62 : (fillT FR DV L).getD 62 undef = (.slice (some ⟨gp, 0, none⟩) acc.length pc) := fillT_at DV L FR 15 62 _ undef hnd (by rw [hDV]; rfl) g15 (by rw [hsz]; decide)
             have g16 : L[16]? = some true := hdeps ⟨16, .data⟩ (by simp) rfl
             have e63 : (fillT FR DV L).getD 63 undef = (.int .i64 pre.length) := fillT_at DV L FR 16 63 _ undef hnd (by rw [hDV]; rfl) g16 (by rw [hsz]; decide)
             have g13 : L[13]? = some true := hdeps ⟨13, .guard⟩ (by simp) rfl
             have e60 : (fillT FR DV L).getD 60 undef = (.bool false) := fillT_at DV L FR 13 60 _ undef hnd (by rw [hDV]; rfl) g13 (by rw [hsz]; decide)
             have y60 : (fillT FR DV L)[60]? = some (.bool false) := fillT_get hnd (by rw [hDV]; rfl) g13 (by rw [hsz]; decide)
             refine ⟨by simp [Region.wanted, yielded, y60], ?_⟩
             clear hdv hdeps hf
             unfold Oper.wpIn
             refine ⟨fun f _ => trivial, ?_⟩
             unfold fillA
             generalize fillT FR DV L = TT at *
             go_simp
           · obtain rfl := Option.some.inj ho
             rw [hDV] at hdv
             obtain ⟨rfl, rfl⟩ := Prod.mk.inj (Option.some.inj hdv)
             have g17 : L[17]? = some true := hdeps ⟨17, .data⟩ (by simp) rfl
             have e64 : (fillT FR DV L).getD 64 undef = (.pointer (some ⟨gp, pre.length, none⟩)) := fillT_at DV L FR 17 64 _ undef hnd (by rw [hDV]; rfl) g17 (by rw [hsz]; decide)
             have g13 : L[13]? = some true := hdeps ⟨13, .guard⟩ (by simp) rfl
             have e60 : (fillT FR DV L).getD 60 undef = (.bool false) := fillT_at DV L FR 13 60 _ undef hnd (by rw [hDV]; rfl) g13 (by rw [hsz]; decide)
             have y60 : (fillT FR DV L)[60]? = some (.bool false) := fillT_get hnd (by rw [hDV]; rfl) g13 (by rw [hsz]; decide)
             refine ⟨by simp [Region.wanted, yielded, y60], ?_⟩
             clear hdv hdeps hf
             unfold Oper.wpIn
             refine ⟨fun f _ => trivial, ?_⟩
             unfold fillA
             generalize fillT FR DV L = TT at *
             go_simp
           · obtain rfl := Option.some.inj ho
             rw [hDV] at hdv
             obtain ⟨rfl, rfl⟩ := Prod.mk.inj (Option.some.inj hdv)
             have g14 : L[14]? = some true := hdeps ⟨14, .data⟩ (by simp) rfl
             have e61 : (fillT FR DV L).getD 61 undef = (.int .i64 pl) := fillT_at DV L FR 14 61 _ undef hnd (by rw [hDV]; rfl) g14 (by rw [hsz]; decide)
             have g18 : L[18]? = some true := hdeps ⟨18, .data⟩ (by simp) rfl
             have e65 : (fillT FR DV L).getD 65 undef = (.int .i64 pl) := fillT_at DV L FR 18 65 _ undef hnd (by rw [hDV]; rfl) g18 (by rw [hsz]; decide)
             have g13 : L[13]? = some true := hdeps ⟨13, .guard⟩ (by simp) rfl
             have e60 : (fillT FR DV L).getD 60 undef = (.bool false) := fillT_at DV L FR 13 60 _ undef hnd (by rw [hDV]; rfl) g13 (by rw [hsz]; decide)
             have y60 : (fillT FR DV L)[60]? = some (.bool false) := fillT_get hnd (by rw [hDV]; rfl) g13 (by rw [hsz]; decide)
             refine ⟨by simp [Region.wanted, yielded, y60], ?_⟩
             clear hdv hdeps hf
             unfold Oper.wpIn
             refine ⟨fun f _ => trivial, ?_⟩
             unfold fillA
             generalize fillT FR DV L = TT at *
             go_simp
           · obtain rfl := Option.some.inj ho
             rw [hDV] at hdv
             obtain ⟨rfl, rfl⟩ := Prod.mk.inj (Option.some.inj hdv)
             have g13 : L[13]? = some true := hdeps ⟨13, .data⟩ (by simp) rfl
             have e60 : (fillT FR DV L).getD 60 undef = (.bool false) := fillT_at DV L FR 13 60 _ undef hnd (by rw [hDV]; rfl) g13 (by rw [hsz]; decide)
             have g19 : L[19]? = some true := hdeps ⟨19, .data⟩ (by simp) rfl
             have e66 : (fillT FR DV L).getD 66 undef = (.bool false) := fillT_at DV L FR 19 66 _ undef hnd (by rw [hDV]; rfl) g19 (by rw [hsz]; decide)
             refine ⟨rfl, ?_⟩
             clear hdv hdeps hf
             unfold Oper.wpIn
             refine ⟨fun f _ => trivial, ?_⟩
             unfold fillA
             generalize fillT FR DV L = TT at *
             go_simp
           · exfalso
             have h := (Array.getElem?_eq_some_iff.1 ho).1
             simp at h
             omega
         case hend =>
           intro W5 hC5
           have hfin : fillA { tmps := FR, defers := [] } DV (List.replicate 21 true) = fillA { tmps := FR, defers := [] } DV [true, true, true, true, true, true, true, true, true, true, true, true, true, true, true, true, true, true, true, true, true] := rfl
           rw [show ∀ k, k = 21 → fillA { tmps := FR, defers := [] } DV (List.replicate k true) = fillA { tmps := FR, defers := [] } DV (List.replicate 21 true) from fun k hk => by rw [hk]]
           · rw [hfin, hDV, hFR]
             simp only [fillA, fillT, if_true, List.setIfInBounds_toArray, List.set_cons_succ, List.set_cons_zero]
             have dn5 := (boxed_below HN4.out hC5).cell
             have fn5 := (boxed_below HN4.out hC5).frozen
             have dm5 := (boxed_below HM4.out hC5).cell
             have hlx : ((pre ++ [((mm, (al9, cp9)), pl)]).length : Int) = (pre.length : Int) + 1 := by simp
             have HLX := Lib.hid hlx
             have HC5 := Lib.hid hC5
             have hfinal : ∀ st j, Lp rc W8.heap.size .busy none (W5.setCell ⟨nb, 0, none⟩ (.int .i64 ((pre.length : Int) + 1))) ∧ Lp rc W8.heap.size st j ((W5.setCell ⟨nb, 0, none⟩ (.int .i64 ((pre.length : Int) + 1))).putObj (W8.heap.size + 1) (.loop (rc st j))) ∧ Boxed ((W5.setCell ⟨nb, 0, none⟩ (.int .i64 ((pre.length : Int) + 1))).putObj (W8.heap.size + 1) (.loop (rc st j))) nb 3 (.int .i64 ((pre.length : Int) + 1)) ∧ Below nb W8 ((W5.setCell ⟨nb, 0, none⟩ (.int .i64 ((pre.length : Int) + 1))).putObj (W8.heap.size + 1) (.loop (rc st j))) := fun st j => by
               have l5 := HL4.out.grown hC5
               have l6 : Lp rc W8.heap.size .busy none (W5.setCell ⟨nb, 0, none⟩ (.int .i64 ((pre.length : Int) + 1))) := l5.keep ((KeepsOthers.setCell _ _ _).from _)
               have n6 := (boxed_below HN4.out hC5).set (.int .i64 ((pre.length : Int) + 1))
               have hne : nb ≠ W8.heap.size + 1 := by rw [HZ8.out]; omega
               refine ⟨l6, l6.put, (World.putObj_heap_other hne).trans n6, ?_⟩
               exact ((HB3.out.trans (HP4.out.trans (hC5.mono (Nat.le_of_lt HN4.out.lt)))).setCell (p := ⟨nb, 0, none⟩) (Nat.le_refl _) _).trans (below_put (by rw [HZ8.out]; omega) l6.rcd)
             have HF := Lib.hid hfinal
             have hwn : w.heap.size < nb := by
               have h9 : w.heap.size + 2 ≤ P := by rw [HPP.out]; exact hp2
               omega
             have hww : IntKind.i64.wrap ((pre.length : Int) + 1) = (pre.length : Int) + 1 := by rw [IntKind.wrap_i64]; omega
             clear hlx hC5 hfinal hfin hFR hcc hnd
             by_cases hmx : ((pre.length : Int) + 1) = most
             · have tmx : (((pre.length : Int) + 1) == most) = true := by simpa using hmx
               have HMX := Lib.hid hmx
               clear hmx
               gi_wp2_with fail
               obtain ⟨f1, f2, f3, f4⟩ := HF.out .done (some (.exit 2))
               exact ⟨f1, .inr ⟨rfl, f2, ⟨by simp, by rw [HLX.out]; exact HMX.out⟩, by rw [HLX.out]; exact f3, f4⟩⟩
             · have tmx : (((pre.length : Int) + 1) == most) = false := by simpa using hmx
               have HMX := Lib.hid hmx
               clear hmx
               gi_wp2_with fail
               obtain ⟨f1, f2, f3, f4⟩ := HF.out .ready none
               refine ⟨f1, .inl ⟨rfl, ⟨f2, ?_, by rw [HLX.out]; exact f3, f4⟩, HIT7.out.below (H78.out.trans (by rw [← HNB.out]; exact f4))⟩⟩
               rw [HLX.out]
               have := HMX.out
               omega
           · rfl
       case hfin =>
        rintro e W9 ⟨hv, hways⟩
        refine ⟨hv, ?_⟩
        rcases hways with ⟨xs, hxs, j1, j2, j3, j4⟩ | ⟨pre, hpre, j1, ⟨j0, j2⟩, j3, j4⟩
        · have hl : xs.length = acc.length := by
            have := congrArg List.length (hxs.trans HROWS.out)
            simpa using this
          exact .inl ⟨j1, xs.length, .inr ⟨by omega, hl⟩, j3, j4⟩
        · have hl : pre.length ≤ acc.length := by
            have := hpre.length_le
            rw [HROWS.out] at this
            simpa using this
          refine .inr ⟨j1, pre.length, ?_, j3, j4⟩
          rcases Nat.lt_or_ge pre.length acc.length with h | h
          · exact .inl ⟨by omega, by omega, j2⟩
          · exact .inr ⟨by omega, by omega⟩
      case hrest =>
        rintro W9 rc st j hlp ⟨kk, hseen, hn9, hb9⟩
        obtain ⟨W10, hW10⟩ : ∃ W10, W10 = W9.putObj (W8.heap.size + 1) (.loop (rc .exhausted j)) := ⟨_, rfl⟩
        have hb10 : Below nb W8 W10 := by rw [hW10]; exact hb9.trans (below_put (by rw [HZ8.out]; omega) hlp.rcd)
        have hn10 : Boxed W10 nb 3 (.int .i64 kk) := by rw [hW10]; exact (World.putObj_heap_other (by rw [HZ8.out]; omega)).trans hn9
        have hl10 : W10.heap[W8.heap.size]? = some (.deferred (some [])) := by rw [hW10]; exact hlp.put.dfr
        have hb710 : Below w7.heap.size w7 W10 := H78.out.trans (by rw [← HNB.out]; exact hb10)
        have HB10 := Lib.hid hb710
        have HN10 := Lib.hid hn10
        have HL10 := Lib.hid hl10
        have HJ10 := Lib.hid (HJ7.out.below hb710 (by omega))
        have HIT10 := Lib.hid (HIT7.out.below hb710)
        have hlt9 : w.heap.size + 2 ≤ P := by rw [HPP.out]; exact hp2
        have m10 : Boxed W10 w.heap.size 3 (.int .i64 most) := by
          have b7 : w7.heap[w.heap.size]? = w2.heap[w.heap.size]? := HJ7.out.bel.block _ (by omega)
          have b10 : W10.heap[w.heap.size]? = w7.heap[w.heap.size]? := hb710.block _ (by rw [← HNB.out]; omega)
          exact b10.trans (b7.trans HM2.out)
        have r10 : Boxed W10 (w.heap.size + 1) 4 (.bool false) := by
          have b7 : w7.heap[w.heap.size + 1]? = w2.heap[w.heap.size + 1]? := HJ7.out.bel.block _ (by omega)
          have b10 : W10.heap[w.heap.size + 1]? = w7.heap[w.heap.size + 1]? := hb710.block _ (by rw [← HNB.out]; omega)
          exact b10.trans (b7.trans HR2.out)
        have HM10 := Lib.hid m10
        have HR10 := Lib.hid r10
        have hzz : nb + 2 < W10.heap.size := by
          have h1 := some_lt (hlp.put (st' := .exhausted) (j' := j)).rcd
          rw [← hW10, HZ8.out] at h1
          omega
        have HZZ := Lib.hid hzz
        have HSEEN := Lib.hid hseen
        have HLT9 := Lib.hid hlt9
        rw [← hW10]
        have dm := m10.cell
        have dn := hn10.cell
        have fn10 := hn10.frozen
        have dw := HJ10.out.wb.cell
        clear hW10 hb10 hn10 hl10 hb710 hlt9 m10 r10 hzz hlp hb9 hn9 hseen
        have hsz : W10.heap.size ≠ 0 := by have := HZZ.out; omega
        dsimp only
        gi_step
        gi_step
        gi_cut [] from 70 (fun wx => wx = W10)
        case first =>
          have HS := HSEEN.out
          unfold Seen9 at HS
          have HZ0 := Lib.hid hsz
          clear hsz
          rcases HS with ⟨a1, a2, a3⟩ | ⟨b1, b2⟩
          · have t1 : decide (0 < most) = true := decide_eq_true a1
            have t2 : decide (most < (acc.length : Int)) = true := decide_eq_true a2
            have t3 : ((kk : Int) == most) = true := by simpa using a3
            clear a1 a2 a3
            gi_wp2_with fail
            gi_meet
            exact rfl
          · by_cases c1 : 0 < most
            · have t1 : decide (0 < most) = true := decide_eq_true c1
              have t2 : decide (most < (acc.length : Int)) = false := decide_eq_false (fun h => b1 ⟨c1, h⟩)
              have t3 : ((kk : Int) == (acc.length : Int)) = true := by rw [b2]; simp
              clear b1 b2 c1
              gi_wp2_with fail
              gi_meet
              exact rfl
            · have t1 : decide (0 < most) = false := decide_eq_false c1
              have t3 : ((kk : Int) == (acc.length : Int)) = true := by rw [b2]; simp
              clear b1 b2 c1
              gi_wp2_with fail
              gi_meet
              exact rfl
        case rest =>
          rw [hcut]
          clear hcut
          obtain ⟨W11, hW11⟩ : ∃ W11, W11 = W10.setCell ⟨nb, 0, none⟩ (.int .i64 0) := ⟨_, rfl⟩
          have z11 : W11.heap.size = W10.heap.size := by rw [hW11]; simp
          have hb11 : Below w7.heap.size w7 W11 := by rw [hW11]; exact HB10.out.setCell (p := ⟨nb, 0, none⟩) (by rw [← HNB.out]; exact Nat.le_refl _) _
          have hn11 : Boxed W11 nb 3 (.int .i64 0) := by rw [hW11]; exact HN10.out.set _
          have hl11 : W11.heap[W8.heap.size]? = some (.deferred (some [])) := by rw [hW11]; exact (KeepsOthers.setCell W10 ⟨nb, 0, none⟩ (.int .i64 0)).same W8.heap.size _ HL10.out rfl
          have BN11 := Lib.hid hn11
          have HL11 := Lib.hid hl11
          have HIT11 := Lib.hid (HIT7.out.below hb11)
          have H711 := Lib.hid hb11
          have HZ11 := Lib.hid (show nb + 2 < W11.heap.size by rw [z11]; exact HZZ.out)
          have HZL := Lib.hid (show W8.heap.size < W11.heap.size by rw [z11]; exact some_lt HL10.out)
          have HE11 : Hid (W10.setCell ⟨nb, 0, none⟩ (.int .i64 0) = W11) := Lib.hid hW11.symm
          clear hW11 z11 hb11 hn11 hl11 dm dw hsz
          gi_wp2_with fail
          rw [HE11.out]
          refine lp_block (fun W => Boxed W nb 3 (.int .i64 acc.length) ∧ Below nb W11 W ∧ W.heap[W8.heap.size]? = some (.deferred (some []))) rfl h1 (gf := 40) (lb := #[.pointer (some ⟨Bn, 0, none⟩)]) rfl trivial (enters_of Try.func40 (by kernel_rfl) rfl) ?hrest2 ?hfirst2
          case hfirst2 =>
           intro fn rc hfn hrc W1 hlp hb1 hz1
           refine CallsIn.mono (rows1_any (m - 1) Bn a' n c' l (W11.heap.size + 1)
            (fun pre W => Lp rc W11.heap.size .ready none W ∧ Boxed W nb 3 (.int .i64 pre.length) ∧ Below nb W11 W ∧ W.heap[W8.heap.size]? = some (.deferred (some [])))
            (fun _ _ => False)
            W1 (by omega) (HIT11.out.below hb1) ?hJ2 ?hY2 ?h02) ?hfin2
           case hJ2 =>
             rintro pre A B ⟨j1, j3, j4, j5⟩ hb
             exact ⟨j1.grown hb, boxed_below j3 hb, j4.trans (hb.mono (Nat.le_of_lt j3.lt)), (hb.block _ (some_lt j5)).trans j5⟩
           case h02 => exact ⟨hlp, boxed_below BN11.out hb1, hb1.mono (by have := HZ11.out; omega), (hb1.block _ (some_lt HL11.out)).trans HL11.out⟩
           case hY2 =>
             rintro pre x W2 ⟨j1, j3, j4, j5⟩ hit hin hpre
             refine lp_yield2 hrc hfn j1 rfl ?_
             clear hrc
             have hpl : pre.length < acc.length := by
               have := hpre.length_le
               rw [HROWS.out] at this
               simp at this
               omega
             obtain ⟨⟨mm, ⟨al9, cp9⟩⟩, pl⟩ := x
             obtain ⟨⟨⟨mz, ⟨bl9, cq9⟩⟩, pz⟩, hz⟩ : ∃ z, acc[pre.length]? = some z := ⟨_, List.getElem?_eq_getElem hpl⟩
             have hzz : (mm, pl) = (mz, pz) := by
               obtain ⟨r, hr9⟩ := hpre
               rw [HROWS.out] at hr9
               have h9 := congrArg (fun l => l[pre.length]?) hr9
               have e1 : (acc.map strip9)[pre.length]? = some (mz, pz) := by rw [List.getElem?_map, hz]; rfl
               have e2 : ((pre.map strip9 ++ [(mm, pl)]) ++ r)[pre.length]? = some (mm, pl) := by simp
               simp only [strip9] at h9 e1 e2
               rw [e1] at h9
               exact Option.some.inj (e2.symm.trans h9)
             simp only [Prod.mk.injEq] at hzz
             obtain ⟨rfl, rfl⟩ := hzz
             obtain ⟨W3, hW3⟩ : ∃ W3, W3 = W2.alloc (.cells #[.int .i64 mm.id, .string ⟨mm.tag.toArray⟩, .slice al9 mm.vs.length cp9] 35) := ⟨_, rfl⟩
             have hba : Below W2.heap.size W2 W3 := by rw [hW3]; exact (Below.refl _ W2).alloc (Nat.le_refl _) _
             have HW3 := Lib.hid hW3
             have HL3 := Lib.hid (j1.grown hba)
             have HN3 := Lib.hid (boxed_below j3 hba)
             have HB3 := Lib.hid (j4.trans (hba.mono (Nat.le_of_lt j3.lt)))
             have HI3 := Lib.hid (hit.below hba)
             have HD3 := Lib.hid ((hba.block _ (some_lt j5)).trans j5)
             have HX3 := Lib.hid (show Bk W3 W2.heap.size 35 [.int .i64 mm.id, .string ⟨mm.tag.toArray⟩, .slice al9 mm.vs.length cp9] by rw [hW3]; exact Bk.new W2 _ _)
             have HIN := Lib.hid (show InX ((mm, (al9, cp9)), pl) W3 from ⟨own_keep9 hin.1 hba, hin.2⟩)
             have HPR := Lib.hid hpre
             have HZ := Lib.hid hz
             clear j1 j3 j4 j5 hit hin hba hW3 hpre hz
             simp only [encX]
             gi_wp2_with fail
             rw [← HW3.out]
             refine ⟨HL3.out, ?_⟩
             obtain ⟨W4, hW4⟩ : ∃ W4, W4 = W3.putObj (W11.heap.size + 1) (.loop (rc .busy none)) := ⟨_, rfl⟩
             have hp4 : ∀ k, k ≠ W11.heap.size + 1 → W4.heap[k]? = W3.heap[k]? := fun k hk => by rw [hW4]; exact World.putObj_heap_other hk
             have HD4 := Lib.hid ((hp4 W8.heap.size (by have := HZL.out; omega)).trans HD3.out)
             have hko : ∀ U, KO U W3 W4 := fun U b cs t fr _ h => by
               by_cases e : b = W11.heap.size + 1
               · subst e
                 have h9 := HL3.out.rcd
                 rw [h] at h9
                 cases h9
               · exact (hp4 b e).trans h
             have hj3 := HJ7.out.below (H711.out.trans (by rw [← HNB.out]; exact HB3.out)) (by omega)
             have wb4 := boxed_ko hj3.wb (by decide) (hko 4)
             have pb4 := boxed_ko hj3.pb (by decide) (hko 4)
             have wn4 := hj3.wn.ko (by decide) (by decide) (hko 4)
             have pn4 := own_ko hj3.pn (by decide) (hko 4)
             have bx4 := HX3.out.ko (by decide) (hko 4)
             have n4 := boxed_ko HN3.out (by decide) (hko 4)
             have ro4 := own_ko HIN.out.1 (by decide) (hko 4)
             have hz1 : (acc.map fun x : X9 => x.1)[pre.length]? = some (mm, (bl9, cq9)) := by rw [List.getElem?_map, HZ.out]; rfl
             obtain ⟨gw, rfl, hgw, y0, y1, y2⟩ := wn4.at hz1
             have rw4 := wn4.each _ (List.mem_of_getElem? hz1)
             obtain ⟨gp, rfl, z0⟩ : ∃ gp : Nat, pa = some ⟨gp, 0, none⟩ ∧ W4.cell? ⟨gp, pre.length, none⟩ = some (.int .i64 pl) := by
               rcases pn4.2 with ⟨_, h0⟩ | ⟨g9, cap9, cur9, he9, _⟩
               · omega
               · simp only [Value.slice.injEq] at he9
                 obtain ⟨rfl, _, _⟩ := he9
                 have h9 := pn4.cells (g := g9) rfl pre.length (.int .i64 pl) (by rw [List.getElem?_map, HZ.out]; rfl)
                 have hadd : (⟨g9, 0, none⟩ : Addr).add pre.length = ⟨g9, pre.length, none⟩ := by unfold Addr.add; split <;> simp_all
                 rw [hadd] at h9
                 exact ⟨g9, rfl, h9⟩
             have hoz : ∀ v ∈ mm.vs, OkZ v := fun v hv => .inl (HIN.out.2.vs.all v hv)
             have hfew := HIN.out.2.vs.few
             have HMS := Lib.hid (fun W (hW : Below W4.heap.size W4 W) => message_self mm al9 bl9 cp9 cq9 W hoz (Nat.le_trans hfew (by decide)) (own_keep9 ro4 hW) (own_keep9 rw4 hW))
             have HCC := Lib.hid (fun W (hW : Below W4.heap.size W4 W) => And.intro (old_cell9 hW n4.cell) (And.intro (old_cell9 hW wb4.cell) (And.intro (old_cell9 hW pb4.cell) (And.intro (old_cell9 hW (bx4.c 0 rfl)) (And.intro (old_cell9 hW (bx4.c 1 rfl)) (And.intro (old_cell9 hW (bx4.c 2 rfl)) (And.intro (old_cell9 hW y0) (And.intro (old_cell9 hW y1) (And.intro (old_cell9 hW y2) (old_cell9 hW z0))))))))))
             have HN4 := Lib.hid n4
             clear hko hj3 wb4 pb4 wn4 pn4 bx4 n4 ro4 hz1 y0 y1 y2 z0 rw4 hoz hfew hgw
             have HL4 := Lib.hid (show Lp rc W11.heap.size .busy none W4 by rw [hW4]; exact HL3.out.put)
             have HP4 := Lib.hid (show Below nb W3 W4 by rw [hW4]; exact below_put (by have := HZ11.out; omega) HL3.out.rcd)
             rw [← hW4]
             clear hW4
             gi_wp2_with fail
             have hcc := HCC.out
             have q1 : decide (acc.length ≤ pre.length) = false := decide_eq_false (by omega)
             have q2 : decide ((acc.length : Int) ≤ (pre.length : Int)) = false := decide_eq_false (by omega)
             obtain ⟨DV, hDV⟩ : ∃ DV : List (Nat × Value), DV = [(91, .int .i64 pre.length), (92, .slice (some ⟨gw, 0, none⟩) acc.length wq), (93, .int .i64 acc.length), (94, .bool false), (95, .bool false), (96, .agg #[.int .i64 mm.id, .string ⟨mm.tag.toArray⟩, .slice al9 mm.vs.length cp9]), (97, .slice (some ⟨gw, 0, none⟩) acc.length wq), (98, .int .i64 pre.length), (99, .pointer (some ⟨gw, pre.length * 3, none⟩)), (100, .agg #[.int .i64 mm.id, .string ⟨mm.tag.toArray⟩, .slice bl9 mm.vs.length cq9]), (101, .bool true), (102, .bool false), (103, .bool false), (104, .bool false), (105, .int .i64 pl), (106, .slice (some ⟨gp, 0, none⟩) acc.length pc), (107, .int .i64 pre.length), (108, .pointer (some ⟨gp, pre.length, none⟩)), (109, .int .i64 pl), (110, .bool false), (111, .bool false)] := ⟨_, rfl⟩
             have hnd : (DV.map (·.1)).Nodup := by
               rw [hDV]
               show ([91, 92, 93, 94, 95, 96, 97, 98, 99, 100, 101, 102, 103, 104, 105, 106, 107, 108, 109, 110, 111] : List Nat).Nodup
               decide
             refine frame_named ?_
             intro FR hFR
             simp only at hFR
             have s13 : FR.getD 13 undef = .pointer (some ⟨nb, 0, none⟩) := by rw [hFR]; rfl
             have s6 : FR.getD 6 undef = .pointer (some ⟨P, 0, none⟩) := by rw [hFR]; rfl
             refine region_fixed (by kernel_rfl) DV (fun W => Below W4.heap.size W4 W) (by rw [hDV]; rfl) hnd (drew_below W4) ?hup2 ?hop2 ?hend2
             case hup2 =>
               intro i o ho
               rcases i with _ | _ | _ | _ | _ | _ | _ | _ | _ | _ | _ | _ | _ | _ | _ | _ | _ | _ | _ | _ | _ | i
               all_goals
                 first
                   | (obtain rfl := Option.some.inj ho; simp)
                   | (exfalso; have h := (Array.getElem?_eq_some_iff.1 ho).1; simp at h; omega)
             case hop2 =>
               intro i o d v ho hdv L W hlen hf hdeps hC
               have e13 : (fillT FR DV L).getD 13 undef = .pointer (some ⟨nb, 0, none⟩) := by rw [fillT_other DV L FR 13 undef (by rw [hDV]; simp)]; rw [hFR]; rfl
               have e6 : (fillT FR DV L).getD 6 undef = .pointer (some ⟨P, 0, none⟩) := by rw [fillT_other DV L FR 6 undef (by rw [hDV]; simp)]; rw [hFR]; rfl
               have e7 : (fillT FR DV L).getD 7 undef = .pointer (some ⟨P + 1, 0, none⟩) := by rw [fillT_other DV L FR 7 undef (by rw [hDV]; simp)]; rw [hFR]; rfl
               have e16 : (fillT FR DV L).getD 16 undef = .pointer (some ⟨W2.heap.size, 0, none⟩) := by rw [fillT_other DV L FR 16 undef (by rw [hDV]; simp)]; rw [hFR]; rfl
               have e17 : (fillT FR DV L).getD 17 undef = .int .i64 pl := by rw [fillT_other DV L FR 17 undef (by rw [hDV]; simp)]; rw [hFR]; rfl
               have hsz : FR.size = 123 := by rw [hFR]; rfl
               obtain ⟨dn, dw, dp, x0, x1, x2, y0, y1, y2, z0⟩ := hcc W hC
               rcases i with _ | _ | _ | _ | _ | _ | _ | _ | _ | _ | _ | _ | _ | _ | _ | _ | _ | _ | _ | _ | _ | i
               · obtain rfl := Option.some.inj ho
                 rw [hDV] at hdv
                 obtain ⟨rfl, rfl⟩ := Prod.mk.inj (Option.some.inj hdv)
                 refine ⟨rfl, ?_⟩
                 clear hdv hdeps hf
                 unfold Oper.wpIn
                 refine ⟨fun f _ => trivial, ?_⟩
                 unfold fillA
                 generalize fillT FR DV L = TT at *
                 go_simp
               · obtain rfl := Option.some.inj ho
                 rw [hDV] at hdv
                 obtain ⟨rfl, rfl⟩ := Prod.mk.inj (Option.some.inj hdv)
                 refine ⟨rfl, ?_⟩
                 clear hdv hdeps hf
                 unfold Oper.wpIn
                 refine ⟨fun f _ => trivial, ?_⟩
                 unfold fillA
                 generalize fillT FR DV L = TT at *
                 go_simp
               · obtain rfl := Option.some.inj ho
                 rw [hDV] at hdv
                 obtain ⟨rfl, rfl⟩ := Prod.mk.inj (Option.some.inj hdv)
                 have g1 : L[1]? = some true := hdeps ⟨1, .data⟩ (by simp) rfl
                 have e92 : (fillT FR DV L).getD 92 undef = (.slice (some ⟨gw, 0, none⟩) acc.length wq) := fillT_at DV L FR 1 92 _ undef hnd (by rw [hDV]; rfl) g1 (by rw [hsz]; decide)
                 refine ⟨rfl, ?_⟩
                 clear hdv hdeps hf
                 unfold Oper.wpIn
                 refine ⟨fun f _ => trivial, ?_⟩
                 unfold fillA
                 generalize fillT FR DV L = TT at *
                 go_simp
               · obtain rfl := Option.some.inj ho
                 rw [hDV] at hdv
                 obtain ⟨rfl, rfl⟩ := Prod.mk.inj (Option.some.inj hdv)
                 have g0 : L[0]? = some true := hdeps ⟨0, .data⟩ (by simp) rfl
                 have e91 : (fillT FR DV L).getD 91 undef = (.int .i64 pre.length) := fillT_at DV L FR 0 91 _ undef hnd (by rw [hDV]; rfl) g0 (by rw [hsz]; decide)
                 have g2 : L[2]? = some true := hdeps ⟨2, .data⟩ (by simp) rfl
                 have e93 : (fillT FR DV L).getD 93 undef = (.int .i64 acc.length) := fillT_at DV L FR 2 93 _ undef hnd (by rw [hDV]; rfl) g2 (by rw [hsz]; decide)
                 refine ⟨rfl, ?_⟩
                 clear hdv hdeps hf
                 unfold Oper.wpIn
                 refine ⟨fun f _ => trivial, ?_⟩
                 unfold fillA
                 generalize fillT FR DV L = TT at *
                 go_simp
               · obtain rfl := Option.some.inj ho
                 rw [hDV] at hdv
                 obtain ⟨rfl, rfl⟩ := Prod.mk.inj (Option.some.inj hdv)
                 have g3 : L[3]? = some true := hdeps ⟨3, .data⟩ (by simp) rfl
                 have e94 : (fillT FR DV L).getD 94 undef = (.bool false) := fillT_at DV L FR 3 94 _ undef hnd (by rw [hDV]; rfl) g3 (by rw [hsz]; decide)
                 refine ⟨rfl, ?_⟩
                 clear hdv hdeps hf
                 unfold Oper.wpIn
                 refine ⟨fun f _ => trivial, ?_⟩
                 unfold fillA
                 generalize fillT FR DV L = TT at *
                 go_simp
               · obtain rfl := Option.some.inj ho
                 rw [hDV] at hdv
                 obtain ⟨rfl, rfl⟩ := Prod.mk.inj (Option.some.inj hdv)
                 have g4 : L[4]? = some true := hdeps ⟨4, .guard⟩ (by simp) rfl
                 have e95 : (fillT FR DV L).getD 95 undef = (.bool false) := fillT_at DV L FR 4 95 _ undef hnd (by rw [hDV]; rfl) g4 (by rw [hsz]; decide)
                 have y95 : (fillT FR DV L)[95]? = some (.bool false) := fillT_get hnd (by rw [hDV]; rfl) g4 (by rw [hsz]; decide)
                 refine ⟨by simp [Region.wanted, yielded, y95], ?_⟩
                 clear hdv hdeps hf
                 unfold Oper.wpIn
                 refine ⟨fun f _ => trivial, ?_⟩
                 unfold fillA
                 generalize fillT FR DV L = TT at *
                 go_simp
               · obtain rfl := Option.some.inj ho
                 rw [hDV] at hdv
                 obtain ⟨rfl, rfl⟩ := Prod.mk.inj (Option.some.inj hdv)
                 have g4 : L[4]? = some true := hdeps ⟨4, .guard⟩ (by simp) rfl
                 have e95 : (fillT FR DV L).getD 95 undef = (.bool false) := fillT_at DV L FR 4 95 _ undef hnd (by rw [hDV]; rfl) g4 (by rw [hsz]; decide)
                 have y95 : (fillT FR DV L)[95]? = some (.bool false) := fillT_get hnd (by rw [hDV]; rfl) g4 (by rw [hsz]; decide)
                 refine ⟨by simp [Region.wanted, yielded, y95], ?_⟩
                 clear hdv hdeps hf
                 unfold Oper.wpIn
                 refine ⟨fun f _ => trivial, ?_⟩
                 unfold fillA
                 generalize fillT FR DV L = TT at *
                 go_simp
               · obtain rfl := Option.some.inj ho
                 rw [hDV] at hdv
                 obtain ⟨rfl, rfl⟩ := Prod.mk.inj (Option.some.inj hdv)
                 have g4 : L[4]? = some true := hdeps ⟨4, .guard⟩ (by simp) rfl
                 have e95 : (fillT FR DV L).getD 95 undef = (.bool false) := fillT_at DV L FR 4 95 _ undef hnd (by rw [hDV]; rfl) g4 (by rw [hsz]; decide)
                 have y95 : (fillT FR DV L)[95]? = some (.bool false) := fillT_get hnd (by rw [hDV]; rfl) g4 (by rw [hsz]; decide)
                 refine ⟨by simp [Region.wanted, yielded, y95], ?_⟩
                 clear hdv hdeps hf
                 unfold Oper.wpIn
                 refine ⟨fun f _ => trivial, ?_⟩
                 unfold fillA
                 generalize fillT FR DV L = TT at *
                 go_simp
               · obtain rfl := Option.some.inj ho
                 rw [hDV] at hdv
                 obtain ⟨rfl, rfl⟩ := Prod.mk.inj (Option.some.inj hdv)
                 have g6 : L[6]? = some true := hdeps ⟨6, .data⟩ (by simp) rfl
                 have e97 : (fillT FR DV L).getD 97 undef = (.slice (some ⟨gw, 0, none⟩) acc.length wq) := fillT_at DV L FR 6 97 _ undef hnd (by rw [hDV]; rfl) g6 (by rw [hsz]; decide)
                 have g7 : L[7]? = some true := hdeps ⟨7, .data⟩ (by simp) rfl
                 have e98 : (fillT FR DV L).getD 98 undef = (.int .i64 pre.length) := fillT_at DV L FR 7 98 _ undef hnd (by rw [hDV]; rfl) g7 (by rw [hsz]; decide)
                 have g4 : L[4]? = some true := hdeps ⟨4, .guard⟩ (by simp) rfl
                 have e95 : (fillT FR DV L).getD 95 undef = (.bool false) := fillT_at DV L FR 4 95 _ undef hnd (by rw [hDV]; rfl) g4 (by rw [hsz]; decide)
                 have y95 : (fillT FR DV L)[95]? = some (.bool false) := fillT_get hnd (by rw [hDV]; rfl) g4 (by rw [hsz]; decide)
                 refine ⟨by simp [Region.wanted, yielded, y95], ?_⟩
                 clear hdv hdeps hf
                 unfold Oper.wpIn
                 refine ⟨fun f _ => trivial, ?_⟩
                 unfold fillA
                 generalize fillT FR DV L = TT at *
                 go_simp
               · obtain rfl := Option.some.inj ho
                 rw [hDV] at hdv
                 obtain ⟨rfl, rfl⟩ := Prod.mk.inj (Option.some.inj hdv)
                 have g8 : L[8]? = some true := hdeps ⟨8, .data⟩ (by simp) rfl
                 have e99 : (fillT FR DV L).getD 99 undef = (.pointer (some ⟨gw, pre.length * 3, none⟩)) := fillT_at DV L FR 8 99 _ undef hnd (by rw [hDV]; rfl) g8 (by rw [hsz]; decide)
                 have g4 : L[4]? = some true := hdeps ⟨4, .guard⟩ (by simp) rfl
                 have e95 : (fillT FR DV L).getD 95 undef = (.bool false) := fillT_at DV L FR 4 95 _ undef hnd (by rw [hDV]; rfl) g4 (by rw [hsz]; decide)
                 have y95 : (fillT FR DV L)[95]? = some (.bool false) := fillT_get hnd (by rw [hDV]; rfl) g4 (by rw [hsz]; decide)
                 refine ⟨by simp [Region.wanted, yielded, y95], ?_⟩
                 clear hdv hdeps hf
                 unfold Oper.wpIn
                 refine ⟨fun f _ => trivial, ?_⟩
                 unfold fillA
                 generalize fillT FR DV L = TT at *
                 go_simp
               · obtain rfl := Option.some.inj ho
                 rw [hDV] at hdv
                 obtain ⟨rfl, rfl⟩ := Prod.mk.inj (Option.some.inj hdv)
                 have g5 : L[5]? = some true := hdeps ⟨5, .data⟩ (by simp) rfl
                 have e96 : (fillT FR DV L).getD 96 undef = (.agg #[.int .i64 mm.id, .string ⟨mm.tag.toArray⟩, .slice al9 mm.vs.length cp9]) := fillT_at DV L FR 5 96 _ undef hnd (by rw [hDV]; rfl) g5 (by rw [hsz]; decide)
                 have g9 : L[9]? = some true := hdeps ⟨9, .data⟩ (by simp) rfl
                 have e100 : (fillT FR DV L).getD 100 undef = (.agg #[.int .i64 mm.id, .string ⟨mm.tag.toArray⟩, .slice bl9 mm.vs.length cq9]) := fillT_at DV L FR 9 100 _ undef hnd (by rw [hDV]; rfl) g9 (by rw [hsz]; decide)
                 have g4 : L[4]? = some true := hdeps ⟨4, .guard⟩ (by simp) rfl
                 have e95 : (fillT FR DV L).getD 95 undef = (.bool false) := fillT_at DV L FR 4 95 _ undef hnd (by rw [hDV]; rfl) g4 (by rw [hsz]; decide)
                 have y95 : (fillT FR DV L)[95]? = some (.bool false) := fillT_get hnd (by rw [hDV]; rfl) g4 (by rw [hsz]; decide)
                 refine ⟨by simp [Region.wanted, yielded, y95], ?_⟩
                 clear hdv hdeps hf
                 unfold Oper.wpIn
                 refine ⟨fun f _ => trivial, ?_⟩
                 unfold fillA
                 generalize fillT FR DV L = TT at *
                 go_simp
                 refine ⟨fun _ => by omega, (CallsIn.inRound _ (callsIn_wide.2 (HMS.out W hC))).mono ?_⟩
                 rintro e w' ⟨rfl, hb9⟩
                 exact ⟨rfl, hC.trans (hb9.mono hC.size)⟩
               · obtain rfl := Option.some.inj ho
                 rw [hDV] at hdv
                 obtain ⟨rfl, rfl⟩ := Prod.mk.inj (Option.some.inj hdv)
                 have g10 : L[10]? = some true := hdeps ⟨10, .data⟩ (by simp) rfl
                 have e101 : (fillT FR DV L).getD 101 undef = (.bool true) := fillT_at DV L FR 10 101 _ undef hnd (by rw [hDV]; rfl) g10 (by rw [hsz]; decide)
                 have g4 : L[4]? = some true := hdeps ⟨4, .guard⟩ (by simp) rfl
                 have e95 : (fillT FR DV L).getD 95 undef = (.bool false) := fillT_at DV L FR 4 95 _ undef hnd (by rw [hDV]; rfl) g4 (by rw [hsz]; decide)
                 have y95 : (fillT FR DV L)[95]? = some (.bool false) := fillT_get hnd (by rw [hDV]; rfl) g4 (by rw [hsz]; decide)
                 refine ⟨by simp [Region.wanted, yielded, y95], ?_⟩
                 clear hdv hdeps hf
                 unfold Oper.wpIn
                 refine ⟨fun f _ => trivial, ?_⟩
                 unfold fillA
                 generalize fillT FR DV L = TT at *
                 go_simp
               · obtain rfl := Option.some.inj ho
                 rw [hDV] at hdv
                 obtain ⟨rfl, rfl⟩ := Prod.mk.inj (Option.some.inj hdv)
                 have g4 : L[4]? = some true := hdeps ⟨4, .data⟩ (by simp) rfl
                 have e95 : (fillT FR DV L).getD 95 undef = (.bool false) := fillT_at DV L FR 4 95 _ undef hnd (by rw [hDV]; rfl) g4 (by rw [hsz]; decide)
                 have g11 : L[11]? = some true := hdeps ⟨11, .data⟩ (by simp) rfl
                 have e102 : (fillT FR DV L).getD 102 undef = (.bool false) := fillT_at DV L FR 11 102 _ undef hnd (by rw [hDV]; rfl) g11 (by rw [hsz]; decide)
                 refine ⟨rfl, ?_⟩
                 clear hdv hdeps hf
                 unfold Oper.wpIn
                 refine ⟨fun f _ => trivial, ?_⟩
                 unfold fillA
                 generalize fillT FR DV L = TT at *
                 go_simp
               · obtain rfl := Option.some.inj ho
                 rw [hDV] at hdv
                 obtain ⟨rfl, rfl⟩ := Prod.mk.inj (Option.some.inj hdv)
                 have g12 : L[12]? = some true := hdeps ⟨12, .data⟩ (by simp) rfl
                 have e103 : (fillT FR DV L).getD 103 undef = (.bool false) := fillT_at DV L FR 12 103 _ undef hnd (by rw [hDV]; rfl) g12 (by rw [hsz]; decide)
                 refine ⟨rfl, ?_⟩
                 clear hdv hdeps hf
                 unfold Oper.wpIn
                 refine ⟨fun f _ => trivial, ?_⟩
                 unfold fillA
                 generalize fillT FR DV L = TT at *
                 go_simp
               · obtain rfl := Option.some.inj ho
                 rw [hDV] at hdv
                 obtain ⟨rfl, rfl⟩ := Prod.mk.inj (Option.some.inj hdv)
                 have g13 : L[13]? = some true := hdeps ⟨13, .guard⟩ (by simp) rfl
                 have e104 : (fillT FR DV L).getD 104 undef = (.bool false) := fillT_at DV L FR 13 104 _ undef hnd (by rw [hDV]; rfl) g13 (by rw [hsz]; decide)
                 have y104 : (fillT FR DV L)[104]? = some (.bool false) := fillT_get hnd (by rw [hDV]; rfl) g13 (by rw [hsz]; decide)
                 refine ⟨by simp [Region.wanted, yielded, y104], ?_⟩
                 clear hdv hdeps hf
                 unfold Oper.wpIn
                 refine ⟨fun f _ => trivial, ?_⟩
                 unfold fillA
                 generalize fillT FR DV L = TT at *
                 go_simp
               · obtain rfl := Option.some.inj ho
                 rw [hDV] at hdv
                 obtain ⟨rfl, rfl⟩ := Prod.mk.inj (Option.some.inj hdv)
                 have g13 : L[13]? = some true := hdeps ⟨13, .guard⟩ (by simp) rfl
                 have e104 : (fillT FR DV L).getD 104 undef = (.bool false) := fillT_at DV L FR 13 104 _ undef hnd (by rw [hDV]; rfl) g13 (by rw [hsz]; decide)
                 have y104 : (fillT FR DV L)[104]? = some (.bool false) := fillT_get hnd (by rw [hDV]; rfl) g13 (by rw [hsz]; decide)
                 refine ⟨by simp [Region.wanted, yielded, y104], ?_⟩
                 clear hdv hdeps hf
                 unfold Oper.wpIn
                 refine ⟨fun f _ => trivial, ?_⟩
                 unfold fillA
                 generalize fillT FR DV L = TT at *
                 go_simp
               · obtain rfl := Option.some.inj ho
                 rw [hDV] at hdv
                 obtain ⟨rfl, rfl⟩ := Prod.mk.inj (Option.some.inj hdv)
                 have g13 : L[13]? = some true := hdeps ⟨13, .guard⟩ (by simp) rfl
                 have e104 : (fillT FR DV L).getD 104 undef = (.bool false) := fillT_at DV L FR 13 104 _ undef hnd (by rw [hDV]; rfl) g13 (by rw [hsz]; decide)
                 have y104 : (fillT FR DV L)[104]? = some (.bool false) := fillT_get hnd (by rw [hDV]; rfl) g13 (by rw [hsz]; decide)
                 refine ⟨by simp [Region.wanted, yielded, y104], ?_⟩
                 clear hdv hdeps hf
                 unfold Oper.wpIn
                 refine ⟨fun f _ => trivial, ?_⟩
                 unfold fillA
                 generalize fillT FR DV L = TT at *
                 go_simp
               · obtain rfl := Option.some.inj ho
                 rw [hDV] at hdv
                 obtain ⟨rfl, rfl⟩ := Prod.mk.inj (Option.some.inj hdv)
                 have g15 : L[15]? = some true := hdeps ⟨15, .data⟩ (by simp) rfl
                 have e106 : (fillT FR DV L).getD 106 undef = (.slice (some ⟨gp, 0, none⟩) acc.length pc) := fillT_at DV L FR 15 106 _ undef hnd (by rw [hDV]; rfl) g15 (by rw [hsz]; decide)
                 have g16 : L[16]? = some true := hdeps ⟨16, .data⟩ (by simp) rfl
                 have e107 : (fillT FR DV L).getD 107 undef = (.int .i64 pre.length) := fillT_at DV L FR 16 107 _ undef hnd (by rw [hDV]; rfl) g16 (by rw [hsz]; decide)
                 have g13 : L[13]? = some true := hdeps ⟨13, .guard⟩ (by simp) rfl
                 have e104 : (fillT FR DV L).getD 104 undef = (.bool false) := fillT_at DV L FR 13 104 _ undef hnd (by rw [hDV]; rfl) g13 (by rw [hsz]; decide)
                 have y104 : (fillT FR DV L)[104]? = some (.bool false) := fillT_get hnd (by rw [hDV]; rfl) g13 (by rw [hsz]; decide)
                 refine ⟨by simp [Region.wanted, yielded, y104], ?_⟩
                 clear hdv hdeps hf
                 unfold Oper.wpIn
                 refine ⟨fun f _ => trivial, ?_⟩
                 unfold fillA
                 generalize fillT FR DV L = TT at *
                 go_simp
               · obtain rfl := Option.some.inj ho
                 rw [hDV] at hdv
                 obtain ⟨rfl, rfl⟩ := Prod.mk.inj (Option.some.inj hdv)
                 have g17 : L[17]? = some true := hdeps ⟨17, .data⟩ (by simp) rfl
                 have e108 : (fillT FR DV L).getD 108 undef = (.pointer (some ⟨gp, pre.length, none⟩)) := fillT_at DV L FR 17 108 _ undef hnd (by rw [hDV]; rfl) g17 (by rw [hsz]; decide)
                 have g13 : L[13]? = some true := hdeps ⟨13, .guard⟩ (by simp) rfl
                 have e104 : (fillT FR DV L).getD 104 undef = (.bool false) := fillT_at DV L FR 13 104 _ undef hnd (by rw [hDV]; rfl) g13 (by rw [hsz]; decide)
                 have y104 : (fillT FR DV L)[104]? = some (.bool false) := fillT_get hnd (by rw [hDV]; rfl) g13 (by rw [hsz]; decide)
                 refine ⟨by simp [Region.wanted, yielded, y104], ?_⟩
                 clear hdv hdeps hf
                 unfold Oper.wpIn
                 refine ⟨fun f _ => trivial, ?_⟩
                 unfold fillA
                 generalize fillT FR DV L = TT at *
                 go_simp
               · obtain rfl := Option.some.inj ho
                 rw [hDV] at hdv
                 obtain ⟨rfl, rfl⟩ := Prod.mk.inj (Option.some.inj hdv)
                 have g14 : L[14]? = some true := hdeps ⟨14, .data⟩ (by simp) rfl
                 have e105 : (fillT FR DV L).getD 105 undef = (.int .i64 pl) := fillT_at DV L FR 14 105 _ undef hnd (by rw [hDV]; rfl) g14 (by rw [hsz]; decide)
                 have g18 : L[18]? = some true := hdeps ⟨18, .data⟩ (by simp) rfl
                 have e109 : (fillT FR DV L).getD 109 undef = (.int .i64 pl) := fillT_at DV L FR 18 109 _ undef hnd (by rw [hDV]; rfl) g18 (by rw [hsz]; decide)
                 have g13 : L[13]? = some true := hdeps ⟨13, .guard⟩ (by simp) rfl
                 have e104 : (fillT FR DV L).getD 104 undef = (.bool false) := fillT_at DV L FR 13 104 _ undef hnd (by rw [hDV]; rfl) g13 (by rw [hsz]; decide)
                 have y104 : (fillT FR DV L)[104]? = some (.bool false) := fillT_get hnd (by rw [hDV]; rfl) g13 (by rw [hsz]; decide)
                 refine ⟨by simp [Region.wanted, yielded, y104], ?_⟩
                 clear hdv hdeps hf
                 unfold Oper.wpIn
                 refine ⟨fun f _ => trivial, ?_⟩
                 unfold fillA
                 generalize fillT FR DV L = TT at *
                 go_simp
               · obtain rfl := Option.some.inj ho
                 rw [hDV] at hdv
                 obtain ⟨rfl, rfl⟩ := Prod.mk.inj (Option.some.inj hdv)
                 have g13 : L[13]? = some true := hdeps ⟨13, .data⟩ (by simp) rfl
                 have e104 : (fillT FR DV L).getD 104 undef = (.bool false) := fillT_at DV L FR 13 104 _ undef hnd (by rw [hDV]; rfl) g13 (by rw [hsz]; decide)
                 have g19 : L[19]? = some true := hdeps ⟨19, .data⟩ (by simp) rfl
                 have e110 : (fillT FR DV L).getD 110 undef = (.bool false) := fillT_at DV L FR 19 110 _ undef hnd (by rw [hDV]; rfl) g19 (by rw [hsz]; decide)
                 refine ⟨rfl, ?_⟩
                 clear hdv hdeps hf
                 unfold Oper.wpIn
                 refine ⟨fun f _ => trivial, ?_⟩
                 unfold fillA
                 generalize fillT FR DV L = TT at *
                 go_simp
               · exfalso
                 have h := (Array.getElem?_eq_some_iff.1 ho).1
                 simp at h
                 omega
             case hend2 =>
               intro W5 hC5
               have hfin : fillA { tmps := FR, defers := [] } DV (List.replicate 21 true) = fillA { tmps := FR, defers := [] } DV [true, true, true, true, true, true, true, true, true, true, true, true, true, true, true, true, true, true, true, true, true] := rfl
               rw [show ∀ k, k = 21 → fillA { tmps := FR, defers := [] } DV (List.replicate k true) = fillA { tmps := FR, defers := [] } DV (List.replicate 21 true) from fun k hk => by rw [hk]]
               · rw [hfin, hDV, hFR]
                 simp only [fillA, fillT, if_true, List.setIfInBounds_toArray, List.set_cons_succ, List.set_cons_zero]
                 have dn5 := (boxed_below HN4.out hC5).cell
                 have fn5 := (boxed_below HN4.out hC5).frozen
                 have hlx : ((pre ++ [((mm, (al9, cp9)), pl)]).length : Int) = (pre.length : Int) + 1 := by simp
                 have HLX := Lib.hid hlx
                 have HC5 := Lib.hid hC5
                 have hfinal : ∀ st j, Lp rc W11.heap.size .busy none (W5.setCell ⟨nb, 0, none⟩ (.int .i64 ((pre.length : Int) + 1))) ∧ Lp rc W11.heap.size st j ((W5.setCell ⟨nb, 0, none⟩ (.int .i64 ((pre.length : Int) + 1))).putObj (W11.heap.size + 1) (.loop (rc st j))) ∧ Boxed ((W5.setCell ⟨nb, 0, none⟩ (.int .i64 ((pre.length : Int) + 1))).putObj (W11.heap.size + 1) (.loop (rc st j))) nb 3 (.int .i64 ((pre.length : Int) + 1)) ∧ Below nb W11 ((W5.setCell ⟨nb, 0, none⟩ (.int .i64 ((pre.length : Int) + 1))).putObj (W11.heap.size + 1) (.loop (rc st j))) ∧ ((W5.setCell ⟨nb, 0, none⟩ (.int .i64 ((pre.length : Int) + 1))).putObj (W11.heap.size + 1) (.loop (rc st j))).heap[W8.heap.size]? = some (.deferred (some [])) := fun st j => by
                   have l5 := HL4.out.grown hC5
                   have l6 : Lp rc W11.heap.size .busy none (W5.setCell ⟨nb, 0, none⟩ (.int .i64 ((pre.length : Int) + 1))) := l5.keep ((KeepsOthers.setCell _ _ _).from _)
                   have n6 := (boxed_below HN4.out hC5).set (.int .i64 ((pre.length : Int) + 1))
                   have hne : nb ≠ W11.heap.size + 1 := by have := HZ11.out; omega
                   have d5 := (hC5.block _ (some_lt HD4.out)).trans HD4.out
                   have d6 := (KeepsOthers.setCell W5 ⟨nb, 0, none⟩ (.int .i64 ((pre.length : Int) + 1))).same W8.heap.size _ d5 rfl
                   refine ⟨l6, l6.put, (World.putObj_heap_other hne).trans n6, ?_, (World.putObj_heap_other (by have := HZL.out; omega)).trans d6⟩
                   exact ((HB3.out.trans (HP4.out.trans (hC5.mono (Nat.le_of_lt HN4.out.lt)))).setCell (p := ⟨nb, 0, none⟩) (Nat.le_refl _) _).trans (below_put (by have := HZ11.out; omega) l6.rcd)
                 have HF := Lib.hid hfinal
                 have hwn : w.heap.size < nb := by
                   have h9 : w.heap.size + 2 ≤ P := by rw [HPP.out]; exact hp2
                   omega
                 have hww : IntKind.i64.wrap ((pre.length : Int) + 1) = (pre.length : Int) + 1 := by rw [IntKind.wrap_i64]; omega
                 clear hlx hC5 hfinal hfin hFR hcc hnd
                 gi_wp2_with fail
                 obtain ⟨f1, f2, f3, f4, f5⟩ := HF.out .ready none
                 exact ⟨f1, .inl ⟨rfl, ⟨f2, by rw [HLX.out]; exact f3, f4, f5⟩, HIT7.out.below (H711.out.trans (by rw [← HNB.out]; exact f4))⟩⟩
               · rfl
           case hfin2 =>
            rintro e W9 ⟨hv, ⟨xs, hxs, j1, j3, j4, j5⟩ | ⟨pre, hpre, j1⟩⟩
            · have hl : xs.length = acc.length := by
                have := congrArg List.length (hxs.trans HROWS.out)
                simpa using this
              rw [hl] at j3
              exact ⟨hv, .inl ⟨j1, j3, j4, j5⟩⟩
            · exact j1.elim
          case hrest2 =>
            rintro W19 rc2 st2 jj hlp2 ⟨hn19, hb19, hd19⟩
            obtain ⟨W20, hW20⟩ : ∃ W20, W20 = W19.putObj (W11.heap.size + 1) (.loop (rc2 .exhausted jj)) := ⟨_, rfl⟩
            have hb20 : Below w7.heap.size w7 W20 := by rw [hW20]; exact H711.out.trans (by rw [← HNB.out]; exact hb19.trans (below_put (by have := HZ11.out; omega) hlp2.rcd))
            have hn20 : Boxed W20 nb 3 (.int .i64 acc.length) := by rw [hW20]; exact (World.putObj_heap_other (by have := HZ11.out; omega)).trans hn19
            have hk2 : W20.heap[W11.heap.size]? = some (.deferred (some [])) := by rw [hW20]; exact hlp2.put.dfr
            have hk1 : W20.heap[W8.heap.size]? = some (.deferred (some [])) := by rw [hW20]; exact (World.putObj_heap_other (by have := HZL.out; omega)).trans hd19
            have hj20 := HJ7.out.below hb20 (by omega)
            have hlt9 := HLT9.out
            have r20 : Boxed W20 (w.heap.size + 1) 4 (.bool false) := by
              have b7 : w7.heap[w.heap.size + 1]? = w2.heap[w.heap.size + 1]? := HJ7.out.bel.block _ (by omega)
              have b10 : W20.heap[w.heap.size + 1]? = w7.heap[w.heap.size + 1]? := hb20.block _ (by rw [← HNB.out]; omega)
              exact b10.trans (b7.trans HR2.out)
            have hP20 : Below P w2 W20 := hj20.bel
            have HB20 := Lib.hid hb20
            have HP20 := Lib.hid hP20
            have HK1 := Lib.hid hk1
            have HK2 := Lib.hid hk2
            have HR20 := Lib.hid r20
            have HJ20 := Lib.hid hj20
            have HN20 := Lib.hid hn20
            rw [← hW20]
            have dn := hn20.cell
            have dw := hj20.wb.cell
            have dr := r20.cell
            have fr := r20.frozen
            have t9 : ((acc.length : Int) == (acc.length : Int)) = true := by simp
            clear hW20 hb20 hn20 hk1 hk2 hj20 r20 hP20 hlp2 hn19 hb19 hd19 hlt9
            have hbw := HB2.out.trans (HP20.out.mono (show w.heap.size ≤ P by have := HLT9.out; omega))
            have HBW := Lib.hid hbw
            have hown := own_keep9 HO2.out (show Below w2.heap.size w2 W20 by rw [← HPP.out]; exact HP20.out)
            have HOWN := Lib.hid hown
            clear hbw hown
            dsimp only
            gi_wp2_with fail
            refine ⟨trivial, ?_⟩
            refine (callsIn_wide.2 (kept_any g n c cap a l W20 (by omega) ((txt_lent HOWN.out).2.1) hc (HT.out.below HBW.out (Nat.le_refl _)))).mono ?_
            rintro e V1 ⟨rfl, rfl⟩
            gi_wp2_with fail
            obtain ⟨V2, hV2⟩ : ∃ V2, V2 = W20.setCell ⟨w.heap.size + 1, 0, none⟩ (.bool true) := ⟨_, rfl⟩
            have hk2 : V2.heap[W11.heap.size]? = some (.deferred (some [])) := by rw [hV2]; exact (KeepsOthers.setCell W20 _ _).same _ _ HK2.out rfl
            have hkD : V2.heap[W8.heap.size]? = some (.deferred (some [])) := by rw [hV2]; exact (KeepsOthers.setCell W20 _ _).same _ _ HK1.out rfl
            have hr2 : V2.cell? ⟨w.heap.size + 1, 0, none⟩ = some (.bool true) := by rw [hV2]; exact Boxed.cell (Boxed.set (.bool true) HR20.out)
            have hb2 : Below w.heap.size w V2 := by rw [hV2]; exact HBW.out.setCell (p := ⟨w.heap.size + 1, 0, none⟩) (by simp) _
            rw [← hV2]
            clear hV2 dr fr dn dw
            have hlt9 := HLT9.out
            have hzl := HZL.out
            have hz8 := HZ8.out
            have hne : W8.heap.size ≠ W11.heap.size := by omega
            have hh2 : ∀ r, some W11.heap.size = some r → ∃ o : Obj, V2.heap[r]? = some o ∧ o.isCells = false := fun r e => by cases e; exact ⟨_, hk2, rfl⟩
            have hr3 := cell_kept hr2 (grownBy_putObj' V2 W11.heap.size (.deferred none)) hh2
            have hb3 := hb2.trans (belowK_b (w := w) (Nat.le_refl _) V2 W11.heap.size _ (.deferred none) (by omega) hk2 rfl rfl)
            have hk3 : (V2.putObj W11.heap.size (.deferred none)).heap[W8.heap.size]? = some (.deferred (some [])) := (World.putObj_heap_other hne).trans hkD
            have hh3 : ∀ r, some W8.heap.size = some r → ∃ o : Obj, (V2.putObj W11.heap.size (.deferred none)).heap[r]? = some o ∧ o.isCells = false := fun r e => by cases e; exact ⟨_, hk3, rfl⟩
            have hr4 := cell_kept hr3 (grownBy_putObj' (V2.putObj W11.heap.size (.deferred none)) W8.heap.size (.deferred none)) hh3
            have hb4 := hb3.trans (belowK_b (w := w) (Nat.le_refl _) (V2.putObj W11.heap.size (.deferred none)) W8.heap.size _ (.deferred none) (by omega) hk3 rfl rfl)
            refine ⟨by simp, .inl ⟨_, _, rfl, run_takeDeferred hk2, ?_⟩⟩
            refine ⟨by simp, .inl ⟨_, _, rfl, run_takeDeferred hk3, ?_⟩⟩
            refine ⟨.bool true, ?_, rfl, hb4⟩
            simp [results, Try.f4, go_sem, hr4]
    | some q =>
      obtain ⟨mm, j⟩ := q
      have HMC := Lib.hid (msg_some HR.out.st hrd)
      obtain ⟨g1, g2, g3⟩ := rdM_step hrd (by rw [HT.out.1]; exact hk)
      rw [HT.out.1] at g1
      have hstep : ∃ f', f = f' + 1 := ⟨f - 1, by omega⟩
      obtain ⟨f', rfl⟩ := hstep
      have HSP := Lib.hid (show rowsF l = acc.map strip9 ++ ((mm, k + j) :: rdR f' (k + j) (l.drop (k + j))) by rw [HR.out.sp, rdR_on f' hrd])
      have HPM := Lib.hid g3
      clear hrd g3
      gi_wp2_with fail
      refine ⟨trivial, ?_⟩
      refine (callsIn_wide.2 HMC.out).mono ?_
      rintro e w4 ⟨al, cp, rfl, hro, hst, he⟩
      have HJ4 := Lib.hid (HR.out.j.eff HR.out.st.at.1 he)
      have HST4 := Lib.hid hst
      have HRO4 := Lib.hid hro
      have hz4 := he.size
      clear hro hst he HMC
      obtain ⟨W5, hW5⟩ : ∃ W5, W5 = w4.alloc (.cells #[.int .i64 mm.id, .string ⟨mm.tag.toArray⟩, .slice al mm.vs.length cp] 35) := ⟨_, rfl⟩
      have hba : Below w4.heap.size w4 W5 := by rw [hW5]; exact (Below.refl _ w4).alloc (Nat.le_refl _) _
      have HX5 := Lib.hid (show Bk W5 w4.heap.size 35 [.int .i64 mm.id, .string ⟨mm.tag.toArray⟩, .slice al mm.vs.length cp] by rw [hW5]; exact Bk.new w4 _ _)
      have HJ5 := Lib.hid (HJ4.out.below hba (by omega))
      have HST5 := Lib.hid (HST4.out.below hba)
      have HRO5 := Lib.hid (own_keep9 HRO4.out hba)
      have HEND := Lib.hid (end_some HST5.out)
      have HW5 := Lib.hid hW5
      have hz5 := hba.size
      clear hba hW5 HJ4 HST4 HRO4
      gi_wp2_with fail
      rw [← HW5.out]
      refine ⟨trivial, ?_⟩
      refine (callsIn_wide.2 HEND.out).mono ?_
      rintro e w6 ⟨rfl, rfl⟩
      have x0 := HX5.out.c 0 rfl
      have x1 := HX5.out.c 1 rfl
      have x2 := HX5.out.c 2 rfl
      have dw := HJ5.out.wb.cell
      have dp := HJ5.out.pb.cell
      have fw := HJ5.out.wb.frozen
      have fp := HJ5.out.pb.frozen
      clear HEND
      obtain ⟨i1, hi, hz0, hz1, hz2⟩ := info_parts3 info35
      obtain ⟨i2, ki, kz0, kz1, kz2⟩ := info_parts3 info3
      have hac : acc.length ≤ 1048576 := by omega
      have hcv : IntKind.i64.wrap ((k : Int) + (j : Int)) = (k : Int) + (j : Int) := by rw [IntKind.wrap_i64]; omega
      have hbl : Below W5.heap.size W5 (W5.alloc (.cells (cellsI (mm, (al, cp))).toArray 35)) := (Below.refl _ W5).alloc (Nat.le_refl _) _
      have HJ6 := Lib.hid (HJ5.out.below hbl (by omega))
      have HIX : Hid (InX ((mm, (al, cp)), k + j) (W5.alloc (.cells (cellsI (mm, (al, cp))).toArray 35))) := Lib.hid ⟨own_keep9 HRO5.out hbl, HPM.out⟩
      have hwr := HJ6.out.wn.row
      rw [List.length_map] at hwr
      have HWR := Lib.hid hwr
      have hPz : P + 3 ≤ W5.heap.size := by omega
      clear hbl hwr HJ5 HRO5
      gi_wp2_with (first | (gi_at_builtin; refine wpListIn_append_own _ rfl _ _ 51 rfl (P + 3) 35 i1 (.agg #[.int .i64 0, .string ⟨#[]⟩, .slice none 0 0]) 3 48 Try.underlying51 hi hz0 hz1 hz2 rfl (by decide) (.slice wa acc.length wq) acc.length (cellsW (acc.map fun x : X9 => x.1)) rfl HWR.out ⟨W5.heap.size, 0, none⟩ 1 1 (cellsI (mm, (al, cp))) rfl rfl (cells_laid W5 (cellsI (mm, (al, cp))) 35) (by rw [← List.append_nil (cellsI (mm, (al, cp))), ← show cellsW [(mm, (al, cp))] = cellsI (mm, (al, cp)) ++ [] from rfl]; exact cellsW_one _) (by unfold maxLen; omega) (by omega) (by simp; omega) ?_; intro v7 w7 hown7 hgrow7 hnil7; obtain ⟨g7, c7, rfl⟩ := ownsRow_succ hown7; obtain ⟨q1, q2, q3, q4, q5, q6, q7⟩ := HJ6.out.want HIX.out hown7 hgrow7; have dw7 := (boxed_ko HJ6.out.wb (by decide) q6).cell; have fw7 := (boxed_ko HJ6.out.wb (by decide) q6).frozen; have dp8 := q3.cell; have fp8 := q3.frozen; have hz7 := hgrow7.size; have hz8 : W5.heap.size ≤ w7.heap.size := Nat.le_trans (Nat.le_of_lt (by rw [World.size_alloc]; exact Nat.lt_succ_self _)) hz7; have Q1 := Lib.hid q1; have Q2 := Lib.hid q2; have Q3 := Lib.hid q3; have Q4 := Lib.hid q4; have Q5 := Lib.hid q5; have Q6 := Lib.hid q6; have Q7 := Lib.hid q7; clear hown7 hgrow7 hnil7 hz7 q1 q2 q3 q4 q5 q6 q7 dw fw dp fp x0 x1 x2) | (gi_at_builtin; refine wpListIn_append_own _ rfl _ _ 52 rfl (P + 3) 3 i2 (.int .i64 0) 1 8 Try.underlying52 ki kz0 kz1 kz2 rfl (by decide) (.slice pa acc.length pc) acc.length (acc.map fun x : X9 => .int .i64 (x.2 : Nat)) rfl (Q4.out.alloc _) ⟨w7.heap.size, 0, none⟩ 1 1 [.int .i64 ((k : Int) + (j : Int))] rfl rfl (places_laid w7 P _ _ _) (by simp [Value.oneCell']) (by unfold maxLen; omega) (by omega) (by simp; omega) ?_; intro v9 w9 hown9 hgrow9 hnil9; obtain ⟨g9, c9, rfl⟩ := ownsRow_succ hown9; have hb8 : Below (w7.setCell ⟨P, 0, none⟩ (.slice (some ⟨g7, 0, none⟩) (acc.length + 1) c7)).heap.size (w7.setCell ⟨P, 0, none⟩ (.slice (some ⟨g7, 0, none⟩) (acc.length + 1) c7)) ((w7.setCell ⟨P, 0, none⟩ (.slice (some ⟨g7, 0, none⟩) (acc.length + 1) c7)).alloc (.cells #[.int .i64 ((k : Int) + (j : Int))] 3)) := (Below.refl _ _).alloc (Nat.le_refl _) _; obtain ⟨p1, p2, p3, p4, p5, p6, p7⟩ := places_on (Q1.out.below hb8) (boxed_below Q2.out hb8) (boxed_below Q3.out hb8) (Q4.out.alloc _) (Q5.out.alloc (by simp; omega) _) hown9 hgrow9; have dp9 := (boxed_ko (boxed_below Q3.out hb8) (by decide) p6).cell; have fp9 := (boxed_ko (boxed_below Q3.out hb8) (by decide) p6).frozen; have P1 := Lib.hid p1; have P2 := Lib.hid p2; have P3 := Lib.hid p3; have P4 := Lib.hid p4; have P5 := Lib.hid p5; have P6 := Lib.hid p6; have P7 := Lib.hid p7; have HB8 := Lib.hid hb8; clear hown9 hgrow9 hnil9 p1 p2 p3 p4 p5 p6 p7 hb8 dp8 fp8 dw7 fw7))
      have hfin : RdI P w2 a n cap l (k + j) f' (acc ++ [((mm, (al, cp)), k + j)]) (.slice (some ⟨g7, 0, none⟩) (acc.length + 1) c7) (.slice (some ⟨g9, 0, none⟩) (acc.length + 1) c9) (w9.setCell ⟨P + 1, 0, none⟩ (.slice (some ⟨g9, 0, none⟩) (acc.length + 1) c9)) := by
        have hwp : w.heap.size ≤ P := by rw [HPP.out]; omega
        have hbf := HB2.out.trans (P5.out.mono hwp)
        have e : (acc ++ [(((mm, (al, cp)), k + j) : X9)]).map (fun x : X9 => Value.int .i64 (x.2 : Nat)) = (acc.map fun x : X9 => Value.int .i64 (x.2 : Nat)) ++ [.int .i64 ((k : Int) + (j : Int))] := by simp
        refine ⟨HST5.out.re (HT.out.below hbf (Nat.le_refl _)) (fun cs hcs => ?_), P2.out, P3.out, P1.out, ?_, P5.out, g1, by omega, ?_, by simp; omega⟩
        · have s1 : Bk (W5.alloc (.cells (cellsI (mm, (al, cp))).toArray 35)) (P + 2) 40 cs := hcs.alloc _
          have s2 := s1.ko (by decide) Q6.out
          have s3 := s2.ko (by decide) Q7.out
          have s4 := s3.keep HB8.out s3.lt
          have s5 := s4.ko (by decide) P6.out
          exact s5.ko (by decide) P7.out
        · rw [e, List.length_append]
          exact P4.out
        · rw [HSP.out]; simp [strip9]
      have hoff2 := offW_at hfin.st.at.1
      go_roundw
      case rel => exact ⟨k + j, f', _, _, _, Lib.hid hfin⟩
      case measure => rw [hoff, hoff2]; omega
theorem wirerows_walk (a : Option Addr) (n cap : Nat) (l : List UInt8) (most : Int) (w : World) (hmo : -9223372036854775808 ≤ most ∧ most ≤ 9223372036854775807) (ht : Txt w a n cap l) (hab : ∀ x : Addr, a = some x → x.block < w.heap.size) (hr : n ≤ 1048576) :
    Calls Try.prog 4 #[.slice a n cap, .int .i64 most] w fun e W' => e = .returned (.bool true) ∧ Below w.heap.size w W' :=
  (callsIn_wide (n := 5)).1 (wirerows_in 5 a n cap l most w (Nat.le_refl _) hmo ht hab hr)
end Go.Proofs.Ytloofajopgbfmaa
