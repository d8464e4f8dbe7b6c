/- WireReads: the walk. -/
import Derived.Test.YtloofajopgbfmaaWjKb
set_option linter.all false
namespace Go.Proofs.Ytloofajopgbfmaa
open Go.RowKit
set_option maxRecDepth 100000
set_option maxHeartbeats 32000000 in
theorem wirereads_walk (a : Option Addr) (n cap : Nat) (l : List UInt8) (w : World) (ht : Txt w a n cap l) (hr : n ≤ 140737488351232) :
    Calls Try.prog 3 #[.slice a n cap] w fun e w' => e = .returned (.bool true) ∧ Below w.heap.size w w' := by
  have sf : ∀ (p : Addr) (b : Nat) (mo : Mode) (w' : World), (store p (.float .f64 b) mo).run Try.prog w' = stored Try.prog w' p (.float .f64 b) mo := fun p b mo w' => run_store _ w' p _ mo rfl
  have sc : ∀ (p : Addr) (b c : Nat) (mo : Mode) (w' : World), (store p (.complex .f64 b c) mo).run Try.prog w' = stored Try.prog w' p (.complex .f64 b c) mo := fun p b c mo w' => run_store _ w' p _ mo rfl
  have hle := lent_any a n cap l w ht hr
  unfold Lent at hle
  have HL := Lib.hid hle
  have hln := ht.1
  have HLN := Lib.hid hln
  clear hle ht hln
  go_enter Try.func3, Try.ntmps3
  go_upto_region 2 with (go_at_call 6; (with_reducible refine HL.out.mono ?_); rintro e w1 ⟨g, cp, rfl, hcp, hgl, hown, hb1⟩; have HG := Lib.hid hown; have HB1 := Lib.hid hb1; clear hown hb1)
  go_wp2_with fail
  go_loopw [4] (fun tt wr => ∃ (t : Nat) (l2 : List UInt8), tt = .int .i64 t ∧ t ≤ 2 ∧ Hid (wr.ownsRow w.heap.size 5 1 (.slice (some ⟨g, 0, none⟩) (n + 2) cp) (n + 2) (u8s (l2 ++ [201, 202]))) ∧ Hid (Below w.heap.size w wr)) (fun tt _ => 2 - (intOf tt).toNat)
  case atStart => exact ⟨0, l, rfl, by omega, HG, HB1⟩
  case round =>
    obtain ⟨t, l2, rfl, ht2, HR, HB⟩ := hrel
    clear HG HB1 HL
    rcases Nat.lt_or_ge t 2 with hlt | hge
    · obtain ⟨hT, hAt, hll, hcp2⟩ := txt_lent HR.out
      have HT := Lib.hid hT
      have HAT := Lib.hid hAt
      have HLL := Lib.hid hll
      have hgw : g < wr.heap.size := (HR.out.lt g rfl).2
      have hle := lent_any (some ⟨g, 0, none⟩) n cp l2 wr hT hr
      unfold Lent at hle
      have HL2 := Lib.hid hle
      obtain ⟨x, N1, E1, o1, hux⟩ := uv l2
      obtain ⟨vs, N2, E2, o2, hup⟩ := up l2
      obtain ⟨m, N3, E3, o3, hum⟩ := um l2
      have UX := Lib.hid hux
      have UPP := Lib.hid hup
      have UMM := Lib.hid hum
      clear hT hAt hll hle hux hup hum
      go_upto_region 6 with (go_at_call 6; (with_reducible refine HL2.out.mono ?_); rintro e w2 ⟨g2, cp9, rfl, hcp9, hgl9, hown, hb2⟩; have HI2 := Lib.hid hown; have HB2 := Lib.hid hb2; clear hown hb2)
      have HC := Lib.hid (UX.out.pc (HT.out.below HB2.out (Nat.le_refl _)))
      clear HL2
      go_upto_region 7 with (go_at_call 7; (with_reducible refine HC.out.mono ?_); rintro e w3 ⟨rfl, hb3⟩; have HB3 := Lib.hid (show Below wr.heap.size wr w3 from HB2.out.trans (hb3.mono HB2.out.size)); have HI3 := Lib.hid (own_keep9 HI2.out hb3); clear hb3)
      obtain ⟨W3, hW3⟩ : ∃ W3, W3 = w3.alloc (.cells #[.int .i64 x.kd, .int .i64 x.iv, .float .f64 x.rl, .complex .f64 x.re x.im, .string ⟨x.tx.toArray⟩] 27) := ⟨_, rfl⟩
      have hba : Below w3.heap.size w3 W3 := by rw [hW3]; exact (Below.refl _ w3).alloc (Nat.le_refl _) _
      have HX3 := Lib.hid (show Bk W3 w3.heap.size 27 (cellsO x) by rw [hW3]; exact Bk.new w3 _ _)
      have HB4 := Lib.hid (HB3.out.trans (hba.mono HB3.out.size))
      have HI4 := Lib.hid (own_keep9 HI3.out hba)
      have hxv : wr.heap.size ≤ w3.heap.size := HB3.out.size
      rw [← hW3]
      generalize w3.heap.size = XV at *
      clear hW3 hba HC HB2 HI2 HB3 HI3
      have HC := Lib.hid (UPP.out.pc (HT.out.below HB4.out (Nat.le_refl _)))
      go_upto_region 8 with (go_at_call 8; (with_reducible refine HC.out.mono ?_); rintro e w5 ⟨⟨ap, cpp, rfl, hro⟩, hb5⟩; have HP5 := Lib.hid (own_base9 hro HB4.out.size); have HB5 := Lib.hid (show Below wr.heap.size wr w5 from HB4.out.trans (hb5.mono HB4.out.size)); have HI5 := Lib.hid (own_keep9 HI4.out hb5); have HX5 := Lib.hid (HX3.out.keep hb5 HX3.out.lt); clear hb5 hro)
      clear HC HB4 HI4 HX3
      have HC := Lib.hid (UMM.out.pc (HT.out.below HB5.out (Nat.le_refl _)))
      go_upto_region 9 with (go_at_call 9; (with_reducible refine HC.out.mono ?_); rintro e w6 ⟨⟨am, cpm, rfl, hro⟩, hb6⟩; have HM6 := Lib.hid (own_base9 hro HB5.out.size); have HB6 := Lib.hid (show Below wr.heap.size wr w6 from HB5.out.trans (hb6.mono HB5.out.size)); have HI6 := Lib.hid (own_keep9 HI5.out hb6); have HX6 := Lib.hid (HX5.out.keep hb6 HX5.out.lt); have HP6 := Lib.hid (own_keep9 HP5.out hb6); clear hb6 hro)
      clear HC HB5 HI5 HX5 HP5
      go_upto_region 12 with (fail)
      obtain ⟨Wa, hWa⟩ : ∃ Wa, Wa = w6.alloc (.cells #[.int .i64 m.id, .string ⟨m.tag.toArray⟩, .slice am m.vs.length cpm] 35) := ⟨_, rfl⟩
      obtain ⟨Wb, hWb⟩ : ∃ Wb, Wb = Wa.alloc (.cells #[.slice (some ⟨g2, 0, none⟩) n cp9, .int .i64 0, .bool false] 40) := ⟨_, rfl⟩
      obtain ⟨Wc, hWc⟩ : ∃ Wc, Wc = Wb.alloc (.cells #[.slice (some ⟨g2, 0, none⟩) n cp9, .int .i64 0, .bool false] 40) := ⟨_, rfl⟩
      obtain ⟨W7, hW7⟩ : ∃ W7, W7 = Wc.alloc (.cells #[.slice (some ⟨g2, 0, none⟩) n cp9, .int .i64 0, .bool false] 40) := ⟨_, rfl⟩
      have za : Wa.heap.size = w6.heap.size + 1 := by rw [hWa]; simp
      have zb : Wb.heap.size = w6.heap.size + 1 + 1 := by rw [hWb, World.size_alloc, za]
      have zc : Wc.heap.size = w6.heap.size + 1 + 1 + 1 := by rw [hWc, World.size_alloc, zb]
      have z7 : W7.heap.size = w6.heap.size + 1 + 1 + 1 + 1 := by rw [hW7, World.size_alloc, zc]
      have kM : Bk W7 w6.heap.size 35 [.int .i64 m.id, .string ⟨m.tag.toArray⟩, .slice am m.vs.length cpm] := by
        rw [hW7, hWc, hWb, hWa]; exact (((Bk.new w6 _ _).alloc _).alloc _).alloc _
      have kR : Bk W7 (w6.heap.size + 1) 40 [.slice (some ⟨g2, 0, none⟩) n cp9, .int .i64 0, .bool false] := by
        rw [hW7, hWc, hWb, ← za]; exact ((Bk.new Wa _ _).alloc _).alloc _
      have kS : Bk W7 (w6.heap.size + 1 + 1) 40 [.slice (some ⟨g2, 0, none⟩) n cp9, .int .i64 0, .bool false] := by
        rw [hW7, hWc, ← zb]; exact (Bk.new Wb _ _).alloc _
      have kT : Bk W7 (w6.heap.size + 1 + 1 + 1) 40 [.slice (some ⟨g2, 0, none⟩) n cp9, .int .i64 0, .bool false] := by
        rw [hW7, ← zc]; exact Bk.new Wc _ _
      have hq7 : Below w6.heap.size w6 W7 := by
        rw [hW7, hWc, hWb, hWa]; exact ((((Below.refl _ w6).alloc (Nat.le_refl _) _).alloc (by simp) _).alloc (by simp; omega) _).alloc (by simp; omega) _
      have hg26 : g2 < w6.heap.size := (HI6.out.lt g2 rfl).2
      have htis : Txt w6 (some ⟨g2, 0, none⟩) n cp9 l2 := (txt_lent HI6.out).1
      have htis7 := htis.below hq7 (Nat.le_refl _)
      have offP : ∀ q, w6.heap.size ≤ q → ∀ y : Addr, some (⟨g2, 0, none⟩ : Addr) = some y → y.block ≠ q := fun q hq y e => by
        cases e; show g2 ≠ q; omega
      have OFF := Lib.hid offP
      have HRS := Lib.hid (RSt.start htis7 (offP _ (by omega)) kR)
      have HSS := Lib.hid (RSt.start htis7 (offP _ (by omega)) kS)
      have HTS := Lib.hid (RSt.start htis7 (offP _ (by omega)) kT)
      have HMB := Lib.hid kM
      have HQ7 := Lib.hid hq7
      have Z7 := Lib.hid z7
      have e7 : ((((w6.alloc (.cells #[.int .i64 m.id, .string ⟨m.tag.toArray⟩, .slice am m.vs.length cpm] 35)).alloc (.cells #[.slice (some ⟨g2, 0, none⟩) n cp9, .int .i64 0, .bool false] 40)).alloc (.cells #[.slice (some ⟨g2, 0, none⟩) n cp9, .int .i64 0, .bool false] 40)).alloc (.cells #[.slice (some ⟨g2, 0, none⟩) n cp9, .int .i64 0, .bool false] 40)) = W7 := by rw [hW7, hWc, hWb, hWa]
      rw [e7]
      clear e7 hWa hWb hWc hW7 za zb zc z7 kM kR kS kT hq7 htis htis7 offP
      obtain ⟨P, hP⟩ : ∃ P, P = w6.heap.size := ⟨_, rfl⟩
      have HPP := Lib.hid hP
      rw [← hP] at HRS HSS HTS HMB HQ7 Z7 OFF hg26 ⊢
      clear hP
      have HC := Lib.hid (UX.out.rc HRS.out)
      go_upto_region 13 with (go_at_call 10; (with_reducible refine HC.out.mono ?_); rintro e w8 ⟨rfl, hs8, he8⟩; have HRS8 := Lib.hid hs8; have HSS8 := Lib.hid (HSS.out.eff he8 (by omega) (OFF.out _ (by omega))); have HTS8 := Lib.hid (HTS.out.eff he8 (by omega) (OFF.out _ (by omega))); have HMB8 := Lib.hid (HMB.out.eff he8 (by omega)); have HQ8 := Lib.hid (Below.of_eff HQ7.out he8 (by omega) (by rw [HPP.out]; exact Nat.le_refl _)); have HZ8 := Lib.hid he8.size; clear hs8 he8)
      have hz8 : P + 1 + 1 + 1 + 1 ≤ w8.heap.size := by have := HZ8.out; rw [Z7.out] at this; exact this
      obtain ⟨W8, hW8⟩ : ∃ W8, W8 = w8.alloc (.cells #[.int .i64 x.kd, .int .i64 x.iv, .float .f64 x.rl, .complex .f64 x.re x.im, .string ⟨x.tx.toArray⟩] 27) := ⟨_, rfl⟩
      have hba : Below w8.heap.size w8 W8 := by rw [hW8]; exact (Below.refl _ w8).alloc (Nat.le_refl _) _
      have HXR := Lib.hid (show Bk W8 w8.heap.size 27 (cellsO x) by rw [hW8]; exact Bk.new w8 _ _)
      have HRSa := Lib.hid (HRS8.out.below hba)
      have HSSa := Lib.hid (HSS8.out.below hba)
      have HTSa := Lib.hid (HTS8.out.below hba)
      have HMBa := Lib.hid (HMB8.out.keep hba HMB8.out.lt)
      have HQa := Lib.hid (HQ8.out.trans (hba.mono (by omega)))
      have hza : w8.heap.size + 1 = W8.heap.size := by rw [hW8]; simp
      have HZa := Lib.hid hza
      rw [← hW8]
      generalize w8.heap.size = XR at *
      clear hW8 hba hza HRS8 HSS8 HTS8 HMB8 HQ8 HZ8 HC HRS HSS HTS HMB HQ7
      have HC := Lib.hid (UPP.out.rc HSSa.out)
      go_upto_region 14 with (go_at_call 11; (with_reducible refine HC.out.mono ?_); rintro e w9 ⟨aq, cpq, rfl, hro, hs9, he9⟩; have HSS9 := Lib.hid hs9; have HRS9 := Lib.hid (HRSa.out.eff he9 (by omega) (OFF.out _ (by omega))); have HTS9 := Lib.hid (HTSa.out.eff he9 (by omega) (OFF.out _ (by omega))); have HMB9 := Lib.hid (HMBa.out.eff he9 (by omega)); have HXR9 := Lib.hid (HXR.out.eff he9 (by omega)); have HQ9 := Lib.hid (Below.of_eff HQa.out he9 (by omega) (by rw [HPP.out]; exact Nat.le_refl _)); have HPR9 := Lib.hid hro; have HZ9 := Lib.hid he9.size; clear hs9 he9 hro)
      have hz9 : XR + 1 ≤ w9.heap.size := by have := HZ9.out; rw [← HZa.out] at this; exact this
      have hpr9 : W8.heap.size = XR + 1 := HZa.out.symm
      have HPR := Lib.hid (own_base9 (B' := XR + 1) HPR9.out (by rw [hpr9]; exact Nat.le_refl _))
      clear HC HRSa HSSa HTSa HMBa HXR HQa hpr9 HPR9
      have HC := Lib.hid (UMM.out.rc HTS9.out)
      go_upto_region 15 with (go_at_call 12; (with_reducible refine HC.out.mono ?_); rintro e w10 ⟨az, cpz, rfl, hro, hs10, he10⟩; have HTSb := Lib.hid hs10; have HRSb := Lib.hid (HRS9.out.eff he10 (by omega) (OFF.out _ (by omega))); have HSSb := Lib.hid (HSS9.out.eff he10 (by omega) (OFF.out _ (by omega))); have HMBb := Lib.hid (HMB9.out.eff he10 (by omega)); have HXRb := Lib.hid (HXR9.out.eff he10 (by omega)); have HQb := Lib.hid (Below.of_eff HQ9.out he10 (by omega) (by rw [HPP.out]; exact Nat.le_refl _)); have HPRb := Lib.hid (own_eff9 HPR.out he10 (fun q hq => by have := (HPR.out.lt q hq).1; omega)); have HZRb := Lib.hid (own_base9 (B' := XR + 1) hro hz9); have HZb := Lib.hid he10.size; clear hs10 he10 hro)
      have hzb : XR + 1 ≤ w10.heap.size := Nat.le_trans hz9 HZb.out
      obtain ⟨WZ, hWZ⟩ : ∃ WZ, WZ = w10.alloc (.cells #[.int .i64 m.id, .string ⟨m.tag.toArray⟩, .slice az m.vs.length cpz] 35) := ⟨_, rfl⟩
      have hba : Below w10.heap.size w10 WZ := by rw [hWZ]; exact (Below.refl _ w10).alloc (Nat.le_refl _) _
      have HZB := Lib.hid (show Bk WZ w10.heap.size 35 [.int .i64 m.id, .string ⟨m.tag.toArray⟩, .slice az m.vs.length cpz] by rw [hWZ]; exact Bk.new w10 _ _)
      have HRSz := Lib.hid (HRSb.out.below hba)
      have HSSz := Lib.hid (HSSb.out.below hba)
      have HTSz := Lib.hid (HTSb.out.below hba)
      have HMB := Lib.hid (HMBb.out.keep hba HMBb.out.lt)
      have HXR := Lib.hid (HXRb.out.keep hba HXRb.out.lt)
      have HQ := Lib.hid (HQb.out.trans (hba.mono (by omega)))
      have HPRz := Lib.hid (own_keep9 HPRb.out hba)
      have HZRz := Lib.hid (own_keep9 HZRb.out hba)
      rw [← hWZ]
      generalize w10.heap.size = ZR at *
      clear hWZ hba HC HRS9 HSS9 HTS9 HMB9 HXR9 HQ9 HPR HZ9 HZb HRSb HSSb HTSb HMBb HXRb HQb HPRb HZRb
      have HE1 := Lib.hid (end_u UX.out.fin HRSz.out)
      have HE2 := Lib.hid (end_u UPP.out.fin HSSz.out)
      have HE3 := Lib.hid (end_u UMM.out.fin HTSz.out)
      go_upto_region 18 with (first
        | (go_at_call 13; (with_reducible refine HE1.out.mono ?_); rintro e w' ⟨rfl, rfl⟩)
        | (go_at_call 13; (with_reducible refine HE2.out.mono ?_); rintro e w' ⟨rfl, rfl⟩)
        | (go_at_call 13; (with_reducible refine HE3.out.mono ?_); rintro e w' ⟨rfl, rfl⟩))
      clear HE1 HE2 HE3 HRSz HSSz HTSz
      have hq9 : Below w6.heap.size w6 WZ := by rw [← HPP.out]; exact HQ.out
      have hbz : Below wr.heap.size wr WZ := HB6.out.trans (hq9.mono HB6.out.size)
      have hXV := HX6.out.keep hq9 HX6.out.lt
      have hpz := own_keep9 HP6.out hq9
      have hmz := own_keep9 HM6.out hq9
      have hiz := own_keep9 HI6.out hq9
      have hP6 : wr.heap.size ≤ P := by rw [HPP.out]; exact HB6.out.size
      have HVS := Lib.hid (fun (W : World) (hW : KB wr.heap.size WZ W) => values_self vs ap aq cpp cpq W UPP.out.ok (by have := UPP.out.few; omega) (own_base9 (own_kb hpz hW (Nat.le_refl _)) (Nat.zero_le _)) (own_base9 (own_kb HPRz.out hW (by omega)) (Nat.zero_le _)))
      have HMS := Lib.hid (fun (W : World) (hW : KB wr.heap.size WZ W) => message_self m am az cpm cpz W UMM.out.ok (by have := UMM.out.few; omega) (own_base9 (own_kb hmz hW (Nat.le_refl _)) (Nat.zero_le _)) (own_base9 (own_kb HZRz.out hW (by omega)) (Nat.zero_le _)))
      have HCM := Lib.hid (fun (W : World) (hW : KB wr.heap.size WZ W) => And.intro (HMB.out.kb hW hP6) (HZB.out.kb hW (by omega)))
      have hsm := fun W => lsame_self x UX.out.ok W
      unfold valO valV at hsm
      have HSM := Lib.hid hsm
      have hrg := own_keep9 HR.out (show Below wr.heap.size wr WZ from hbz)
      have HKP := Lib.hid (fun (W : World) (hW : Below WZ.heap.size WZ W) => kept_any g n cp cp9 (some ⟨g2, 0, none⟩) l2 W hr ((txt_lent (own_keep9 hrg hW)).2.1) (by omega) ((txt_lent (own_keep9 hiz hW)).1))
      have HRG := Lib.hid hrg
      have HBZ := Lib.hid hbz
      have v0 := hXV.c 0 rfl
      have v1 := hXV.c 1 rfl
      have v2 := hXV.c 2 rfl
      have v3 := hXV.c 3 rfl
      have v4 := hXV.c 4 rfl
      have x0 := HXR.out.c 0 rfl
      have x1 := HXR.out.c 1 rfl
      have x2 := HXR.out.c 2 rfl
      have x3 := HXR.out.c 3 rfl
      have x4 := HXR.out.c 4 rfl
      clear hq9 hbz hXV hpz hmz hiz hsm hrg HI6 HP6 HM6 HX6 HPRz HZRz HMB HZB HXR HQ OFF UX UPP UMM HB6
      go_wp2_with fail
      refine (HSM.out _).mono ?_
      rintro e w11 ⟨rfl, hb11⟩
      have HB11 := Lib.hid hb11
      clear v0 v1 v2 v3 v4 x0 x1 x2 x3 x4 hb11
      have HV11 := Lib.hid (HVS.out w11 ((KB.refl _ _).below HB11.out))
      go_wp2_with fail
      refine HV11.out.mono ?_
      rintro e w12 ⟨rfl, hb12⟩
      have HB12 := Lib.hid (HB11.out.trans (hb12.mono HB11.out.size))
      clear hb12 HV11 HB11
      obtain ⟨bm, bz⟩ := HCM.out w12 ((KB.refl _ _).below HB12.out)
      have m0 := bm.c 0 rfl
      have m1 := bm.c 1 rfl
      have m2 := bm.c 2 rfl
      have z0 := bz.c 0 rfl
      have z1 := bz.c 1 rfl
      have z2 := bz.c 2 rfl
      clear bm bz
      have HM12 := Lib.hid (HMS.out w12 ((KB.refl _ _).below HB12.out))
      go_wp2_with fail
      refine HM12.out.mono ?_
      rintro e w13 ⟨rfl, hb13⟩
      have HB13 := Lib.hid (HB12.out.trans (hb13.mono HB12.out.size))
      clear hb13 HM12 HB12 m0 m1 m2 z0 z1 z2
      have HK13 := Lib.hid (HKP.out w13 HB13.out)
      go_wp2_with fail
      refine HK13.out.mono ?_
      rintro e w' ⟨rfl, rfl⟩
      clear HK13 HKP
      have HG0 := Lib.hid (own_keep9 HRG.out HB13.out)
      go_wp2_with fail
      have HKB0 := Lib.hid ((KB.refl wr.heap.size WZ).below HB13.out)
      have HW0 : Hid (Below w.heap.size w w13) := Lib.hid (HB.out.trans ((HBZ.out.mono HB.out.size).trans (HB13.out.mono (Nat.le_trans HB.out.size HBZ.out.size))))
      clear HR HT HAT HRG HBZ HB13 HSM Z7 HZa HPP
      generalize wr = wo at *
      go_loopw [27] (fun qq wr => ∃ k : Nat, qq = .int .i64 k ∧ k ≤ n ∧ Hid (wr.ownsRow w.heap.size 5 1 (.slice (some ⟨g, 0, none⟩) (n + 2) cp) (n + 2) (u8s (incF l2 k ++ [201, 202]))) ∧ Hid (KB wo.heap.size WZ wr) ∧ Hid (Below w.heap.size w wr)) (fun qq _ => n - (intOf qq).toNat)
      case atStart => exact ⟨0, rfl, Nat.zero_le _, by rw [incF_zero]; exact HG0, HKB0, HW0⟩
      case round =>
        clear HG0 HKB0 HW0
        obtain ⟨k, rfl, hk, HRK, HKB, HWK⟩ := hrel
        rcases Nat.lt_or_ge k n with hkl | hkg
        · have hkl2 : k < l2.length := by rw [HLL.out]; exact hkl
          have hcell := HRK.out.cellAt k (by omega)
          rw [incF_at l2 k _ hkl2] at hcell
          have hfz := HRK.out.frozenAt k
          have hgl := (HRK.out.lt g rfl).2
          have hib := inc_byte l2[k]
          have hst := (HRK.out.stored k (.int .u8 (((l2[k] + 1 : UInt8).toNat : Nat) : Int))).1
          rw [incF_set l2 k _ hkl2] at hst
          have hcb : l2[k].toNat < 256 := l2[k].toNat_lt
          generalize (l2[k] + 1 : UInt8).toNat = D at *
          generalize l2[k].toNat = C at *
          have HST := Lib.hid hst
          have HK2 := Lib.hid (HKB.out.set hgw k (.int .u8 (D : Int)))
          have HW2 := Lib.hid (HWK.out.setCell (p := ⟨g, k, none⟩) (by assumption) (.int .u8 (D : Int)))
          clear hst
          go_wp2
          go_roundw
          case rel => exact ⟨k + 1, by go_num, by omega, HST, HK2, HW2⟩
          case measure => simp [intOf]; omega
        · obtain rfl : k = n := by omega
          have HV14 := Lib.hid (HVS.out _ HKB.out)
          go_wp2_with fail
          refine HV14.out.mono ?_
          rintro e w14 ⟨rfl, hb14⟩
          have HK14 := Lib.hid (HKB.out.below hb14)
          have HR14 := Lib.hid (own_keep9 HRK.out hb14)
          have HW14 := Lib.hid (HWK.out.trans (hb14.mono HWK.out.size))
          clear hb14 HV14
          obtain ⟨bm, bz⟩ := HCM.out w14 HK14.out
          have m0 := bm.c 0 rfl
          have m1 := bm.c 1 rfl
          have m2 := bm.c 2 rfl
          have z0 := bz.c 0 rfl
          have z1 := bz.c 1 rfl
          have z2 := bz.c 2 rfl
          clear bm bz
          have HM14 := Lib.hid (HMS.out w14 HK14.out)
          go_wp2_with fail
          refine HM14.out.mono ?_
          rintro e w15 ⟨rfl, hb15⟩
          have HR15 := Lib.hid (own_keep9 HR14.out hb15)
          have HW15 := Lib.hid (HW14.out.trans (hb15.mono HW14.out.size))
          clear hb15 HM14 m0 m1 m2 z0 z1 z2
          go_wp2_with fail
          go_roundw
          case rel => exact ⟨t + 1, incF l2 k, by go_num, by omega, HR15, HW15⟩
          case measure => simp [intOf]; omega
    · obtain rfl : t = 2 := by omega
      go_wp2
      go_ret
      exact ⟨rfl, HB.out⟩
end Go.Proofs.Ytloofajopgbfmaa
