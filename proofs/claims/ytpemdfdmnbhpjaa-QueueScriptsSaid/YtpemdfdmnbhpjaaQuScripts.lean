/- QueueScripts: the walk. -/
import Derived.Test.YtpemdfdmnbhpjaaQuPair
import Derived.Deep.CutBlock
set_option linter.all false
namespace Go.Proofs.Ytpemdfdmnbhpjaa
open Go.RowKit Go.Shelf
set_option maxRecDepth 100000
theorem isNone_eq {p q : Option Addr} (h : p = none ↔ q = none) : (p.isNone == q.isNone) = true := by
  cases p <;> cases q <;> simp_all
set_option maxHeartbeats 8000000 in
theorem queuescripts_walk (most : Int) (a : Option Addr) (n cap : Nat) (bn : Bool) (L : List S3) (w : World) (hm : In most) (hS : Stps w a n cap L) (hn : n ≤ 8796093022000) :
    Calls Try.prog 3 #[.int .i64 most, .slice a n cap, .bool bn] w fun e w' => e = .returned (.bool true) ∧ Below w.heap.size w w' := by
  have HST := Lib.hid hS
  have hnc := hS.room
  have hcm := hS.top
  unfold maxLen at hcm
  have HN := Lib.hid (qnew most w.heap.size w (Nat.le_refl _) hm)
  have HM := Lib.hid hm
  have HE := Lib.hid (fun W => num_any (newE most) W (newE_in most))
  have HW := Lib.hid hn
  clear hS hm hn
  go_enter Try.func3, Try.ntmps3
  go_upto_region 3 with (first
    | (go_at_call 7; refine HN.out.mono ?_; rintro e w1 ⟨pq, F1, rfl, hq1, hb1, hp1, hf1⟩; have HQ1 := Lib.hid hq1; have HB1 := Lib.hid hb1; have HP1 := Lib.hid hp1; have HF1 := Lib.hid hf1; clear hq1 hb1 hp1 hf1)
    | (go_at_call 8; refine (rnew most w.heap.size w1 HB1.out.size HM.out).mono ?_; rintro e w2 ⟨pr, F2, rfl, hr2, hb2, hp2, hf2⟩; have HR2 := Lib.hid hr2; have HB2 := Lib.hid hb2; have HP2 := Lib.hid hp2; have HF2 := Lib.hid hf2; clear hr2 hb2 hp2 hf2))
  have HQ2 := Lib.hid (HQ1.out.below HB2.out)
  have HD := Lib.hid (show ∀ b ∈ F1, b ∉ F2 from fun b hb e => by have := (HQ1.out.lt b hb).2; have := HF2.out b e; omega)
  have HBE := Lib.hid (HB1.out.trans (HB2.out.mono HB1.out.size))
  have t2 : (pq.isNone == pr.isNone) = true := isNone_eq (HP1.out.trans HP2.out.symm)
  have HL := Lib.hid (newO_len most)
  have HE2 := Lib.hid (HE.out w2)
  clear HN HQ1 HB1 HB2 HP1 HP2 HF1 HF2 HE
  generalize newO most = o at HQ2 HR2 HL
  generalize newE most = er at HE2
  have t1 : (er != er) = false := by simp
  go_upto_if 50 with (go_at_call 9; refine HE2.out.mono ?_; rintro e w' ⟨rfl, rfl⟩)
  clear t1 t2 HE2 HM
  go_cut [7, 9] (fun s7 s9 wx => ∃ (pq pr : Option Addr) (F1 F2 : List Nat) (o : Option Qs), s7 = .pointer pq ∧ s9 = .pointer pr ∧ Hid (QO wx w.heap.size pq F1 o) ∧ Hid (RO wx w.heap.size pr F2 o) ∧ Hid (∀ b ∈ F1, b ∉ F2) ∧ Hid (Below w.heap.size w wx) ∧ Hid (lenO o = 0))
  case first =>
    cases bn with
    | true =>
      go_wp2_with fail
      go_meet
      exact ⟨none, none, [], [], none, rfl, rfl, Lib.hid (.inl ⟨rfl, rfl, rfl⟩), Lib.hid (.inl ⟨rfl, rfl, rfl⟩), Lib.hid (fun b hb => by cases hb), HBE, Lib.hid rfl⟩
    | false =>
      go_wp2_with fail
      go_meet
      exact ⟨pq, pr, F1, F2, o, rfl, rfl, HQ2, HR2, HD, HBE, HL⟩
  case rest =>
    clear HQ2 HR2 HD HBE HL
    obtain ⟨pq, pr, F1, F2, o, rfl, rfl, HQ2, HR2, HD, HBE, HL⟩ := hcut
    have HSC : Hid (Sc w o o none none pq pr none none F1 F2 [] [] wc) := Lib.hid ⟨⟨HQ2.out, HR2.out, .inl ⟨rfl, rfl, rfl⟩, .inl ⟨rfl, rfl, rfl⟩, HD.out, (fun b _ e => by cases e), (fun b _ e => by cases e), (fun b _ e => by cases e), (fun b _ e => by cases e), (fun b hb _ => by cases hb)⟩, HBE.out⟩
    have HC := Lib.hid (qcopy HQ2.out HBE.out.size (by rw [HL.out]; omega))
    clear HQ2 HR2 HD HBE
    go_wp2_with (first
      | (go_at_call 10; refine HC.out.mono ?_; rintro e w3 ⟨pc, F3, rfl, h1, hb, hp, hn⟩; have HSC3 := Lib.hid (HSC.out.newc h1 hb hn); have HP3 := Lib.hid hp; clear h1 hb hp hn)
      | (go_at_call 11; refine (rcopy HSC3.out.r (by rw [HL.out]; omega)).mono ?_; rintro e w4 ⟨pd, F4, rfl, h1, hb, hp, hn⟩; have HSC4 := Lib.hid (HSC3.out.newd h1 hb hn); have t3 : (pc.isNone == pd.isNone) = true := isNone_eq (HP3.out.trans hp.symm); clear h1 hb hp hn))
    clear t3 HP3 HSC3 HSC HC
    go_loopw [7, 9, 11, 12, 13] (fun v7 v9 v11 v12 v13 wr => ∃ (k : Nat) (o1 o2 : Option Qs) (pq pr pc pd : Option Addr) (F1 F2 F3 F4 : List Nat), v7 = .pointer pq ∧ v9 = .pointer pr ∧ v11 = .pointer pc ∧ v12 = .pointer pd ∧ v13 = .int .i64 (k : Int) ∧ k ≤ n ∧ Hid (lenO o1 ≤ k ∧ lenO o2 ≤ k) ∧ Hid (Sc w o1 o1 o2 o2 pq pr pc pd F1 F2 F3 F4 wr)) (fun _ _ _ _ vk _ => n - (intOf vk).toNat)
    case atStart => exact ⟨0, o, o, _, _, _, _, _, _, _, _, rfl, rfl, rfl, rfl, rfl, Nat.zero_le _, Lib.hid ⟨by rw [HL.out]; exact Nat.le_refl _, by rw [HL.out]; exact Nat.le_refl _⟩, HSC4⟩
    case round =>
      clear HSC4 HL
      obtain ⟨k, o1, o2, pq, pr, pc, pd, F1, F2, F3, F4, rfl, rfl, rfl, rfl, rfl, hk, HLE, HR⟩ := hrel
      obtain ⟨wo, rfl⟩ : ∃ wo : World, wo = wr := ⟨_, rfl⟩
      rcases Nat.lt_or_ge k n with hlt | hge
      · obtain ⟨st, hst⟩ : ∃ st, L[k]? = some st := ⟨_, List.getElem?_eq_getElem (by rw [HST.out.len]; exact hlt)⟩
        obtain ⟨i1, i2, i3⟩ := HST.out.ins st (List.mem_of_getElem? hst)
        have HI2 := Lib.hid i2
        have HI3 := Lib.hid i3
        obtain ⟨y, rfl, hyb, y0, y1, y2⟩ := (HST.out.below HR.out.bel (Nat.le_refl _)).at0 k st hst
        clear i1 i2 i3 hst hyb
        obtain ⟨W1, hW1⟩ : ∃ W1, W1 = wo.alloc (.cells #[.int .i64 st.k, .int .i64 st.id, .int .i64 st.x] 34) := ⟨_, rfl⟩
        have hb1 : Below wo.heap.size wo W1 := by rw [hW1]; exact (Below.refl _ wo).alloc (Nat.le_refl _) _
        have HR1 := Lib.hid (HR.out.below hb1)
        have HS1 := Lib.hid (show Bk W1 wo.heap.size 34 [.int .i64 st.k, .int .i64 st.id, .int .i64 st.x] by rw [hW1]; exact Bk.new wo _ _)
        obtain ⟨sb, hsb⟩ : ∃ sb, sb = wo.heap.size := ⟨_, rfl⟩
        rw [← hsb] at HS1
        have HSB := Lib.hid (show ∀ b, b ∈ F1 ∨ b ∈ F2 → sb ≠ b from fun b hb => by
          rcases hb with hb | hb
          · have := (HR.out.q.lt b hb).2; omega
          · have := (HR.out.r.lt b hb).2; omega)
        have HE1 := Lib.hid hW1.symm
        have HLQ := Lib.hid (show lenO o1 ≤ 8796093022207 by have := HLE.out.1; have := HW.out; omega)
        have HLC := Lib.hid (show lenO o2 ≤ 8796093022207 by have := HLE.out.2; have := HW.out; omega)
        clear hW1 hb1
        go_upto_region 15 with (fail)
        rw [HE1.out, ← hsb]
        have s0 := HS1.out.c 0 rfl
        have s1 := HS1.out.c 1 rfl
        have s2 := HS1.out.c 2 rfl
        clear y0 y1 y2 hsb HE1 HR
        go_upto_block 2 with (fail)
        go_cut [7, 9, 11, 12] (fun v7 v9 v11 v12 wx => ∃ (o1 o2 : Option Qs) (pq pr pc pd : Option Addr) (F1 F2 F3 F4 : List Nat), v7 = .pointer pq ∧ v9 = .pointer pr ∧ v11 = .pointer pc ∧ v12 = .pointer pd ∧ Hid (lenO o1 ≤ k + 1 ∧ lenO o2 ≤ k + 1) ∧ Hid (Sc w o1 o1 o2 o2 pq pr pc pd F1 F2 F3 F4 wx))
        case first =>
          by_cases h0 : st.k = 0
          · have t0 : (st.k == 0) = true := by simpa using h0
            have tp : (putEO o1 st.id != putEO o1 st.id) = false := by simp
            have HRd := Lib.hid (HR1.out.below (drew_below W1))
            have HSd := Lib.hid (HS1.out.below (drew_below W1))
            clear h0
            go_upto_region 17 with (fail)
            go_region_held3 (fun W => W.cell? ⟨sb, 1, none⟩ = some (.int .i64 st.id) ∧ W.cell? ⟨sb, 2, none⟩ = some (.int .i64 st.x))
              (first | (refine ⟨?_, ?_⟩ <;> assumption) | go_keep)
              (first
                | (go_at_call 12; first
                  | (refine (qput HRd.out.q HRd.out.bel.size HLQ.out HI2.out HI3.out).mono ?_; rintro e w5 ⟨rfl, G1, j1, j2, j3⟩; have HRq := Lib.hid (HRd.out.putq j1 j2 j3); have hs := HSd.out.out j2 (fun e => HSB.out _ (.inl e) rfl); have q1 := hs.c 1 rfl; have q2 := hs.c 2 rfl; have HSq := Lib.hid hs; clear j1 j2 j3 hs)
                  | (refine (qput HRr.out.q HRr.out.bel.size HLQ.out HI2.out HI3.out).mono ?_; rintro e w7 ⟨rfl, G1, j1, j2, j3⟩; have HRf := Lib.hid (HRr.out.putq j1 j2 j3); have hs := HSr.out.out j2 (fun e => HSB.out _ (.inl e) rfl); have q1 := hs.c 1 rfl; have q2 := hs.c 2 rfl; clear j1 j2 j3 hs))
                | (go_at_call 9; refine (num_any _ _ (putEO_in _ _)).mono ?_; rintro e w' ⟨rfl, rfl⟩)
                | (go_at_call 13; first
                  | (refine (rput HRd.out.r HLQ.out HI2.out HI3.out).mono ?_; rintro e w5 ⟨rfl, G2, j1, j2, j3⟩; have HRr := Lib.hid (HRd.out.putr j1 j2 j3); have hs := HSd.out.out j2 (fun e => HSB.out _ (.inr e) rfl); have q1 := hs.c 1 rfl; have q2 := hs.c 2 rfl; have HSr := Lib.hid hs; clear j1 j2 j3 hs)
                  | (refine (rput HRq.out.r HLQ.out HI2.out HI3.out).mono ?_; rintro e w7 ⟨rfl, G2, j1, j2, j3⟩; have HRf := Lib.hid (HRq.out.putr j1 j2 j3); have hs := HSq.out.out j2 (fun e => HSB.out _ (.inr e) rfl); have p1 := hs.c 1 rfl; have p2 := hs.c 2 rfl; clear j1 j2 j3 hs)))
            all_goals
              go_wp2_with fail
              go_meet
              exact ⟨putSO o1 st.id st.x, o2, pq, pr, pc, pd, G1, G2, F3, F4, rfl, rfl, rfl, rfl, Lib.hid ⟨by have := lenO_put o1 st.id st.x; have := HLE.out.1; omega, by have := HLE.out.2; omega⟩, HRf⟩
          · have t0 : (st.k == 0) = false := by simpa using h0
            by_cases h1 : st.k = 1
            · have t1 : (st.k == 1) = true := by simpa using h1
              have tx : (takeXO o1 st.id != takeXO o1 st.id) = false := by simp
              have te : (takeEO o1 st.id != takeEO o1 st.id) = false := by simp
              have HT := Lib.hid (qtake HR1.out.q HR1.out.bel.size st.id)
              have HEI := Lib.hid (takeEO_in o1 st.id)
              have HLT := Lib.hid (lenO_take o1 st.id)
              clear h0 h1
              go_wp2_with (first
                | (go_at_call 14; refine HT.out.mono ?_; rintro e w5 ⟨rfl, G1, j1, j2, j3⟩; have HRq := Lib.hid (HR1.out.putq j1 j2 j3); have hs := HS1.out.out j2 (fun e => HSB.out _ (.inl e) rfl); have q1 := hs.c 1 rfl; clear j1 j2 j3 hs s1 s2)
                | (go_at_call 15; refine (rtake HRq.out.r HLQ.out st.id).mono ?_; rintro e w7 ⟨rfl, G2, j1, j2, j3⟩; have HRf := Lib.hid (HRq.out.putr j1 j2 j3); clear j1 j2 j3 q1)
                | (go_at_call 9; refine (num_any _ _ HEI.out).mono ?_; rintro e w' ⟨rfl, rfl⟩))
              go_meet
              exact ⟨takeSO o1 st.id, o2, pq, pr, pc, pd, G1, G2, F3, F4, rfl, rfl, rfl, rfl, Lib.hid ⟨by have := HLT.out; have := HLE.out.1; omega, by have := HLE.out.2; omega⟩, HRf⟩
            · have t1 : (st.k == 1) = false := by simpa using h1
              by_cases h2 : st.k = 2
              · have t2 : (st.k == 2) = true := by simpa using h2
                obtain ⟨fk, fb, hfv⟩ : ∃ (fk : Int) (fb : Bool), fndV (fndO o1 st.id) = .tuple #[.int .i64 fk, .bool fb] := by
                  cases fndO o1 st.id <;> exact ⟨_, _, rfl⟩
                have tx : (fk != fk) = false := by simp
                have te : (fb != fb) = false := by simp
                have HQf := Lib.hid (qfind HR1.out.q st.id)
                have HRf := Lib.hid (fun (W : World) (h : RO W w.heap.size pr F2 o1) => rfind h st.id (by have := HLQ.out; omega))
                rw [hfv] at HQf HRf
                clear h0 h1 h2 hfv
                go_wp2_with (first
              | (go_at_call 16; refine (HQf.out).mono ?_; rintro e w5 ⟨rfl, hb5⟩; have HR5 := Lib.hid (HR1.out.below hb5); have hs5 := HS1.out.below hb5; have s1' := hs5.c 1 rfl; have s2' := hs5.c 2 rfl; clear hb5 hs5 s1 s2)
              | (go_at_call 17; refine (HRf.out _ HR5.out.r).mono ?_; rintro e w6 ⟨rfl, hb6⟩; have HR6 := Lib.hid (HR5.out.below hb6); clear hb6))
                go_meet
                exact ⟨o1, o2, pq, pr, pc, pd, F1, F2, F3, F4, rfl, rfl, rfl, rfl, Lib.hid ⟨by have := HLE.out.1; omega, by have := HLE.out.2; omega⟩, HR6⟩
              · have t2 : (st.k == 2) = false := by simpa using h2
                by_cases h3 : st.k = 3
                · have t3 : (st.k == 3) = true := by simpa using h3
                  have HQf := Lib.hid (qat HR1.out.q st.id)
                  have HRf := Lib.hid (fun (W : World) (h : RO W w.heap.size pr F2 o1) => rat h st.id (by have := HLQ.out; omega))
                  generalize atF o1 st.id = av at HQf HRf
                  have tx : (av.1.1 != av.1.1) = false := by simp
                  have ty : (av.1.2 != av.1.2) = false := by simp
                  have te : (av.2 != av.2) = false := by simp
                  clear h0 h1 h2 h3
                  go_wp2_with (first
              | (go_at_call 18; refine (HQf.out).mono ?_; rintro e w5 ⟨rfl, hb5⟩; have HR5 := Lib.hid (HR1.out.below hb5); have hs5 := HS1.out.below hb5; have s1' := hs5.c 1 rfl; have s2' := hs5.c 2 rfl; clear hb5 hs5 s1 s2)
              | (go_at_call 19; refine (HRf.out _ HR5.out.r).mono ?_; rintro e w6 ⟨rfl, hb6⟩; have HR6 := Lib.hid (HR5.out.below hb6); clear hb6))
                  go_meet
                  exact ⟨o1, o2, pq, pr, pc, pd, F1, F2, F3, F4, rfl, rfl, rfl, rfl, Lib.hid ⟨by have := HLE.out.1; omega, by have := HLE.out.2; omega⟩, HR6⟩
                · have t3 : (st.k == 3) = false := by simpa using h3
                  by_cases h4 : st.k = 4
                  · have t4 : (st.k == 4) = true := by simpa using h4
                    have HSW := Lib.hid HR1.out.swap
                    have HC := Lib.hid (qcopy HSW.out.q HSW.out.bel.size HLC.out)
                    clear h0 h1 h2 h3 h4
                    go_wp2_with (first
                      | (go_at_call 10; refine HC.out.mono ?_; rintro e w5 ⟨pc', G3, rfl, j1, j2, _, j3⟩; have HR5 := Lib.hid (HSW.out.newc j1 j2 j3); clear j1 j2 j3)
                      | (go_at_call 11; refine (rcopy HR5.out.r HLC.out).mono ?_; rintro e w6 ⟨pd', G4, rfl, j1, j2, _, j3⟩; have HR6 := Lib.hid (HR5.out.newd j1 j2 j3); clear j1 j2 j3))
                    all_goals go_meet
                    all_goals first
                      | exact ⟨o2, o2, pc, pd, _, _, F3, F4, _, _, rfl, rfl, rfl, rfl, Lib.hid ⟨by have := HLE.out.2; omega, by have := HLE.out.2; omega⟩, HR6⟩
                      | exact ⟨o2, o1, pc, pd, pq, pr, F3, F4, F1, F2, rfl, rfl, rfl, rfl, Lib.hid ⟨by have := HLE.out.2; omega, by have := HLE.out.1; omega⟩, HSW⟩
                  · have t4 : (st.k == 4) = false := by simpa using h4
                    by_cases h5 : st.k = 5
                    · have t5 : (st.k == 5) = true := by simpa using h5
                      have HG := Lib.hid (gone_any HR1.out.q HR1.out.r HLQ.out st.x)
                      clear h0 h1 h2 h3 h4 h5
                      go_wp2_with (go_at_call 20; refine HG.out.mono ?_; rintro e w5 ⟨rfl, hb5⟩; have HR5 := Lib.hid (HR1.out.below hb5); clear hb5)
                      go_meet
                      exact ⟨o1, o2, pq, pr, pc, pd, F1, F2, F3, F4, rfl, rfl, rfl, rfl, Lib.hid ⟨by have := HLE.out.1; omega, by have := HLE.out.2; omega⟩, HR5⟩
                    · have t5 : (st.k == 5) = false := by simpa using h5
                      clear h0 h1 h2 h3 h4 h5
                      go_wp2_with fail
                      go_meet
                      exact ⟨o1, o2, pq, pr, pc, pd, F1, F2, F3, F4, rfl, rfl, rfl, rfl, Lib.hid ⟨by have := HLE.out.1; omega, by have := HLE.out.2; omega⟩, HR1⟩
        case rest =>
          clear HR1 HS1 HSB HLQ HLC HLE s0 s1 s2 HI2 HI3
          obtain ⟨o1, o2, pq, pr, pc, pd, F1, F2, F3, F4, rfl, rfl, rfl, rfl, HLE, HR⟩ := hcut
          have HT := Lib.hid (told_any HR.out.q HR.out.r (by have := HLE.out.1; have := HW.out; omega))
          have hk1 : IntKind.i64.wrap ((k : Int) + 1) = (k : Int) + 1 := by have := HW.out; rw [IntKind.wrap_i64]; omega
          go_wp2_with (go_at_call 21; refine HT.out.mono ?_; rintro e w5 ⟨rfl, hb5⟩; have HR5 := Lib.hid (HR.out.below hb5); clear hb5)
          exact ⟨⟨k + 1, o1, o2, pq, pr, pc, pd, F1, F2, F3, F4, rfl, rfl, rfl, rfl, by go_num, by omega, HLE, HR5⟩, by simp [intOf]; omega⟩
      · have HL1 := Lib.hid (show lenO o1 ≤ 8796093022207 by have := HLE.out.1; have := HW.out; omega)
        have HL2 := Lib.hid (show lenO o2 ≤ 8796093022207 by have := HLE.out.2; have := HW.out; omega)
        have hn9 : n ≤ 8796093022000 := HW.out
        have H1 := Lib.hid (told_any HR.out.q HR.out.r HL1.out)
        go_wp2_with (first
          | (go_at_call 21; first
            | ((with_reducible refine H2.out.mono ?_); rintro e w6 ⟨rfl, hb6⟩; have HR6 := Lib.hid (HR5.out.below hb6); have H3 := Lib.hid (gone_any (HR5.out.below hb6).q (HR5.out.below hb6).r HL1.out (-1)); clear hb6)
            | ((with_reducible refine H1.out.mono ?_); rintro e w5 ⟨rfl, hb5⟩; have HR5 := Lib.hid (HR.out.below hb5); have H2 := Lib.hid (told_any (HR.out.below hb5).c (HR.out.below hb5).d HL2.out); clear hb5))
          | (go_at_call 20; (with_reducible refine H3.out.mono ?_); rintro e w7 ⟨rfl, hb7⟩; have HR7 := Lib.hid (HR6.out.below hb7); clear hb7))
        go_ret
        exact ⟨rfl, HR7.out.bel⟩
end Go.Proofs.Ytpemdfdmnbhpjaa
