/- LexScans. -/
import Derived.Test.YtkhghbeojfgkhaaDoorLawKit
namespace Go.Proofs.YtkhghbeojfgkhaaDoor
open Go.RowKit Go.Shelf
set_option maxRecDepth 100000

theorem seqR_place (l : List UInt8) : ∀ (f i : Nat), (seqR f l i).2.2 = 0 → (seqR f l i).2.1 = 0
  | 0, _, _ => rfl
  | f + 1, i, h => by
    rw [seqR_S] at h ⊢
    unfold seqS at h ⊢
    split
    · rfl
    · rename_i h1
      rw [if_neg h1] at h
      split
      · rename_i h2
        rw [if_pos h2] at h
        exact absurd h h2
      · rename_i h2
        rw [if_neg h2] at h
        exact seqR_place l f _ h
theorem allR_place {l : List UInt8} (h : (allR l).2.2 = 0) : (allR l).2.1 = 0 := by
  unfold allR at h ⊢
  split
  · rfl
  · rename_i h1
    rw [if_neg h1] at h
    exact seqR_place l _ _ h
theorem all_ok {l : List UInt8} (h : ∀ x ∈ allF l, x.2 = 0) : (allR l).2.1 = 0 ∧ (allR l).2.2 = 0 ∧ allF l = (allR l).1.map (fun t => (t, 0)) := by
  have e := same_all l
  unfold toldR at e
  by_cases h0 : (allR l).2.2 = 0
  · rw [if_pos h0, List.append_nil] at e
    exact ⟨allR_place h0, h0, e⟩
  · rw [if_neg h0] at e
    exact absurd (h (⟨0, [], 0, 0, (allR l).2.1, 0⟩, (allR l).2.2) (by rw [e]; simp)) h0
theorem map_zero {xs : List Tok} : ∀ y ∈ xs.map (fun t => (t, 0)), (y : Tok × Nat).2 = 0 := by
  intro y hy
  obtain ⟨t, _, rfl⟩ := List.mem_map.1 hy
  rfl
theorem all_bad {l : List UInt8} {p r : List (Tok × Nat)} {x : Tok × Nat} (h : allF l = p ++ x :: r) (hp : ∀ y ∈ p, y.2 = 0) (hx : x.2 ≠ 0) : (allR l).2.1 = x.1.at_ ∧ (allR l).2.2 = x.2 := by
  have e := same_all l
  unfold toldR at e
  by_cases h0 : (allR l).2.2 = 0
  · rw [if_pos h0, List.append_nil] at e
    exact absurd (map_zero x (by rw [← e, h]; simp)) hx
  · rw [if_neg h0] at e
    have := firstBad (h.symm.trans e) hp map_zero hx h0
    rw [this]
    exact ⟨rfl, rfl⟩
theorem flatT_map (xs : List Tok) : flatT (xs.map (fun t => (t, 0))) = flatR xs := by unfold flatT flatR; rw [List.flatMap_map]
theorem form6 {w : World} {base e N : Nat} {v : Value} {xs : List Value} (hown : w.ownsRow base e 6 v N xs) : ∃ ba bc, v = .slice ba N bc := by
  rcases hown.2 with ⟨h, h0⟩ | ⟨g, cap, cur, h, _⟩
  · exact ⟨none, 0, by rw [h, h0]⟩
  · exact ⟨_, _, h⟩

set_option maxHeartbeats 4000000 in
theorem scans_walk (a : Option Addr) (n cap : Nat) (l : List UInt8) (w : World) (hG : Glob w) (ht : Txt w a n cap l) (hr : n ≤ 140737488351232) :
    Calls Tryd.prog 3 #[.slice a n cap] w fun e w' => e = .returned (.bool true) ∧ Below w.heap.size w w' := by
  have HT := Lib.hid ht
  have HG := Lib.hid hG
  clear ht hG
  go_enter Tryd.func3, Tryd.ntmps3
  go_wp2_with fail
  refine (lent_any a n cap l w HT.out hr).mono ?_
  rintro e w1 ⟨g, c, rfl, hc, hg, hown, hb⟩
  have HH : Hid (HeldB w w1 g c n l) := Lib.hid ⟨HT.out.1, hown, hb⟩
  have hcm : c ≤ 140737488355328 * 65536 := by have := HH.out.cap.2; unfold maxLen at this; omega
  clear hown hb
  go_wp2_with fail
  go_loopw [4] (fun t wr => ∃ (k : Nat) (zs : List UInt8), t = .int .i64 k ∧ k ≤ 3 ∧ Hid (HeldB w wr g c n zs)) (fun t _ => 3 - (intOf t).toNat)
  case atStart => exact ⟨0, l, rfl, by omega, HH⟩
  case round =>
    obtain ⟨k, zs, rfl, hk, HZ⟩ := hrel
    obtain ⟨wo, rfl⟩ : ∃ wo : World, wo = wr := ⟨_, rfl⟩
    by_cases hlt : k < 3
    · go_wp2_with fail
      refine (lent_any (some ⟨g, 0, none⟩) n c zs wo HZ.out.txt hr).mono ?_
      rintro e w2 ⟨g2, c2, rfl, hc2, hg2, hown2, hb2⟩
      have HZ2 := Lib.hid (HZ.out.below hb2)
      have HI : Hid (HeldB wo w2 g2 c2 n zs) := Lib.hid ⟨HZ.out.1, hown2, hb2⟩
      have hgl := HZ2.out.lt
      clear hown2 hb2
      go_wp2_with fail
      refine (Scan_any _ _ _ _ w2 HZ2.out.txt (HG.out.below HZ2.out.2.2 (Nat.le_refl _))).mono ?_
      rintro e w3 ⟨hb3, hcase⟩
      have HZ3 := Lib.hid (HZ2.out.below hb3)
      have HI3 := Lib.hid (HI.out.below hb3)
      clear hb3
      rcases hcase with ⟨v, rfl, hz, hr3⟩ | ⟨p, x, r, h1, h2, h3, rfl⟩
      · obtain ⟨hq1, hq2, hall⟩ := all_ok hz
        have hlen := allF_len zs
        rw [hall, List.length_map] at hlen
        rw [hall, flatT_map, List.length_map] at hr3
        obtain ⟨va, vc, rfl⟩ := form6 hr3
        have HV3 := Lib.hid (rowIs_own rfl hr3)
        have z1 : (((allR zs).2.1 : Nat) : Int) = 0 := by rw [hq1]; rfl
        have z2 : (((allR zs).2.2 : Nat) : Int) = 0 := by rw [hq2]; rfl
        have hrs := refScan_any (some ⟨g2, 0, none⟩) n c2 zs w3 HI3.out.txt hr
        unfold RScan at hrs
        rw [z1, z2] at hrs
        obtain ⟨xs, hxs⟩ : ∃ xs, xs = (allR zs).1 := ⟨_, rfl⟩
        rw [← hxs] at HV3 hrs hlen ⊢
        obtain ⟨N, hN⟩ : ∃ N, N = xs.length := ⟨_, rfl⟩
        rw [← hN] at hrs hlen ⊢
        have HRS := Lib.hid hrs
        have HN := Lib.hid hN
        clear hz hr3 hq1 hq2 hall z1 z2 hrs hxs hN
        go_wp2_with fail
        refine HRS.out.mono ?_
        rintro e w4 ⟨hb4, v2, rfl, ho4⟩
        obtain ⟨va2, vc2, rfl⟩ := form6 ho4
        have HV4 := Lib.hid (HV3.out.below hb4 (Nat.le_refl _))
        have HW4 := Lib.hid (rowIs_own HN.out.symm ho4)
        have HZ4 := Lib.hid (HZ3.out.below hb4)
        have HI4 := Lib.hid (HI3.out.below hb4)
        have hs23 : g < w3.heap.size := HZ3.out.lt.2
        clear hb4 ho4
        go_wp2_with fail
        refine (tokens_any _ _ _ _ N _ _ xs w4 HN.out.symm hlen HV4.out HW4.out).mono ?_
        rintro e w5 ⟨rfl, hb5⟩
        have HV5 := Lib.hid (HV4.out.below hb5 (Nat.le_refl _))
        have HW5 := Lib.hid (HW4.out.below hb5 (Nat.le_refl _))
        have HZ5 := Lib.hid (HZ4.out.below hb5)
        have HI5 := Lib.hid (HI4.out.below hb5)
        clear hb5
        go_wp2_with fail
        refine (kept_any g n c c2 (some ⟨g2, 0, none⟩) zs w5 hr HZ5.out.atAll hc HI5.out.txt).mono ?_
        rintro e w' ⟨rfl, rfl⟩
        go_wp2_with fail
        refine (other_any w w5 g c n zs HZ5.out hr).mono ?_
        rintro e w6 ⟨⟨ev, rfl⟩, ys, hy, hkeep, hsz6⟩
        have HV6 := Lib.hid (HV5.out.keep fun b h1 h2 => hkeep b (by omega) h2)
        have HW6 := Lib.hid (HW5.out.keep fun b h1 h2 => hkeep b (by omega) h2)
        have HY6 := Lib.hid hy
        clear hy hkeep
        go_wp2_with fail
        refine (tokens_any _ _ _ _ N _ _ xs w6 HN.out.symm hlen HV6.out HW6.out).mono ?_
        rintro e w7 ⟨rfl, hb7⟩
        have HY7 := Lib.hid (HY6.out.below hb7)
        clear hb7
        go_wp2_with fail
        go_roundw
        case rel => exact ⟨k + 1, ys, by go_num, by omega, HY7⟩
        case measure => simp [intOf]; omega
      · obtain ⟨hq1, hq2⟩ := all_bad h1 h2 h3
        have hrs := refScan_any (some ⟨g2, 0, none⟩) n c2 zs w3 HI3.out.txt hr
        unfold RScan at hrs
        rw [hq1, hq2] at hrs
        obtain ⟨A, hA⟩ : ∃ A, A = x.1.at_ := ⟨_, rfl⟩
        obtain ⟨er, her⟩ : ∃ er, er = x.2 := ⟨_, rfl⟩
        rw [← hA, ← her] at hrs ⊢
        rw [← her] at h3
        have z1 : ((er : Int) == 0) = false := by rw [beq_eq_false_iff_ne]; omega
        have z2 : ((er : Int) != 0) = true := by rw [bne_iff_ne]; omega
        have z3 : (er == 0) = false := by rw [beq_eq_false_iff_ne]; exact h3
        have z4 : (er != 0) = true := by rw [bne_iff_ne]; exact h3
        have HRS := Lib.hid hrs
        clear h1 h2 hq1 hq2 hrs hA her h3
        go_wp2_with fail
        refine HRS.out.mono ?_
        rintro e w4 ⟨hb4, v2, rfl, ho4⟩
        have HZ4 := Lib.hid (HZ3.out.below hb4)
        have HI4 := Lib.hid (HI3.out.below hb4)
        clear hb4 ho4
        go_wp2_with fail
        refine (tokens_any none none 0 0 0 0 0 [] w4 rfl (by omega) (RowIs.nil _ _ _) (RowIs.nil _ _ _)).mono ?_
        rintro e w5 ⟨rfl, hb5⟩
        have HZ5 := Lib.hid (HZ4.out.below hb5)
        have HI5 := Lib.hid (HI4.out.below hb5)
        clear hb5
        go_wp2_with fail
        refine (kept_any g n c c2 (some ⟨g2, 0, none⟩) zs w5 hr HZ5.out.atAll hc HI5.out.txt).mono ?_
        rintro e w' ⟨rfl, rfl⟩
        go_wp2_with fail
        refine (other_any w w5 g c n zs HZ5.out hr).mono ?_
        rintro e w6 ⟨⟨ev, rfl⟩, ys, hy, hkeep, hsz6⟩
        have HY6 := Lib.hid hy
        clear hy hkeep
        go_wp2_with fail
        refine (tokens_any none none 0 0 0 0 0 [] w6 rfl (by omega) (RowIs.nil _ _ _) (RowIs.nil _ _ _)).mono ?_
        rintro e w7 ⟨rfl, hb7⟩
        have HY7 := Lib.hid (HY6.out.below hb7)
        clear hb7
        go_wp2_with fail
        go_roundw
        case rel => exact ⟨k + 1, ys, by go_num, by omega, HY7⟩
        case measure => simp [intOf]; omega
    · go_wp2_with fail
      go_ret
      exact ⟨rfl, HZ.out.2.2⟩
end Go.Proofs.YtkhghbeojfgkhaaDoor
