/- WireForm: the walk. -/
import Derived.Test.YtloofajopgbfmaaWjAwk
import Derived.Test.YtloofajopgbfmaaWjLpl
set_option linter.all false
namespace Go.Proofs.Ytloofajopgbfmaa
open Go.RowKit
set_option maxRecDepth 100000
theorem fv (l : List UInt8) : ∃ (x : V9) (N E : Int), ansV (rdV l) = .tuple #[fVal9 x, .int .i64 N, .int .i64 E] ∧ ((E = 0 ∧ ∃ k : Nat, N = k ∧ k ≤ l.length ∧ formV x = l.take k ∧ Plain9 x) ∨ (E = 110 ∧ N = 0 ∧ x = zero9)) := by
  cases h : rdV l with
  | none => exact ⟨zero9, 0, 110, rfl, .inr ⟨rfl, rfl, rfl⟩⟩
  | some q =>
    obtain ⟨v, m⟩ := q
    obtain ⟨h1, h2, h3, _⟩ := rdV_form h
    exact ⟨v, m, 0, rfl, .inl ⟨rfl, m, rfl, h1, h2, h3⟩⟩
theorem fp (l : List UInt8) : ∃ (vs : List V9) (N E : Int), (∀ B e w', PlA (rdP l) B e w' → ∃ al cp, e = .returned (.tuple #[.slice al vs.length cp, .int .i64 N, .int .i64 E]) ∧ w'.ownsRow B 27 5 (.slice al vs.length cp) vs.length (cellsP vs)) ∧ ((E = 0 ∧ ∃ k : Nat, N = k ∧ k ≤ l.length ∧ formP vs = l.take k ∧ PlainP vs) ∨ (E = 110 ∧ N = 0 ∧ vs = [])) := by
  cases h : rdP l with
  | none => exact ⟨[], 0, 110, fun B e w' hh => ⟨none, 0, hh, World.ownsRow_nil _ _ _ _⟩, .inr ⟨rfl, rfl, rfl⟩⟩
  | some q =>
    obtain ⟨v, m⟩ := q
    obtain ⟨h1, h2, h3, _⟩ := rdP_form h
    exact ⟨v, m, 0, fun B e w' hh => hh, .inl ⟨rfl, m, rfl, h1, h2, h3⟩⟩
theorem fm (l : List UInt8) : ∃ (m : M9) (N E : Int), (∀ B e w', MsA (rdM l) B e w' → ∃ al cp, e = .returned (.tuple #[.agg #[.int .i64 m.id, .string ⟨m.tag.toArray⟩, .slice al m.vs.length cp], .int .i64 N, .int .i64 E]) ∧ w'.ownsRow B 27 5 (.slice al m.vs.length cp) m.vs.length (cellsP m.vs)) ∧ ((E = 0 ∧ ∃ k : Nat, N = k ∧ k ≤ l.length ∧ formM m = l.take k ∧ PlainM m) ∨ (E = 110 ∧ N = 0 ∧ m = ⟨0, [], []⟩)) := by
  cases h : rdM l with
  | none => exact ⟨⟨0, [], []⟩, 0, 110, fun B e w' hh => ⟨none, 0, hh, World.ownsRow_nil _ _ _ _⟩, .inr ⟨rfl, rfl, rfl⟩⟩
  | some q =>
    obtain ⟨v, m⟩ := q
    obtain ⟨h1, h2, h3, _⟩ := rdM_form h
    exact ⟨v, m, 0, fun B e w' hh => hh, .inl ⟨rfl, m, rfl, h1, h2, h3⟩⟩
set_option maxHeartbeats 16000000 in
theorem wireform_walk (a : Option Addr) (n cap : Nat) (l : List UInt8) (w : World) (ht : Txt w a n cap l) (hr : n ≤ 140737488351232) :
    Calls Try.prog 5 #[.slice a n cap] w fun e w' => e = .returned (.bool true) ∧ Below w.heap.size w w' := by
  have sf : ∀ (p : Addr) (b : Nat) (mo : Mode) (w' : World), (store p (.float .f64 b) mo).run Try.prog w' = stored Try.prog w' p (.float .f64 b) mo := fun p b mo w' => run_store _ w' p _ mo rfl
  have sc : ∀ (p : Addr) (b c : Nat) (mo : Mode) (w' : World), (store p (.complex .f64 b c) mo).run Try.prog w' = stored Try.prog w' p (.complex .f64 b c) mo := fun p b c mo w' => run_store _ w' p _ mo rfl
  have hln := ht.1
  have hle := fun (W : World) (hW : Below w.heap.size w W) => lent_any a n cap l W (ht.below hW (Nat.le_refl _)) hr
  unfold Lent at hle
  have HL := Lib.hid hle
  have HT := Lib.hid ht
  have HLN := Lib.hid hln
  clear hle ht hln
  go_enter Try.func5, Try.ntmps5
  go_upto_region 3 with (go_at_call 19; (refine (awake_any w).mono ?_); rintro e w1 ⟨rfl, hb1⟩; have HB1 := Lib.hid hb1; clear hb1)
  obtain ⟨x, N, E, hpv, hcs⟩ := fv l
  have HC := Lib.hid (HL.out _ HB1.out)
  have HPV := Lib.hid hpv
  have HCS := Lib.hid hcs
  clear hpv hcs
  go_upto_region 4 with (first | (go_at_call 6; (with_reducible refine HC.out.mono ?_); rintro e w2 ⟨g, cp, rfl, hcp, hgl, hown, hb2⟩; have HO2 := Lib.hid hown; have HB2 := Lib.hid (HB1.out.trans (hb2.mono HB1.out.size)); clear hown hb2; obtain ⟨hT, _, _, _⟩ := txt_lent HO2.out; have hrv := readValue_any (some ⟨g, 0, none⟩) n cp l w2 hT; rw [HPV.out] at hrv; have HRV := Lib.hid hrv; clear hrv hT) | (go_at_call 7; (with_reducible refine HRV.out.mono ?_); rintro e w3 ⟨rfl, hb3⟩; have HB3 := Lib.hid (HB2.out.trans (hb3.mono HB2.out.size)); clear hb3))
  obtain ⟨W3, hW3⟩ : ∃ W3, W3 = w3.alloc (.cells #[.int .i64 x.kd, .int .i64 x.iv, .float .f64 x.rl, .complex .f64 x.re x.im, .string ⟨x.tx.toArray⟩] 27) := ⟨_, rfl⟩
  have hba : Below w3.heap.size w3 W3 := by rw [hW3]; exact (Below.refl _ w3).alloc (Nat.le_refl _) _
  have HX3 := Lib.hid (show Bk W3 w3.heap.size 27 (cellsO x) by rw [hW3]; exact Bk.new w3 _ _)
  have HB4 := Lib.hid (HB3.out.trans (hba.mono HB3.out.size))
  have hxv : w.heap.size ≤ w3.heap.size := HB3.out.size
  rw [← hW3]
  generalize w3.heap.size = XV at *
  clear hW3 hba HC HRV HO2 HB2 HB3 HPV
  go_upto_if 28 with (fail)
  go_cut [] (fun wc => Hid (Below w.heap.size w wc))
  case first =>
    rcases HCS.out with ⟨rfl, k, rfl, hk, hfm, hpx⟩ | ⟨rfl, rfl, rfl⟩
    · clear HCS
      rw [HLN.out] at hk
      have hlt : (l.take k).length = k := by rw [List.length_take, HLN.out]; omega
      have hw := wValue_any x hpx W3
      unfold WrA at hw
      rw [hfm, hlt] at hw
      have HWV := Lib.hid hw
      have x0 := HX3.out.c 0 rfl
      have x1 := HX3.out.c 1 rfl
      have x2 := HX3.out.c 2 rfl
      have x3 := HX3.out.c 3 rfl
      have x4 := HX3.out.c 4 rfl
      clear hw
      go_upto_region 6 with (go_at_call 20; (refine HWV.out.mono ?_); rintro e w5 ⟨a5, c5, rfl, ho5, hb5⟩; have HO5 := Lib.hid ho5; have HX5 := Lib.hid (HX3.out.keep hb5 HX3.out.lt); have HB5 := Lib.hid (HB4.out.trans (hb5.mono HB4.out.size)); clear hb5 ho5)
      clear x0 x1 x2 x3 x4 HWV
      have hfw := (Below.refl w.heap.size w).trans HB5.out
      obtain ⟨hs, htk⟩ := slice_to k (HT.out.below HB5.out (Nat.le_refl _)) hk
      have hown := HO5.out
      have hkk : ∀ W, Below w5.heap.size w5 W → (W.cell? ⟨XV, 0, none⟩ = some (.int .i64 x.kd) ∧ W.cell? ⟨XV, 1, none⟩ = some (.int .i64 x.iv) ∧ W.cell? ⟨XV, 2, none⟩ = some (.float .f64 x.rl) ∧ W.cell? ⟨XV, 3, none⟩ = some (.complex .f64 x.re x.im) ∧ W.cell? ⟨XV, 4, none⟩ = some (.string ⟨x.tx.toArray⟩)) ∧ (convert 22 9 (.slice a5 k c5)).run Try.prog W = .ok (.string ⟨(l.take k).toArray⟩) W ∧ (convert 22 9 (.slice a k cap)).run Try.prog W = .ok (.string ⟨(l.take k).toArray⟩) W := fun W hW => by
        have hx := HX5.out.keep hW HX5.out.lt
        exact ⟨⟨hx.c 0 rfl, hx.c 1 rfl, hx.c 2 rfl, hx.c 3 rfl, hx.c 4 rfl⟩, text_of (txt_of_owned (own_keep9 hown hW)), text_of (htk.below hW (Nat.le_refl _))⟩
      generalize (⟨(l.take k).toArray⟩ : ByteArray) = s at hkk
      have HKK := Lib.hid hkk
      have hvp := fun W => vplain_any x hpx W
      have hsm := fun W => lsame_self x (.inl hpx) W
      unfold fVal9 at hvp
      unfold valO valV at hsm
      have HVP := Lib.hid hvp
      have HSM := Lib.hid hsm
      have q1 : decide ((n : Int) < (k : Int)) = false := decide_eq_false (by omega)
      have q2 : decide (n < k) = false := decide_eq_false (by omega)
      clear hvp hsm hkk hown htk hpx hfm hlt hfw
      go_region_held3 (fun W => (W.cell? ⟨XV, 0, none⟩ = some (.int .i64 x.kd) ∧ W.cell? ⟨XV, 1, none⟩ = some (.int .i64 x.iv) ∧ W.cell? ⟨XV, 2, none⟩ = some (.float .f64 x.rl) ∧ W.cell? ⟨XV, 3, none⟩ = some (.complex .f64 x.re x.im) ∧ W.cell? ⟨XV, 4, none⟩ = some (.string ⟨x.tx.toArray⟩)) ∧ (convert 22 9 (.slice a5 k c5)).run Try.prog W = .ok (.string s) W ∧ (convert 22 9 (.slice a k cap)).run Try.prog W = .ok (.string s) W)
        (first | exact HKK.out _ HBQ2.out | exact HKK.out _ HBQ.out | exact HKK.out _ (drew_below w5))
        (first | (go_at_call 21; (with_reducible refine (HVP.out _).mono ?_); rintro e w6 ⟨rfl, hb6⟩; have HBQ := Lib.hid (show Below w5.heap.size w5 w6 from (drew_below w5).trans hb6); clear hb6) | (go_at_call 14; (with_reducible refine (HSM.out _).mono ?_); rintro e w7 ⟨rfl, hb7⟩; have HBQ2 := Lib.hid (HBQ.out.trans (hb7.mono HBQ.out.size)); have HB7 := Lib.hid (HB5.out.trans ((HBQ.out.trans (hb7.mono HBQ.out.size)).mono HB5.out.size)); clear hb7))
      all_goals
        rename_i hHeld
        clear hHeld
        go_wp2_with fail
        go_meet
        exact HB7
    · have x0 : W3.cell? ⟨XV, 0, none⟩ = some (.int .i64 0) := HX3.out.c 0 rfl
      go_wp2_with fail
      go_meet
      exact HB4
  case rest =>
    clear HB1 HB4 HX3 HCS hcp hgl
    obtain ⟨vs, N2, E2, hpv, hcs⟩ := fp l
    have HC := Lib.hid (HL.out _ hcut.out)
    have HPV := Lib.hid hpv
    have HCS := Lib.hid hcs
    clear hpv hcs
    go_upto_region 11 with (first | (go_at_call 6; (with_reducible refine HC.out.mono ?_); rintro e v2 ⟨g2, cp2, rfl, hcp, hgl, hown, hb2⟩; have HO2 := Lib.hid hown; have HB2 := Lib.hid (hcut.out.trans (hb2.mono hcut.out.size)); clear hown hb2; obtain ⟨hT, _, _, _⟩ := txt_lent HO2.out; have HRV := Lib.hid (readPayload_any (some ⟨g2, 0, none⟩) n cp2 l v2 hT); clear hT) | (go_at_call 8; (with_reducible refine HRV.out.mono ?_); rintro e v3 ⟨hpa, hb3⟩; have HB3 := Lib.hid (HB2.out.trans (hb3.mono HB2.out.size)); obtain ⟨al, cq, rfl, hro⟩ := HPV.out _ _ _ hpa; have HRO := Lib.hid (own_base9 hro (Nat.zero_le _)); clear hb3 hpa hro))
    clear HC HPV HO2 HB2 HRV
    go_upto_if 77 with (fail)
    go_cut [] (fun wc => Hid (Below w.heap.size w wc))
    case first =>
      rcases HCS.out with ⟨rfl, k, rfl, hk, hfm, hpx⟩ | ⟨rfl, rfl, rfl⟩
      · clear HCS
        rw [HLN.out] at hk
        have hlt : (l.take k).length = k := by rw [List.length_take, HLN.out]; omega
        have hw := wPayload_any vs hpx al cq 0 v3 HRO.out
        unfold WrA at hw
        rw [hfm, hlt] at hw
        have HWV := Lib.hid hw
        have hfew := hpx.few
        clear hw
        go_upto_region 13 with (go_at_call 22; (with_reducible refine HWV.out.mono ?_); rintro e v5 ⟨a5, c5, rfl, ho5, hb5⟩; have HO5 := Lib.hid ho5; have HR5 := Lib.hid (own_keep9 HRO.out hb5); have HB5 := Lib.hid (HB3.out.trans (hb5.mono HB3.out.size)); clear hb5 ho5)
        clear HWV
        obtain ⟨hs, htk⟩ := slice_to k (HT.out.below HB5.out (Nat.le_refl _)) hk
        have hown := HO5.out
        have hkk : ∀ W, Below v5.heap.size v5 W → (convert 22 9 (.slice a5 k c5)).run Try.prog W = .ok (.string ⟨(l.take k).toArray⟩) W ∧ (convert 22 9 (.slice a k cap)).run Try.prog W = .ok (.string ⟨(l.take k).toArray⟩) W := fun W hW => ⟨text_of (txt_of_owned (own_keep9 hown hW)), text_of (htk.below hW (Nat.le_refl _))⟩
        generalize (⟨(l.take k).toArray⟩ : ByteArray) = s at hkk
        have HKK := Lib.hid hkk
        have HPL := Lib.hid (fun W (hW : Below v5.heap.size v5 W) => lplain_any vs hpx.all hpx.few al cq W (own_keep9 HR5.out hW))
        have HVS := Lib.hid (fun W (hW : Below v5.heap.size v5 W) (b : Option Addr) (cb : Nat) (hb : W.ownsRow 0 27 5 (.slice b vs.length cb) vs.length (cellsP vs)) => values_self vs al b cq cb W (fun x hx => .inl (hpx.all x hx)) (by omega) (own_keep9 HR5.out hW) hb)
        have q1 : decide ((n : Int) < (k : Int)) = false := decide_eq_false (by omega)
        have q2 : decide (n < k) = false := decide_eq_false (by omega)
        clear hkk hown htk hpx hfm hlt
        go_region_held3 (fun W => (convert 22 9 (.slice a5 k c5)).run Try.prog W = .ok (.string s) W ∧ (convert 22 9 (.slice a k cap)).run Try.prog W = .ok (.string s) W)
          (first | exact HKK.out _ HBQ2.out | exact HKK.out _ HBQ.out | exact HKK.out _ (drew_below v5))
          (first | (go_at_call 23; (with_reducible refine (HPL.out _ (drew_below v5)).mono ?_); rintro e v6 ⟨bl, cb, rfl, hro6, hb6⟩; have HBQ := Lib.hid (show Below v5.heap.size v5 v6 from (drew_below v5).trans hb6); have HVV := Lib.hid (HVS.out _ HBQ.out bl cb (own_base9 hro6 (Nat.zero_le _))); clear hb6 hro6) | (go_at_call 15; (with_reducible refine HVV.out.mono ?_); rintro e v7 ⟨rfl, hb7⟩; have HBQ2 := Lib.hid (HBQ.out.trans (hb7.mono HBQ.out.size)); have HB7 := Lib.hid (HB5.out.trans ((HBQ.out.trans (hb7.mono HBQ.out.size)).mono HB5.out.size)); clear hb7))
        all_goals
          rename_i hHeld
          clear hHeld
          go_wp2_with fail
          go_meet
          exact HB7
      · try simp only [List.length_nil]
        go_wp2_with fail
        go_meet
        exact HB3
    case rest =>
      have hcut2 := hcut
      clear HRO HB3 HCS hcp hgl
      obtain ⟨m, N3, E3, hpv, hcs⟩ := fm l
      have HC := Lib.hid (HL.out _ hcut2.out)
      have HPV := Lib.hid hpv
      have HCS := Lib.hid hcs
      clear hpv hcs
      go_upto_region 18 with (first | (go_at_call 6; (with_reducible refine HC.out.mono ?_); rintro e u2 ⟨g3, cp3, rfl, hcp, hgl, hown, hb2⟩; have HO2 := Lib.hid hown; have HB2 := Lib.hid (hcut2.out.trans (hb2.mono hcut2.out.size)); clear hown hb2; obtain ⟨hT, _, _, _⟩ := txt_lent HO2.out; have HRV := Lib.hid (readMessage_any (some ⟨g3, 0, none⟩) n cp3 l u2 hT); clear hT) | (go_at_call 9; (with_reducible refine HRV.out.mono ?_); rintro e u3 ⟨hpa, hb3⟩; have HB3 := Lib.hid (HB2.out.trans (hb3.mono HB2.out.size)); obtain ⟨al, cq, rfl, hro⟩ := HPV.out _ _ _ hpa; have HRO := Lib.hid (own_base9 hro (Nat.zero_le _)); clear hb3 hpa hro))
      clear HC HPV HO2 HB2 HRV
      obtain ⟨U3, hU3⟩ : ∃ U3, U3 = u3.alloc (.cells #[.int .i64 m.id, .string ⟨m.tag.toArray⟩, .slice al m.vs.length cq] 35) := ⟨_, rfl⟩
      have hba : Below u3.heap.size u3 U3 := by rw [hU3]; exact (Below.refl _ u3).alloc (Nat.le_refl _) _
      have HX3 := Lib.hid (show Bk U3 u3.heap.size 35 [.int .i64 m.id, .string ⟨m.tag.toArray⟩, .slice al m.vs.length cq] by rw [hU3]; exact Bk.new u3 _ _)
      have HB4 := Lib.hid (HB3.out.trans (hba.mono HB3.out.size))
      have HR4 := Lib.hid (own_keep9 HRO.out hba)
      rw [← hU3]
      generalize u3.heap.size = XM at *
      clear hU3 hba HB3 HRO
      have x0 := HX3.out.c 0 rfl
      have x1 := HX3.out.c 1 rfl
      have x2 := HX3.out.c 2 rfl
      go_upto_if 126 with (fail)
      rcases HCS.out with ⟨rfl, k, rfl, hk, hfm, hpx⟩ | ⟨rfl, rfl, rfl⟩
      · clear HCS
        rw [HLN.out] at hk
        have hlt : (l.take k).length = k := by rw [List.length_take, HLN.out]; omega
        have hw := wMessage_any m hpx al cq 0 U3 HR4.out
        unfold WrA at hw
        rw [hfm, hlt] at hw
        have HWV := Lib.hid hw
        clear hw
        go_upto_region 20 with (go_at_call 24; (with_reducible refine HWV.out.mono ?_); rintro e u5 ⟨a5, c5, rfl, ho5, hb5⟩; have HO5 := Lib.hid ho5; have HB5 := Lib.hid (HB4.out.trans (hb5.mono HB4.out.size)); clear hb5 ho5)
        clear HWV x0 x1 x2
        obtain ⟨hs, htk⟩ := slice_to k (HT.out.below HB5.out (Nat.le_refl _)) hk
        have hown := HO5.out
        have hkk : ∀ W, Below u5.heap.size u5 W → (convert 22 9 (.slice a5 k c5)).run Try.prog W = .ok (.string ⟨(l.take k).toArray⟩) W ∧ (convert 22 9 (.slice a k cap)).run Try.prog W = .ok (.string ⟨(l.take k).toArray⟩) W := fun W hW => ⟨text_of (txt_of_owned (own_keep9 hown hW)), text_of (htk.below hW (Nat.le_refl _))⟩
        generalize (⟨(l.take k).toArray⟩ : ByteArray) = s at hkk
        have HKK := Lib.hid hkk
        have q1 : decide ((k : Int) ≤ (n : Int)) = true := decide_eq_true (by omega)
        have q2 : decide (k ≤ n) = true := decide_eq_true hk
        clear hkk hown htk hpx hfm hlt
        go_region_held3 (fun W => (convert 22 9 (.slice a5 k c5)).run Try.prog W = .ok (.string s) W ∧ (convert 22 9 (.slice a k cap)).run Try.prog W = .ok (.string s) W)
          (first | exact HKK.out _ (drew_below u5))
          (first | fail)
        all_goals
          rename_i hHeld
          clear hHeld
          go_wp2_with fail
          go_ret
          exact ⟨rfl, HB5.out.trans ((drew_below u5).mono HB5.out.size)⟩
      · try simp only [List.length_nil]
        go_wp2_with fail
        go_ret
        exact ⟨rfl, HB4.out⟩
end Go.Proofs.Ytloofajopgbfmaa
