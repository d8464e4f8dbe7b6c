/- Wire: the message with which bytes begin: mayMessage, ReadMessage. -/
import Derived.Test.YtloofajopgbfmaaWjRdP
namespace Go.Proofs.Ytloofajopgbfmaa
set_option linter.all false
open Go.RowKit
set_option maxRecDepth 100000
set_option maxHeartbeats 4000000 in
theorem mayMessage_any (id t : Nat) (tg : ByteArray) (vs : List V9) (a : Option Addr) (cap : Nat) (w : World) (ht : tg.size = t) (ht2 : t ≤ 255) (hid : id < 4294967296) (hp : PlainP vs) (hrow : w.ownsRow 0 27 5 (.slice a vs.length cap) vs.length (cellsP vs)) :
    Calls Try.prog 31 #[.agg #[.int .i64 id, .string tg, .slice a vs.length cap]] w fun e w' => e = .returned (.bool (decide (id ≤ 1048575 ∧ 1 ≤ t ∧ t ≤ 32))) ∧ Below w.heap.size w w' := by
  obtain ⟨R, hR⟩ : ∃ R, R = decide (id ≤ 1048575 ∧ 1 ≤ t ∧ t ≤ 32) := ⟨_, rfl⟩
  rw [← hR]
  have HRR := Lib.hid hR
  obtain ⟨W0, hW0⟩ : ∃ W0, W0 = w.alloc (.cells #[.int .i64 id, .string tg, .slice a vs.length cap] 35) := ⟨_, rfl⟩
  have hb : Below w.heap.size w W0 := by rw [hW0]; exact (Below.refl _ w).alloc (Nat.le_refl _) _
  have hx : Bk W0 w.heap.size 35 [.int .i64 id, .string tg, .slice a vs.length cap] := by rw [hW0]; exact Bk.new w _ _
  have hmp := mayPayload_any vs _ W0 hp.all (own_keep9 hrow hb) (by have := hp.few; omega)
  rw [decide_eq_true (And.intro hp.few hp.size)] at hmp
  have HM := Lib.hid hmp
  have HB := Lib.hid hb
  have HW0 := Lib.hid hW0
  have c0 := hx.c 0 rfl
  have c1 := hx.c 1 rfl
  have c2 := hx.c 2 rfl
  subst ht
  have g0 : decide ((0 : Int) ≤ (id : Int)) = true := decide_eq_true (by omega)
  clear hmp hb hW0 hx hrow hp hR
  by_cases h1 : id ≤ 1048575
  · have g1 : decide ((id : Int) < 1048576) = true := decide_eq_true (by omega)
    by_cases h2 : 1 ≤ tg.size
    · have g2 : decide ((1 : Int) ≤ (tg.size : Int)) = true := decide_eq_true (by omega)
      by_cases h3 : tg.size ≤ 32
      · have g3 : decide ((tg.size : Int) ≤ 32) = true := decide_eq_true (by omega)
        have HE : Hid (R = true) := Lib.hid (HRR.out.trans (decide_eq_true ⟨h1, h2, h3⟩))
        go_enter Try.func31, Try.ntmps31
        go_upto_region 1 with (fail)
        rw [← HW0.out]
        go_wp2_with (go_at_call 30; (with_reducible refine HM.out.mono ?_); rintro e w1 ⟨rfl, hb1⟩; have HB1 := Lib.hid (HB.out.trans (hb1.mono HB.out.size)); clear hb1)
        go_ret
        exact ⟨by rw [HE.out]; rfl, HB1.out⟩
      · have g3 : decide ((tg.size : Int) ≤ 32) = false := decide_eq_false (by omega)
        have HE : Hid (R = false) := Lib.hid (HRR.out.trans (decide_eq_false (by omega)))
        go_enter Try.func31, Try.ntmps31
        go_upto_region 1 with (fail)
        rw [← HW0.out]
        go_wp2_with fail
        go_ret
        exact ⟨by rw [HE.out]; rfl, HB.out⟩
    · have g2 : decide ((1 : Int) ≤ (tg.size : Int)) = false := decide_eq_false (by omega)
      have HE : Hid (R = false) := Lib.hid (HRR.out.trans (decide_eq_false (by omega)))
      go_enter Try.func31, Try.ntmps31
      go_upto_region 1 with (fail)
      rw [← HW0.out]
      go_wp2_with fail
      go_ret
      exact ⟨by rw [HE.out]; rfl, HB.out⟩
  · have g1 : decide ((id : Int) < 1048576) = false := decide_eq_false (by omega)
    have HE : Hid (R = false) := Lib.hid (HRR.out.trans (decide_eq_false (by omega)))
    go_enter Try.func31, Try.ntmps31
    go_upto_region 1 with (fail)
    rw [← HW0.out]
    go_wp2_with fail
    go_ret
    exact ⟨by rw [HE.out]; rfl, HB.out⟩
/-- what reading a message answers -/
def MsA (o : Option (M9 × Nat)) (B : Nat) (e : Ending) (w' : World) : Prop :=
  match o with
  | some (m, k) => ∃ a cap, e = .returned (.tuple #[.agg #[.int .i64 m.id, .string ⟨m.tag.toArray⟩, .slice a m.vs.length cap], .int .i64 k, .int .i64 0]) ∧ w'.ownsRow B 27 5 (.slice a m.vs.length cap) m.vs.length (cellsP m.vs)
  | none => e = .returned (.tuple #[.agg #[.int .i64 0, .string ⟨#[]⟩, .slice none 0 0], .int .i64 0, .int .i64 110])
abbrev zeroM : List Value := [.int .i64 0, .string ⟨#[]⟩, .slice none 0 0]
theorem own_set9 {w : World} {B n sz X : Nat} {T : TypeId} {v : Value} {xs : List Value} (h : w.ownsRow B T sz v n xs) (hX : X < B) (j : Nat) (u : Value) : (w.setCell ⟨X, j, none⟩ u).ownsRow B T sz v n xs := by
  refine ⟨h.1, ?_⟩
  rcases h.2 with hn | ⟨g, cap, cur, hv, hbs, hg, rest⟩
  · exact .inl hn
  · exact .inr ⟨g, cap, cur, hv, hbs, (heap_setCell_other w ⟨X, j, none⟩ g u (by show g ≠ X; omega)).trans hg, rest⟩
theorem own_putL {B n sz X : Nat} {T : TypeId} {v : Value} {xs : List Value} (hX : X < B) : ∀ (us : List Value) (w : World) (i : Nat), w.ownsRow B T sz v n xs → (putL X w i us).ownsRow B T sz v n xs
  | [], _, _, h => h
  | u :: us, w, i, h => own_putL hX us _ (i + 1) (own_set9 h hX i u)
/-- 'b[:j]' -/
theorem slice_to {w : World} {a : Option Addr} {n cap : Nat} {l : List UInt8} (j : Nat) (ht : Txt w a n cap l) (hj : j ≤ n) :
    (∀ w', (Instr.slice 22 (.slice a n cap) none (some (.int .i64 (j : Int))) none).run Try.prog w' = .ok (.slice a j cap) w') ∧ Txt w a j cap (l.take j) := by
  refine ⟨fun w' => ?_, txt_take j ht hj⟩
  have hnc := ht.2.1
  rw [run_slice_h w' _ a n cap elem_text .i64 j (by omega) (by omega), elem_is, Try.sizeOf5]
  have e0 : Option.map (fun x : Addr => x.add 0) a = a := by
    cases a with
    | none => rfl
    | some x => simp [Addr.add]
  simp [Result.andThen, sliced, e0]
/-- what is there when the two blocks are made -/
structure RmSt (w W0 : World) (a : Option Addr) (n cap : Nat) (l : List UInt8) : Prop where
  eq : W0 = (w.alloc (.cells #[.int .i64 0, .string ⟨#[]⟩, .slice none 0 0] 35)).alloc (.cells #[.int .i64 0, .string ⟨#[]⟩, .slice none 0 0] 35)
  bel : Below w.heap.size w W0
  x : Bk W0 w.heap.size 35 zeroM
  y : Bk W0 (w.heap.size + 1) 35 zeroM
  t : Txt w a n cap l
theorem rmSt (a : Option Addr) (n cap : Nat) (l : List UInt8) (w : World) (ht : Txt w a n cap l) : ∃ W0, RmSt w W0 a n cap l := by
  obtain ⟨W0, hW0⟩ : ∃ W0, W0 = (w.alloc (.cells zeroM.toArray 35)).alloc (.cells zeroM.toArray 35) := ⟨_, rfl⟩
  have hb0 : Below w.heap.size w W0 := by rw [hW0]; exact ((Below.refl _ w).alloc (Nat.le_refl _) _).alloc (by simp) _
  exact ⟨W0, hW0, hb0, by rw [hW0]; exact (Bk.new w _ _).alloc _, by rw [hW0]; exact heap_alloc2_new w _ _, ht⟩
set_option maxHeartbeats 4000000 in
/-- fewer bytes than are wanted -/
theorem readMessage_few (a : Option Addr) (n cap : Nat) (l : List UInt8) (w W0 : World) (h : RmSt w W0 a n cap l) (hn : n < 5) : Calls Try.prog 9 #[.slice a n cap] w fun e w' => MsA none w.heap.size e w' ∧ Below w.heap.size w w' := by
  have H := Lib.hid h
  have d1 : decide ((n : Int) < 5) = true := decide_eq_true (by omega)
  have d2 : decide (n < 5) = true := decide_eq_true (by omega)
  have c0 := h.x.c 0 rfl
  have c1 := h.x.c 1 rfl
  have c2 := h.x.c 2 rfl
  have f0 := h.x.fz 0
  have f1 := h.x.fz 1
  have f2 := h.x.fz 2
  have hl := h.x.lt
  unfold MsA
  clear h hn
  go_enter Try.func9, Try.ntmps9
  go_wp2_with fail
  refine wp_scope_fwd 0 rfl ?_
  go_upto_region 4 with (fail)
  rw [← H.out.eq]
  go_wp2_with fail
  try go_step3
  refine And.intro rfl ?_
  go_wp2_with fail
  rw [Exit.noGoto_ret]
  have Z := H.out.x.put zeroM rfl
  simp only [zeroM, putL, Nat.reduceAdd] at Z
  have z0 := Z.c 0 rfl
  have z1 := Z.c 1 rfl
  have z2 := Z.c 2 rfl
  exact bodyPost_ret (v := .tuple #[.agg #[.int .i64 0, .string ⟨#[]⟩, .slice none 0 0], .int .i64 0, .int .i64 110]) (by simp [results, Try.results9, go_sem, z0, z1, z2]) rfl ⟨rfl, below_putL (g := w.heap.size) (Nat.le_refl _) zeroM 0 H.out.bel⟩
set_option maxHeartbeats 8000000 in
theorem readMessage_long (a : Option Addr) (n cap t : Nat) (l : List UInt8) (w W0 : World) (h : RmSt w W0 a n cap l) (hn : 5 ≤ n) (ht : (l.getD 4 0).toNat = t) : Calls Try.prog 9 #[.slice a n cap] w fun e w' => MsA (rdM l) w.heap.size e w' ∧ Below w.heap.size w w' := by
  have hl := h.t.1
  have hnm : n ≤ 9223372036854775807 := by have := h.t.2.1; have := h.t.2.2.1; unfold maxLen at *; omega
  have H := Lib.hid h
  have d1 : decide ((n : Int) < 5) = false := decide_eq_false (by omega)
  have d2 : decide (n < 5) = false := decide_eq_false (by omega)
  have ht2 : t ≤ 255 := by have := (l.getD 4 0).toNat_lt; omega
  obtain ⟨b, o, rfl, hc⟩ := txt_cells h.t (by omega)
  have hn4 : (l.getD 4 0) = l[4]'(by omega) := by
    rw [List.getD_eq_getElem?_getD, List.getElem?_eq_getElem (by omega)]
    rfl
  have kc : W0.cell? ⟨b, o + 4, none⟩ = some (.int .u8 (t : Int)) := by
    have h4 := hc 4 (by omega)
    rw [← hn4, ht] at h4
    exact (h.bel.cell (World.block_lt_of_cell? w _ h4)).trans h4
  have hn0 : 4 < n := by omega
  have HL := Lib.hid hl
  obtain ⟨O, hO⟩ : ∃ O, O = rdM l := ⟨_, rfl⟩
  rw [← hO]
  have HO := Lib.hid hO
  clear hO hn4 hc hl
  by_cases h5 : n < 5 + t
  · have d3 : decide ((n : Int) < 5 + (t : Int)) = true := decide_eq_true (by omega)
    have HE : Hid (O = none) := Lib.hid (by
      rw [HO.out]; unfold rdM
      rw [if_neg (by rw [HL.out]; omega)]
      by_cases hid : 1048575 < numW (l.take 4)
      · rw [if_pos hid]
      · rw [if_neg hid]
        by_cases hq : (l.getD 4 0).toNat < 1 ∨ 32 < (l.getD 4 0).toNat
        · rw [if_pos hq]
        · rw [if_neg hq, if_pos (by rw [HL.out, ht]; omega)])
    have c0 := h.x.c 0 rfl
    have c1 := h.x.c 1 rfl
    have c2 := h.x.c 2 rfl
    have f0 := h.x.fz 0
    have f1 := h.x.fz 1
    have f2 := h.x.fz 2
    have hl := h.x.lt
    clear h hn ht
    go_enter Try.func9, Try.ntmps9
    go_wp2_with fail
    refine wp_scope_fwd 0 rfl ?_
    go_upto_region 4 with (fail)
    rw [← H.out.eq]
    go_wp2_with fail
    try go_step3
    refine And.intro rfl ?_
    go_wp2_with fail
    rw [Exit.noGoto_ret]
    have Z := H.out.x.put zeroM rfl
    simp only [zeroM, putL, Nat.reduceAdd] at Z
    have z0 := Z.c 0 rfl
    have z1 := Z.c 1 rfl
    have z2 := Z.c 2 rfl
    exact bodyPost_ret (v := .tuple #[.agg #[.int .i64 0, .string ⟨#[]⟩, .slice none 0 0], .int .i64 0, .int .i64 110]) (by simp [results, Try.results9, go_sem, z0, z1, z2]) rfl ⟨by rw [HE.out]; rfl, below_putL (g := w.heap.size) (Nat.le_refl _) zeroM 0 H.out.bel⟩
  · have d3 : decide ((n : Int) < 5 + (t : Int)) = false := decide_eq_false (by omega)
    have hT0 := h.t
    obtain ⟨hs1, ht1⟩ := slice_to 4 hT0 (by omega)
    obtain ⟨a2, hs2, htg⟩ := slice_mid 5 (5 + t) hT0 (by omega) (by omega)
    rw [show 5 + t - 5 = t by omega] at hs2 htg
    have hcv := fun W (hW : Below w.heap.size w W) => text_of (htg.below hW (Nat.le_refl _))
    have hnum := fun W (hW : Below w.heap.size w W) => number_any _ 4 cap (l.take 4) W (ht1.below hW (Nat.le_refl _)) (by omega)
    have hs1' : ∀ w', (Instr.slice 22 (.slice (some ⟨b, o, none⟩) n cap) none (some (.int .i64 4)) none).run Try.prog w' = .ok (.slice (some ⟨b, o, none⟩) 4 cap) w' := hs1
    have hs2' : ∀ w', (Instr.slice 22 (.slice (some ⟨b, o, none⟩) n cap) (some (.int .i64 5)) (some (.int .i64 (5 + (t : Int)))) none).run Try.prog w' = .ok (.slice a2 t (cap - 5)) w' := fun w' => by
      have := hs2 w'
      rw [show ((5 + t : Nat) : Int) = 5 + (t : Int) by omega] at this
      exact this
    have hid4 : numW (l.take 4) < 4294967296 := by
      have h1 := numW_lt (l.take 4)
      have h2 : (l.take 4).length = 4 := by rw [List.length_take, HL.out]; omega
      rw [h2] at h1
      exact h1
    generalize hidn : numW (l.take 4) = id at *
    have y0 := h.y.c 0 rfl
    have y1 := h.y.c 1 rfl
    have fy0 := h.y.fz 0
    have fy1 := h.y.fz 1
    have ly := h.y.lt
    have HN := Lib.hid hnum
    have HCV := Lib.hid hcv
    obtain ⟨a3, hs3, ht3⟩ := slice_from (5 + t) hT0 (by omega)
    have hs3' : ∀ w', (Instr.slice 22 (.slice (some ⟨b, o, none⟩) n cap) (some (.int .i64 (5 + (t : Int)))) none none).run Try.prog w' = .ok (.slice a3 (n - (5 + t)) (cap - (5 + t))) w' := fun w' => by
      have := hs3 w'
      rw [show ((5 + t : Nat) : Int) = 5 + (t : Int) by omega] at this
      exact this
    have HT3 := Lib.hid ht3
    have HT0 := Lib.hid ht
    have HID := Lib.hid hidn
    clear h hn ht hs1 hs2 ht1 htg hnum hcv hT0 hidn hs3 ht3
    go_enter Try.func9, Try.ntmps9
    go_wp2_with fail
    refine wp_scope_fwd 0 rfl ?_
    go_upto_region 4 with (fail)
    rw [← H.out.eq]
    go_upto_region 7 with (fail)
    have hw : IntKind.i64.wrap (id : Int) = (id : Int) := by rw [IntKind.wrap_i64]; omega
    obtain ⟨s9, hs9⟩ : ∃ s9 : ByteArray, s9 = ⟨((l.drop 5).take t).toArray⟩ := ⟨_, rfl⟩
    have HS9 := Lib.hid hs9
    rw [← hs9] at HCV
    have b0 := H.out.bel
    have b1 : Below w.heap.size w W0.drew := b0.trans ((drew_below W0).mono b0.size)
    have b2 : Below w.heap.size w (W0.setCell ⟨w.heap.size + 1, 0, none⟩ (.int .i64 id)).drew := (b0.setCell (by simp) _).drew
    have b3 : Below w.heap.size w (W0.setCell ⟨w.heap.size + 1, 1, none⟩ (.string s9)).drew := (b0.setCell (by simp) _).drew
    have cv0 := HCV.out W0 b0
    have cv1 := HCV.out W0.drew b1
    have cv2 := HCV.out _ b2
    have HN1 := Lib.hid (HN.out _ b1)
    have HN3 := Lib.hid (HN.out _ b3)
    clear b0 b1 b2 b3 hs9
    go_cut [] (fun wx => Hid (Bk wx w.heap.size 35 zeroM) ∧ Hid (Bk wx (w.heap.size + 1) 35 [.int .i64 id, .string s9, .slice none 0 0]) ∧ Hid (Below w.heap.size w wx))
    case first =>
      go_region_with (first | (go_at_call 26; (with_reducible refine HN1.out.mono ?_); rintro e w1 ⟨rfl, rfl⟩) | (go_at_call 26; (with_reducible refine HN3.out.mono ?_); rintro e w1 ⟨rfl, rfl⟩))
      all_goals
        go_wp2_with fail
        go_meet
        first
          | exact ⟨Lib.hid ((H.out.x.other (by omega) _ _).other (by omega) _ _), Lib.hid ((H.out.y.set 0 (.int .i64 id)).set 1 (.string s9)), Lib.hid (((H.out.bel.setCell (by simp) _).setCell (by simp) _).drew)⟩
          | exact ⟨Lib.hid ((H.out.x.other (by omega) _ _).other (by omega) _ _), Lib.hid ((H.out.y.set 1 (.string s9)).set 0 (.int .i64 id)), Lib.hid (((H.out.bel.setCell (by simp) _).setCell (by simp) _).drew)⟩
    case rest =>
      obtain ⟨HX2, HY2, HB2⟩ := hcut
      clear cv0 cv1 cv2 HN1 HN3 HN HCV y0 y1 fy0 fy1 ly kc hs1' hs2'
      have hrp := readPayload_any a3 (n - (5 + t)) (cap - (5 + t)) (l.drop (5 + t)) _ (HT3.out.below HB2.out (Nat.le_refl _))
      have y2 := HY2.out.c 2 rfl
      have fy2 := HY2.out.fz 2
      have ly := HY2.out.lt
      cases hr : rdP (l.drop (5 + t)) with
      | none =>
        rw [hr] at hrp
        unfold PlA at hrp
        have HP := Lib.hid hrp
        clear hrp
        have HE : Hid (O = none) := Lib.hid (by
          rw [HO.out]; unfold rdM
          rw [if_neg (by rw [HL.out]; omega)]
          by_cases hid : 1048575 < numW (l.take 4)
          · rw [if_pos hid]
          · rw [if_neg hid]
            by_cases hq : (l.getD 4 0).toNat < 1 ∨ 32 < (l.getD 4 0).toNat
            · rw [if_pos hq]
            · rw [if_neg hq, if_neg (by rw [HL.out, HT0.out]; omega), HT0.out, hr]; rfl)
        clear hr
        go_wp2_with fail
        refine HP.out.mono ?_
        rintro e w1 ⟨rfl, hb1⟩
        have hy3 := HY2.out.keep hb1 HY2.out.lt
        have hx3 := HX2.out.keep hb1 HX2.out.lt
        have hb3 := HB2.out.trans (hb1.mono HB2.out.size)
        clear y2 fy2 ly
        have y2 := hy3.c 2 rfl
        have fy2 := hy3.fz 2
        have ly := hy3.lt
        have HX4 : Hid (Bk (w1.setCell ⟨w.heap.size + 1, 2, none⟩ (.slice none 0 0)) w.heap.size 35 zeroM) := Lib.hid (hx3.other (by omega) _ _)
        have HB4 : Hid (Below w.heap.size w (w1.setCell ⟨w.heap.size + 1, 2, none⟩ (.slice none 0 0))) := Lib.hid (hb3.setCell (by simp) _)
        clear hy3 hx3 hb3 hb1
        go_upto_region 9 with (fail)
        clear y2 fy2 ly
        generalize w1.setCell ⟨w.heap.size + 1, 2, none⟩ (.slice none 0 0) = W4 at *
        have x0 := HX4.out.c 0 rfl
        have x1 := HX4.out.c 1 rfl
        have x2 := HX4.out.c 2 rfl
        have fx0 := HX4.out.fz 0
        have fx1 := HX4.out.fz 1
        have fx2 := HX4.out.fz 2
        have lx := HX4.out.lt
        go_wp2_with fail
        try go_step3
        refine And.intro rfl ?_
        go_wp2_with fail
        rw [Exit.noGoto_ret]
        have Z := HX4.out.put zeroM rfl
        simp only [zeroM, putL, Nat.reduceAdd] at Z
        have z0 := Z.c 0 rfl
        have z1 := Z.c 1 rfl
        have z2 := Z.c 2 rfl
        exact bodyPost_ret (v := .tuple #[.agg #[.int .i64 0, .string ⟨#[]⟩, .slice none 0 0], .int .i64 0, .int .i64 110]) (by simp [results, Try.results9, go_sem, z0, z1, z2]) rfl ⟨by rw [HE.out]; rfl, below_putL (g := w.heap.size) (Nat.le_refl _) zeroM 0 HB4.out⟩
      | some q =>
        obtain ⟨vs, k⟩ := q
        rw [hr] at hrp
        unfold PlA at hrp
        have HP := Lib.hid hrp
        have hvp := (rdP_form hr).2.2.1
        have hfn := rdP_form hr
        have hkl : k ≤ n - (5 + t) := by have := hfn.1; rw [List.length_drop, HL.out] at this; exact this
        have HVP := Lib.hid hvp
        have HRR := Lib.hid hr
        clear hrp hvp hfn hr
        go_wp2_with fail
        refine HP.out.mono ?_
        rintro e w1 ⟨⟨ap, cpp, rfl, hown⟩, hb1⟩
        have hy3 := HY2.out.keep hb1 HY2.out.lt
        have hx3 := HX2.out.keep hb1 HX2.out.lt
        have hb3 := HB2.out.trans (hb1.mono HB2.out.size)
        clear y2 fy2 ly
        have y2 := hy3.c 2 rfl
        have fy2 := hy3.fz 2
        have ly := hy3.lt
        have HX4 : Hid (Bk (w1.setCell ⟨w.heap.size + 1, 2, none⟩ (.slice ap vs.length cpp)) w.heap.size 35 zeroM) := Lib.hid (hx3.other (by omega) _ _)
        have HY4 : Hid (Bk (w1.setCell ⟨w.heap.size + 1, 2, none⟩ (.slice ap vs.length cpp)) (w.heap.size + 1) 35 [.int .i64 id, .string s9, .slice ap vs.length cpp]) := Lib.hid (hy3.set 2 _)
        have HB4 : Hid (Below w.heap.size w (w1.setCell ⟨w.heap.size + 1, 2, none⟩ (.slice ap vs.length cpp))) := Lib.hid (hb3.setCell (by simp) _)
        have HR4 := Lib.hid (own_set9 hown HY2.out.lt 2 (.slice ap vs.length cpp))
        have hXB := HX2.out.lt
        have HXB := Lib.hid hXB
        clear hy3 hx3 hb3 hb1 hown hXB
        go_upto_region 9 with (fail)
        clear y2 fy2 ly
        generalize w1.setCell ⟨w.heap.size + 1, 2, none⟩ (.slice ap vs.length cpp) = W4 at *
        have hmm := mayMessage_any id t s9 vs ap cpp W4 (by rw [HS9.out]; show ((l.drop 5).take t).length = t; rw [List.length_take, List.length_drop, HL.out]; omega) ht2 hid4 HVP.out (own_base9 HR4.out (Nat.zero_le _))
        have y0 := HY4.out.c 0 rfl
        have y1 := HY4.out.c 1 rfl
        have y2 := HY4.out.c 2 rfl
        have hrd : O = if id ≤ 1048575 ∧ 1 ≤ t ∧ t ≤ 32 then some (⟨id, (l.drop 5).take t, vs⟩, 5 + t + k) else none := by
          rw [HO.out]; unfold rdM
          rw [if_neg (by rw [HL.out]; omega), HID.out, HT0.out]
          by_cases hid : 1048575 < id
          · rw [if_pos hid, if_neg (by omega)]
          · rw [if_neg hid]
            by_cases hq : t < 1 ∨ 32 < t
            · rw [if_pos hq, if_neg (by omega)]
            · rw [if_neg hq, if_neg (by rw [HL.out]; omega), HRR.out, if_pos (by omega)]
              rfl
        have HRD := Lib.hid hrd
        clear hrd
        by_cases hok : id ≤ 1048575 ∧ 1 ≤ t ∧ t ≤ 32
        · rw [decide_eq_true hok] at hmm
          have HM := Lib.hid hmm
          have HE : Hid (O = some (⟨id, (l.drop 5).take t, vs⟩, 5 + t + k)) := Lib.hid (by rw [HRD.out, if_pos hok])
          clear hmm hok
          go_wp2_with fail
          refine HM.out.mono ?_
          rintro e w5 ⟨rfl, hb5⟩
          have HX5 := Lib.hid (HX4.out.keep hb5 HX4.out.lt)
          have HY5 := Lib.hid (HY4.out.keep hb5 HY4.out.lt)
          have HB5 := Lib.hid (HB4.out.trans (hb5.mono HB4.out.size))
          have HR5 := Lib.hid (own_keep9 HR4.out hb5)
          clear hb5 y0 y1 y2
          have x0 := HX5.out.c 0 rfl
          have x1 := HX5.out.c 1 rfl
          have x2 := HX5.out.c 2 rfl
          have fx0 := HX5.out.fz 0
          have fx1 := HX5.out.fz 1
          have fx2 := HX5.out.fz 2
          have lx := HX5.out.lt
          have y0 := HY5.out.c 0 rfl
          have y1 := HY5.out.c 1 rfl
          have y2 := HY5.out.c 2 rfl
          go_wp2_with fail
          rw [jump_ret]
          have Z := HX5.out.put [.int .i64 id, .string s9, .slice ap vs.length cpp] rfl
          simp only [putL, Nat.reduceAdd] at Z
          have z0 := Z.c 0 rfl
          have z1 := Z.c 1 rfl
          have z2 := Z.c 2 rfl
          exact bodyPost_ret (v := .tuple #[.agg #[.int .i64 id, .string s9, .slice ap vs.length cpp], .int .i64 (5 + t + k), .int .i64 0]) (by simp [results, Try.results9, go_sem, z0, z1, z2]) rfl ⟨by rw [HE.out]; exact ⟨ap, cpp, by rw [HS9.out]; rfl, own_base9 (own_putL HXB.out [.int .i64 id, .string s9, .slice ap vs.length cpp] _ 0 HR5.out) HB2.out.size⟩, below_putL (g := w.heap.size) (Nat.le_refl _) [.int .i64 id, .string s9, .slice ap vs.length cpp] 0 HB5.out⟩
        · rw [decide_eq_false hok] at hmm
          have HM := Lib.hid hmm
          have HE : Hid (O = none) := Lib.hid (by rw [HRD.out, if_neg hok])
          clear hmm hok
          go_wp2_with fail
          refine HM.out.mono ?_
          rintro e w5 ⟨rfl, hb5⟩
          have HX5 := Lib.hid (HX4.out.keep hb5 HX4.out.lt)
          have HB5 := Lib.hid (HB4.out.trans (hb5.mono HB4.out.size))
          clear hb5 y0 y1 y2
          have x0 := HX5.out.c 0 rfl
          have x1 := HX5.out.c 1 rfl
          have x2 := HX5.out.c 2 rfl
          have fx0 := HX5.out.fz 0
          have fx1 := HX5.out.fz 1
          have fx2 := HX5.out.fz 2
          have lx := HX5.out.lt
          go_wp2_with fail
          try go_step3
          refine And.intro rfl ?_
          go_wp2_with fail
          rw [Exit.noGoto_ret]
          have Z := HX5.out.put zeroM rfl
          simp only [zeroM, putL, Nat.reduceAdd] at Z
          have z0 := Z.c 0 rfl
          have z1 := Z.c 1 rfl
          have z2 := Z.c 2 rfl
          exact bodyPost_ret (v := .tuple #[.agg #[.int .i64 0, .string ⟨#[]⟩, .slice none 0 0], .int .i64 0, .int .i64 110]) (by simp [results, Try.results9, go_sem, z0, z1, z2]) rfl ⟨by rw [HE.out]; rfl, below_putL (g := w.heap.size) (Nat.le_refl _) zeroM 0 HB5.out⟩
theorem readMessage_any (a : Option Addr) (n cap : Nat) (l : List UInt8) (w : World) (ht : Txt w a n cap l) : Calls Try.prog 9 #[.slice a n cap] w fun e w' => MsA (rdM l) w.heap.size e w' ∧ Below w.heap.size w w' := by
  obtain ⟨W0, h⟩ := rmSt a n cap l w ht
  have hl := ht.1
  rcases Nat.lt_or_ge n 5 with h5 | h5
  · rw [show rdM l = none by unfold rdM; rw [if_pos (by omega)]]
    exact readMessage_few a n cap l w W0 h h5
  · exact readMessage_long a n cap _ l w W0 h h5 rfl
end Go.Proofs.Ytloofajopgbfmaa
