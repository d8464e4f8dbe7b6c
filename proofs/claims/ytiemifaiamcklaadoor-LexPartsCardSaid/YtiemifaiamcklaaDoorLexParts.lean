/- LexParts. -/
import Derived.Test.YtiemifaiamcklaaDoorLexJoined
import Derived.Test.YtiemifaiamcklaaDoorGap
import Derived.StillTailTactics
namespace Go.Proofs.YtiemifaiamcklaaDoor
open Go.RowKit Go.Shelf
set_option maxRecDepth 100000

theorem slice_head {w : World} {a : Option Addr} {n cap : Nat} {l : List UInt8} (k : Nat) (ht : Txt w a n cap l) (hk : k ≤ n) :
    (∀ w', (Instr.slice 22 (.slice a n cap) none (some (.int .i64 (k : Int))) none).run Tryd.prog w' = .ok (.slice a k cap) w') ∧ Txt w a k cap (l.take k) := by
  have hnc := ht.2.1
  refine ⟨fun w' => ?_, txt_take k ht hk⟩
  rw [run_slice_h w' _ a n cap elem_text .i64 k (by omega) (by omega), elem_is, Tryd.sizeOf5]
  simp [Result.andThen, sliced]
  intro _
  cases a with
  | none => rfl
  | some x => simp [Addr.add]
theorem chain_cons {l : List UInt8} {xs : List (Tok × Nat)} {k F E : Nat} {last : Bool} {x : Tok × Nat} (h : Chain l F (xs.drop k) E last) (hx : xs[k]? = some x) :
    F ≤ x.1.at_ ∧ 0 < x.1.size ∧ x.1.at_ + x.1.size ≤ E ∧ gapOk ((l.drop F).take (x.1.at_ - F)) false = true ∧ Chain l (x.1.at_ + x.1.size) (xs.drop (k + 1)) E last := by
  obtain ⟨hk, rfl⟩ := List.getElem?_eq_some_iff.1 hx
  rw [List.drop_eq_getElem_cons hk] at h
  obtain ⟨h1, h2, h3, h4, h5⟩ := h
  exact ⟨h1, h2, h3, by unfold gapOk; rw [h4]; rfl, h5⟩
theorem chain_end {l : List UInt8} {xs : List (Tok × Nat)} {F E : Nat} {last : Bool} (h : Chain l F (xs.drop xs.length) E last) : F ≤ E ∧ gapOk ((l.drop F).take (E - F)) last = true := by
  rw [List.drop_length] at h
  obtain ⟨h1, _, d, h3, h4⟩ := h
  refine ⟨h1, ?_⟩
  unfold gapOk
  rw [h3]
  rcases h4 with rfl | rfl
  · rfl
  · cases last <;> rfl
theorem form6 {w : World} {base e N : Nat} {v : Value} {xs : List Value} (hown : w.ownsRow base e 6 v N xs) : ∃ ba bc, v = .slice ba N bc := by
  rcases hown.2 with ⟨h, h0⟩ | ⟨g, cap, cur, h, _⟩
  · exact ⟨none, 0, by rw [h, h0]⟩
  · exact ⟨_, _, h⟩

set_option maxHeartbeats 4000000 in
theorem parts_walk (a : Option Addr) (n cap : Nat) (l : List UInt8) (w : World) (hG : Glob w) (ht : Txt w a n cap l) (hr : n ≤ 140737488351232) :
    Calls Tryd.prog 5 #[.slice a n cap] w fun e w' => e = .returned (.bool true) ∧ Below w.heap.size w w' := by
  have HT := Lib.hid ht
  have HG := Lib.hid hG
  clear ht hG
  go_enter Tryd.func5, Tryd.ntmps5
  go_wp2_with fail
  refine (awake_any w HG.out).mono ?_
  rintro e w1 ⟨rfl, hb1⟩
  have HBW4 := Lib.hid hb1
  clear hb1
  go_wp2_with fail
  have hl := HT.out.1
  refine (lent_any a n cap l w1 (HT.out.below HBW4.out (Nat.le_refl _)) hr).mono ?_
  rintro e w5 ⟨g2, c2, rfl, hc2, hg2, hown2, hb5⟩
  have hcm2 : c2 ≤ maxLen := by
    rcases hown2.2 with ⟨h, _⟩ | ⟨_, _, _, he, _, _, _, h, _⟩
    · cases h
    · cases he; exact h
  have hT5 : Txt w5 (some ⟨g2, 0, none⟩) n c2 l := ⟨hl, by omega, hcm2, .inr ⟨_, rfl, (At.owned hown2).left⟩⟩
  have hbw5 : Below w.heap.size w w5 := HBW4.out.trans (hb5.mono HBW4.out.size)
  have HT5 := Lib.hid hT5
  have HBW5 := Lib.hid hbw5
  have HL := Lib.hid hl
  clear hT5 hbw5 hown2 hb5 hl
  go_wp2_with fail
  refine (Scan_any _ _ _ _ w5 HT5.out (HG.out.below HBW5.out (Nat.le_refl _))).mono ?_
  rintro e w6 ⟨hb6, ⟨v, rfl, hz, hr6⟩ | ⟨p, x, r, h1, h2, h3, rfl⟩⟩
  · have hbw6 : Below w.heap.size w w6 := HBW5.out.trans (hb6.mono HBW5.out.size)
    obtain ⟨va, vc2, rfl⟩ := form6 hr6
    obtain ⟨hs, hch⟩ := parts_ok l hz
    obtain ⟨xs, hxs⟩ : ∃ xs, xs = allF l := ⟨_, rfl⟩
    obtain ⟨M, hM⟩ : ∃ M, M = xs.length := ⟨_, rfl⟩
    have hMl : M ≤ 32769 := by rw [hM, hxs]; exact allF_len l
    have HX : Hid (∀ x ∈ xs, x ∈ allF l ∧ x.2 = 0) := by
      have : ∀ x ∈ xs, x ∈ allF l ∧ x.2 = 0 := by intro x hx; rw [hxs] at hx; exact ⟨hx, hz x hx⟩
      exact this
    have hEn : n ≤ n := Nat.le_refl _
    rw [HL.out] at hch
    rw [← hxs] at hch hr6 ⊢
    rw [← hM] at hr6 ⊢
    have HCH := Lib.hid hch
    have HR := Lib.hid hr6
    have HBW := Lib.hid hbw6
    have HM := Lib.hid hM
    clear hch hr6 hbw6 hM hxs hz hb6
    have hs' : n ≤ 32768 := by rw [← HL.out]; exact hs
    clear hs
    go_wp2_with fail
    go_loopw [10, 11] (fun f i wr => ∃ k F : Nat, i = .int .i64 k ∧ k ≤ M ∧ f = .int .i64 F ∧ F ≤ n ∧ Hid (Chain l F (xs.drop k) n true) ∧ Below w6.heap.size w6 wr) (fun _ i _ => M - (intOf i).toNat)
    case atStart => exact ⟨0, 0, rfl, Nat.zero_le _, rfl, Nat.zero_le _, HCH.out, Below.refl _ _⟩
    case round =>
      obtain ⟨k, F, rfl, hk, rfl, hF, hc, hbr⟩ := hrel
      have HBR := Lib.hid hbr
      have hsz := hbr.size
      have HBWR := Lib.hid (HBW.out.trans (hbr.mono HBW.out.size))
      rcases Nat.lt_or_ge k M with hlt | hge
      · have hlt' : k < xs.length := by rw [← HM.out]; exact hlt
        obtain ⟨x, hx⟩ : ∃ x, xs[k]? = some x := ⟨_, List.getElem?_eq_getElem hlt'⟩
        obtain ⟨hm1, hm2⟩ := HX.out x (List.mem_of_getElem? hx)
        have hal := scan_alone l (by rw [HL.out]; exact hs') x hm1 hm2
        obtain ⟨k1, k2, k3, k4, k5⟩ := chain_cons hc.out hx
        obtain ⟨gv, rfl⟩ : ∃ gv, va = some ⟨gv, 0, none⟩ := by
          rcases HR.out.2 with ⟨h, h0⟩ | ⟨g, cap, cur, h, _⟩
          · omega
          · cases h; exact ⟨_, rfl⟩
        have hgv := (HR.out.lt gv rfl).2
        have cx : ∀ j u, j < 6 → (tokCells x.1)[j]? = some u → wr.cell? ⟨gv, k * 6 + j, none⟩ = some u := fun j u hj hu => by
          rw [hbr.cell (p := ⟨gv, k * 6 + j, none⟩) hgv, HR.out.cellAt _ (by omega), flatT_at _ k j x hx hj]
          exact hu
        obtain ⟨⟨kd, tx, iv, rl, at_, sz⟩, er⟩ := x
        simp only at k1 k2 k3 k4 k5 hal
        have herr : er = 0 := hm2
        have x0 : wr.cell? ⟨gv, k * 6, none⟩ = some (.int .i64 kd) := cx 0 _ (by decide) rfl
        have x1 := cx 1 _ (by decide) rfl
        have x2 := cx 2 _ (by decide) rfl
        have x3 := cx 3 _ (by decide) rfl
        have x4 := cx 4 _ (by decide) rfl
        have x5 := cx 5 _ (by decide) rfl
        have sf : ∀ (p : Addr) (b : Nat) (mo : Mode) (w' : World), (store p (.float .f64 b) mo).run Tryd.prog w' = stored Tryd.prog w' p (.float .f64 b) mo := fun p b mo w' => run_store _ w' p _ mo rfl
        have hTr := HT.out.below HBWR.out (Nat.le_refl _)
        obtain ⟨a3, hsl3, hT3⟩ := slice_mid F at_ hTr k1 (by omega)
        obtain ⟨a4, hsl4, hT4⟩ := slice_mid at_ (at_ + sz) hTr (Nat.le_add_right _ _) (by omega)
        rw [Nat.add_sub_cancel_left] at hsl4 hT4
        have hpe : (l.drop at_).take sz = pieceOf l at_ (at_ + sz) := by unfold pieceOf; rw [Nat.add_sub_cancel_left]
        rw [hpe] at hT4
        have hsl4' : ∀ w', (Instr.slice 22 (.slice a n cap) (some (.int .i64 (at_ : Int))) (some (.int .i64 ((at_ : Int) + (sz : Int)))) none).run Tryd.prog w' = .ok (.slice a4 sz (cap - at_)) w' := hsl4
        have hg3 : ∀ W, Txt W a3 (at_ - F) (cap - F) ((l.drop F).take (at_ - F)) → Calls Tryd.prog 19 #[.slice a3 (at_ - F) (cap - F), .bool false] W fun e w' => e = .returned (.bool true) ∧ W = w' := fun W h => by
          have := gap_any a3 (at_ - F) (cap - F) ((l.drop F).take (at_ - F)) false W h (by omega)
          rw [k4] at this
          exact this
        have HG3 := Lib.hid hg3
        have HT3 := Lib.hid hT3
        have HT4 := Lib.hid hT4
        have HAL := Lib.hid hal
        have HK5 := Lib.hid k5
        have hd1 : decide ((sz : Int) < 1) = false := by simp; omega
        have hd2 : decide ((at_ : Int) < (F : Int)) = false := by simp; omega
        have hd3 : decide ((n : Int) < (at_ : Int) + (sz : Int)) = false := by simp; omega
        obtain ⟨w7, hw7⟩ : ∃ w7, w7 = wr.alloc (.cells #[.int .i64 kd, .string ⟨tx.toArray⟩, .int .i64 iv, .float .f64 rl, .int .i64 at_, .int .i64 sz] 40) := ⟨_, rfl⟩
        have hb7 : Below wr.heap.size wr w7 := by rw [hw7]; exact (Below.refl _ wr).alloc (Nat.le_refl _) _
        have hz7 : w7.heap.size = wr.heap.size + 1 := by rw [hw7]; simp
        have h7 : w7.heap[wr.heap.size]? = some (.cells #[.int .i64 kd, .string ⟨tx.toArray⟩, .int .i64 iv, .float .f64 rl, .int .i64 at_, .int .i64 sz] 40 (0, 0)) := by rw [hw7]; exact heap_alloc_new wr _
        have HW7 := Lib.hid hw7
        have HB7 := Lib.hid hb7
        have HZ7 := Lib.hid hz7
        have HH7 := Lib.hid h7
        clear hsl4 hbr hc hx hm1 hm2 hal k4 k5 cx hgv hTr hT3 hT4 hpe hg3 hlt' hw7 hb7 hz7 h7
        go_wp2_with fail
        rw [← HW7.out]
        refine (HG3.out w7 (HT3.out.below HB7.out (Nat.le_refl _))).mono ?_
        rintro e w7' ⟨rfl, rfl⟩
        clear x0 x1 x2 x3 x4 x5
        have d0 : w7.cell? ⟨wr.heap.size, 0, none⟩ = some (.int .i64 kd) := by simp [World.cell?, HH7.out]
        have d1 : w7.cell? ⟨wr.heap.size, 1, none⟩ = some (.string ⟨tx.toArray⟩) := by simp [World.cell?, HH7.out]
        have d2 : w7.cell? ⟨wr.heap.size, 2, none⟩ = some (.int .i64 iv) := by simp [World.cell?, HH7.out]
        have d3 : w7.cell? ⟨wr.heap.size, 3, none⟩ = some (.float .f64 rl) := by simp [World.cell?, HH7.out]
        have d4 : w7.cell? ⟨wr.heap.size, 4, none⟩ = some (.int .i64 at_) := by simp [World.cell?, HH7.out]
        have d5 : w7.cell? ⟨wr.heap.size, 5, none⟩ = some (.int .i64 sz) := by simp [World.cell?, HH7.out]
        go_wp2_with fail
        have HB07 := Lib.hid (HBWR.out.trans (HB7.out.mono HBWR.out.size))
        refine (lent_any a4 sz (cap - at_) _ w7 (HT4.out.below HB7.out (Nat.le_refl _)) (by omega)).mono ?_
        rintro e w8 ⟨g8, c8, rfl, hc8, hg8, hown8, hb8⟩
        have hcm8 : c8 ≤ maxLen := by
          rcases hown8.2 with ⟨h, _⟩ | ⟨_, _, _, he, _, _, _, h, _⟩
          · cases h
          · cases he; exact h
        have hT8 : Txt w8 (some ⟨g8, 0, none⟩) sz c8 (pieceOf l at_ (at_ + sz)) := ⟨HT4.out.1, by omega, hcm8, .inr ⟨_, rfl, (At.owned hown8).left⟩⟩
        have hb08 : Below w.heap.size w w8 := HB07.out.trans (hb8.mono HB07.out.size)
        have hs8 := Scan_ok _ _ _ _ w8 hT8 (HG.out.below hb08 (Nat.le_refl _)) (by rw [HAL.out]; simp [zT, herr])
        rw [HAL.out] at hs8
        have HS8 := Lib.hid hs8
        have HB8 := Lib.hid hb8
        have HB08 := Lib.hid hb08
        clear hown8 hT8 hs8 hb8 hb08 d0 d1 d2 d3 d4 d5
        go_wp2_with fail
        refine HS8.out.mono ?_
        rintro e w9 ⟨v9, rfl, hr9, hb9⟩
        obtain ⟨g9, c9, rfl⟩ := ownsRow_succ (k := 0) hr9
        have cz : ∀ j u, (flatT [zT ((⟨kd, tx, iv, rl, at_, sz⟩ : Tok), er)])[j]? = some u → w9.cell? ⟨g9, j, none⟩ = some u := fun j u hj => by
          have hlt : j < (flatT [zT ((⟨kd, tx, iv, rl, at_, sz⟩ : Tok), er)]).length := (List.getElem?_eq_some_iff.1 hj).1
          rw [hr9.cellAt j (by rw [hr9.1] at hlt; exact hlt)]; exact hj
        have o0 := cz 0 _ rfl
        have o1 := cz 1 _ rfl
        have o2 := cz 2 _ rfl
        have o3 := cz 3 _ rfl
        have o4 : w9.cell? ⟨g9, 4, none⟩ = some (.int .i64 0) := cz 4 _ rfl
        have o5 := cz 5 _ rfl
        simp only [zT] at o0 o1 o2 o3 o5
        have hb79 : Below w7.heap.size w7 w9 := HB8.out.trans (hb9.mono HB8.out.size)
        have hlt7 : wr.heap.size < w7.heap.size := by rw [HZ7.out]; omega
        have cq : ∀ j, w9.cell? ⟨wr.heap.size, j, none⟩ = w7.cell? ⟨wr.heap.size, j, none⟩ := fun j => hb79.cell (p := ⟨wr.heap.size, j, none⟩) hlt7
        have d0 : w9.cell? ⟨wr.heap.size, 0, none⟩ = some (.int .i64 kd) := by rw [cq]; simp [World.cell?, HH7.out]
        have d1 : w9.cell? ⟨wr.heap.size, 1, none⟩ = some (.string ⟨tx.toArray⟩) := by rw [cq]; simp [World.cell?, HH7.out]
        have d2 : w9.cell? ⟨wr.heap.size, 2, none⟩ = some (.int .i64 iv) := by rw [cq]; simp [World.cell?, HH7.out]
        have d3 : w9.cell? ⟨wr.heap.size, 3, none⟩ = some (.float .f64 rl) := by rw [cq]; simp [World.cell?, HH7.out]
        have d4 : w9.cell? ⟨wr.heap.size, 4, none⟩ = some (.int .i64 at_) := by rw [cq]; simp [World.cell?, HH7.out]
        have d5 : w9.cell? ⟨wr.heap.size, 5, none⟩ = some (.int .i64 sz) := by rw [cq]; simp [World.cell?, HH7.out]
        have hb9r : Below w6.heap.size w6 w9 := HBR.out.trans ((HB7.out.trans (hb79.mono HB7.out.size)).mono hsz)
        have HB9 := Lib.hid hb9r
        have hz9 := hb9r.size
        clear cz hr9 hb9 hb79 cq hb9r hlt7
        go_wp2_with fail
        go_still_tail 19, (by kernel_rfl)
        change wpList _ _ _ _ _ w9.drew
        have hbd : Below w6.heap.size w6 w9.drew := HB9.out.drew
        have hzd : w6.heap.size ≤ w9.drew.heap.size := hz9
        have d4' : w9.drew.cell? ⟨wr.heap.size, 4, none⟩ = some (.int .i64 at_) := d4
        have d5' : w9.drew.cell? ⟨wr.heap.size, 5, none⟩ = some (.int .i64 sz) := d5
        have hltr : wr.heap.size < w9.drew.heap.size := World.block_lt_of_cell? _ _ d4'
        generalize w9.drew = wd at hbd hzd d4' d5' hltr ⊢
        have HBD := Lib.hid hbd
        have HD4 := Lib.hid d4'
        have HD5 := Lib.hid d5'
        clear hbd d0 d1 d2 d3 d4 d5 o0 o1 o2 o3 o4 o5 d4' d5'
        go_wp2_with fail
        refine (same_yes _ _ _ _ _ _ _ wd).mono ?_
        rintro e w10 ⟨rfl, hb10⟩
        have e4 : w10.cell? ⟨wr.heap.size, 4, none⟩ = some (.int .i64 at_) := (hb10.cell (p := ⟨wr.heap.size, 4, none⟩) hltr).trans HD4.out
        have e5 : w10.cell? ⟨wr.heap.size, 5, none⟩ = some (.int .i64 sz) := (hb10.cell (p := ⟨wr.heap.size, 5, none⟩) hltr).trans HD5.out
        have HB10 := Lib.hid (HBD.out.trans (hb10.mono hzd))
        clear hb10
        go_wp2_with fail
        go_roundw
        case rel => exact ⟨k + 1, at_ + sz, by go_num, hlt, by go_num, by omega, HK5.out, HB10.out⟩
        case measure => simp [intOf]; omega
      · obtain rfl : k = M := by omega
        have hc' := hc.out
        rw [HM.out] at hc'
        obtain ⟨e1, e2⟩ := chain_end hc'
        have hTr := HT.out.below HBWR.out (Nat.le_refl _)
        obtain ⟨a3, hsl3, hT3⟩ := slice_mid F n hTr e1 (by omega)
        have hg3 := gap_any a3 (n - F) (cap - F) ((l.drop F).take (n - F)) true wr hT3 (by omega)
        rw [e2] at hg3
        have HG3 := Lib.hid hg3
        clear hc' e2 hTr hT3 hg3
        go_wp2_with fail
        refine HG3.out.mono ?_
        rintro e w7 ⟨rfl, rfl⟩
        go_wp2_with fail
        go_ret
        exact ⟨rfl, HBWR.out⟩
  · have hbw6 : Below w.heap.size w w6 := HBW5.out.trans (hb6.mono HBW5.out.size)
    have HBW6 := Lib.hid hbw6
    rcases parts_bad l p r x h1 h2 h3 with ⟨hlong, hx3, hat0⟩ | ⟨hs, hx3, hat, hcut, hch⟩
    · have z1 : ((x.1.at_ : Nat) : Int) = 0 := by rw [hat0]; rfl
      have z2 : ((x.2 : Nat) : Int) = 3 := by rw [hx3]; rfl
      have hn : 32768 < n := by rw [← HL.out]; exact hlong
      have hdn : decide ((32768 : Int) < (n : Int)) = true := by simp; omega
      rw [z1, z2]
      clear hbw6 hb6 h1 h2 h3 hlong hx3 hat0 z1 z2
      go_wp2_with fail
      go_ret
      exact ⟨rfl, HBW6.out⟩
    · obtain ⟨A, hA⟩ : ∃ A, A = x.1.at_ := ⟨_, rfl⟩
      obtain ⟨er0, her⟩ : ∃ er0, er0 = x.2 := ⟨_, rfl⟩
      rw [← hA] at hat hcut hch ⊢
      rw [← her] at h3 hx3 ⊢
      have q1 : ((er0 : Int) == 3) = false := by rw [beq_eq_false_iff_ne]; omega
      have q2 : ((er0 : Int) != 0) = true := by rw [bne_iff_ne]; omega
      have q3 : ((er0 : Int) == 0) = false := by rw [beq_eq_false_iff_ne]; omega
      have q4 : (er0 == 3) = false := by rw [beq_eq_false_iff_ne]; exact hx3
      have q5 : (er0 != 0) = true := by rw [bne_iff_ne]; exact h3
      have q6 : (er0 == 0) = false := by rw [beq_eq_false_iff_ne]; exact h3
      have hs' : n ≤ 32768 := by rw [← HL.out]; exact hs
      have hAn : A < n := by rw [← HL.out]; exact hat
      have hz := h2
      obtain ⟨hslA, hTA⟩ := slice_head A (HT.out.below HBW6.out (Nat.le_refl _)) (Nat.le_of_lt hAn)
      have HTA := Lib.hid hTA
      have hzc : ∀ y ∈ allF (l.take A), y.2 = 0 := by rw [hcut]; exact hz
      have HX : Hid (∀ y ∈ p, y ∈ allF l ∧ y.2 = 0) := by
        have : ∀ y ∈ p, y ∈ allF l ∧ y.2 = 0 := by intro y hy; rw [h1]; exact ⟨List.mem_append_left _ hy, hz y hy⟩
        exact this
      have HZC := Lib.hid hzc
      have HCUT := Lib.hid hcut
      have HCH := Lib.hid hch
      clear hbw6 hb6 h1 h2 h3 hs hx3 hat hcut hch hA her hz hTA hzc
      go_wp2_with fail
      refine (lent_any a A cap (l.take A) w6 HTA.out (by omega)).mono ?_
      rintro e w7 ⟨g7, c7, rfl, hc7, hg7, hown7, hb7⟩
      have hcm7 : c7 ≤ maxLen := by
        rcases hown7.2 with ⟨h, _⟩ | ⟨_, _, _, he, _, _, _, h, _⟩
        · cases h
        · cases he; exact h
      have hT7 : Txt w7 (some ⟨g7, 0, none⟩) A c7 (l.take A) := ⟨HTA.out.1, by omega, hcm7, .inr ⟨_, rfl, (At.owned hown7).left⟩⟩
      have hb07 : Below w.heap.size w w7 := HBW6.out.trans (hb7.mono HBW6.out.size)
      have hs7 := Scan_ok _ _ _ _ w7 hT7 (HG.out.below hb07 (Nat.le_refl _)) HZC.out
      rw [HCUT.out] at hs7
      have HS7 := Lib.hid hs7
      have HB07 := Lib.hid hb07
      clear hown7 hT7 hs7 hb7 hb07
      go_wp2_with fail
      refine HS7.out.mono ?_
      rintro e wB ⟨v, rfl, hr8, hb8⟩
      obtain ⟨va, vc2, rfl⟩ := form6 hr8
      obtain ⟨xs, hxs⟩ : ∃ xs, xs = p := ⟨_, rfl⟩
      obtain ⟨M, hM⟩ : ∃ M, M = xs.length := ⟨_, rfl⟩
      have hMl : M ≤ 32769 := by rw [hM, hxs, ← HCUT.out]; exact allF_len _
      rw [← hxs] at hr8 HX HCH ⊢
      rw [← hM] at hr8 ⊢
      have hEn : A ≤ n := Nat.le_of_lt hAn
      have HR := Lib.hid hr8
      have HBW := Lib.hid (HB07.out.trans (hb8.mono HB07.out.size))
      have HM := Lib.hid hM
      clear hr8 hM hxs hb8
      go_wp2_with fail
      go_loopw [10, 11] (fun f i wr => ∃ k F : Nat, i = .int .i64 k ∧ k ≤ M ∧ f = .int .i64 F ∧ F ≤ A ∧ Hid (Chain l F (xs.drop k) A false) ∧ Below wB.heap.size wB wr) (fun _ i _ => M - (intOf i).toNat)
      case atStart => exact ⟨0, 0, rfl, Nat.zero_le _, rfl, Nat.zero_le _, HCH.out, Below.refl _ _⟩
      case round =>
        obtain ⟨k, F, rfl, hk, rfl, hF, hc, hbr⟩ := hrel
        have HBR := Lib.hid hbr
        have hsz := hbr.size
        have HBWR := Lib.hid (HBW.out.trans (hbr.mono HBW.out.size))
        rcases Nat.lt_or_ge k M with hlt | hge
        · have hlt' : k < xs.length := by rw [← HM.out]; exact hlt
          obtain ⟨x, hx⟩ : ∃ x, xs[k]? = some x := ⟨_, List.getElem?_eq_getElem hlt'⟩
          obtain ⟨hm1, hm2⟩ := HX.out x (List.mem_of_getElem? hx)
          have hal := scan_alone l (by rw [HL.out]; exact hs') x hm1 hm2
          obtain ⟨k1, k2, k3, k4, k5⟩ := chain_cons hc.out hx
          obtain ⟨gv, rfl⟩ : ∃ gv, va = some ⟨gv, 0, none⟩ := by
            rcases HR.out.2 with ⟨h, h0⟩ | ⟨g, cap, cur, h, _⟩
            · omega
            · cases h; exact ⟨_, rfl⟩
          have hgv := (HR.out.lt gv rfl).2
          have cx : ∀ j u, j < 6 → (tokCells x.1)[j]? = some u → wr.cell? ⟨gv, k * 6 + j, none⟩ = some u := fun j u hj hu => by
            rw [hbr.cell (p := ⟨gv, k * 6 + j, none⟩) hgv, HR.out.cellAt _ (by omega), flatT_at _ k j x hx hj]
            exact hu
          obtain ⟨⟨kd, tx, iv, rl, at_, sz⟩, er⟩ := x
          simp only at k1 k2 k3 k4 k5 hal
          have herr : er = 0 := hm2
          have x0 : wr.cell? ⟨gv, k * 6, none⟩ = some (.int .i64 kd) := cx 0 _ (by decide) rfl
          have x1 := cx 1 _ (by decide) rfl
          have x2 := cx 2 _ (by decide) rfl
          have x3 := cx 3 _ (by decide) rfl
          have x4 := cx 4 _ (by decide) rfl
          have x5 := cx 5 _ (by decide) rfl
          have sf : ∀ (p : Addr) (b : Nat) (mo : Mode) (w' : World), (store p (.float .f64 b) mo).run Tryd.prog w' = stored Tryd.prog w' p (.float .f64 b) mo := fun p b mo w' => run_store _ w' p _ mo rfl
          have hTr := HT.out.below HBWR.out (Nat.le_refl _)
          obtain ⟨a3, hsl3, hT3⟩ := slice_mid F at_ hTr k1 (by omega)
          obtain ⟨a4, hsl4, hT4⟩ := slice_mid at_ (at_ + sz) hTr (Nat.le_add_right _ _) (by omega)
          rw [Nat.add_sub_cancel_left] at hsl4 hT4
          have hpe : (l.drop at_).take sz = pieceOf l at_ (at_ + sz) := by unfold pieceOf; rw [Nat.add_sub_cancel_left]
          rw [hpe] at hT4
          have hsl4' : ∀ w', (Instr.slice 22 (.slice a n cap) (some (.int .i64 (at_ : Int))) (some (.int .i64 ((at_ : Int) + (sz : Int)))) none).run Tryd.prog w' = .ok (.slice a4 sz (cap - at_)) w' := hsl4
          have hg3 : ∀ W, Txt W a3 (at_ - F) (cap - F) ((l.drop F).take (at_ - F)) → Calls Tryd.prog 19 #[.slice a3 (at_ - F) (cap - F), .bool false] W fun e w' => e = .returned (.bool true) ∧ W = w' := fun W h => by
            have := gap_any a3 (at_ - F) (cap - F) ((l.drop F).take (at_ - F)) false W h (by omega)
            rw [k4] at this
            exact this
          have HG3 := Lib.hid hg3
          have HT3 := Lib.hid hT3
          have HT4 := Lib.hid hT4
          have HAL := Lib.hid hal
          have HK5 := Lib.hid k5
          have hd1 : decide ((sz : Int) < 1) = false := by simp; omega
          have hd2 : decide ((at_ : Int) < (F : Int)) = false := by simp; omega
          have hd3 : decide ((A : Int) < (at_ : Int) + (sz : Int)) = false := by simp; omega
          obtain ⟨w7, hw7⟩ : ∃ w7, w7 = wr.alloc (.cells #[.int .i64 kd, .string ⟨tx.toArray⟩, .int .i64 iv, .float .f64 rl, .int .i64 at_, .int .i64 sz] 40) := ⟨_, rfl⟩
          have hb7 : Below wr.heap.size wr w7 := by rw [hw7]; exact (Below.refl _ wr).alloc (Nat.le_refl _) _
          have hz7 : w7.heap.size = wr.heap.size + 1 := by rw [hw7]; simp
          have h7 : w7.heap[wr.heap.size]? = some (.cells #[.int .i64 kd, .string ⟨tx.toArray⟩, .int .i64 iv, .float .f64 rl, .int .i64 at_, .int .i64 sz] 40 (0, 0)) := by rw [hw7]; exact heap_alloc_new wr _
          have HW7 := Lib.hid hw7
          have HB7 := Lib.hid hb7
          have HZ7 := Lib.hid hz7
          have HH7 := Lib.hid h7
          clear hsl4 hbr hc hx hm1 hm2 hal k4 k5 cx hgv hTr hT3 hT4 hpe hg3 hlt' hw7 hb7 hz7 h7
          go_wp2_with fail
          rw [← HW7.out]
          refine (HG3.out w7 (HT3.out.below HB7.out (Nat.le_refl _))).mono ?_
          rintro e w7' ⟨rfl, rfl⟩
          clear x0 x1 x2 x3 x4 x5
          have d0 : w7.cell? ⟨wr.heap.size, 0, none⟩ = some (.int .i64 kd) := by simp [World.cell?, HH7.out]
          have d1 : w7.cell? ⟨wr.heap.size, 1, none⟩ = some (.string ⟨tx.toArray⟩) := by simp [World.cell?, HH7.out]
          have d2 : w7.cell? ⟨wr.heap.size, 2, none⟩ = some (.int .i64 iv) := by simp [World.cell?, HH7.out]
          have d3 : w7.cell? ⟨wr.heap.size, 3, none⟩ = some (.float .f64 rl) := by simp [World.cell?, HH7.out]
          have d4 : w7.cell? ⟨wr.heap.size, 4, none⟩ = some (.int .i64 at_) := by simp [World.cell?, HH7.out]
          have d5 : w7.cell? ⟨wr.heap.size, 5, none⟩ = some (.int .i64 sz) := by simp [World.cell?, HH7.out]
          go_wp2_with fail
          have HB07 := Lib.hid (HBWR.out.trans (HB7.out.mono HBWR.out.size))
          refine (lent_any a4 sz (cap - at_) _ w7 (HT4.out.below HB7.out (Nat.le_refl _)) (by omega)).mono ?_
          rintro e w8 ⟨g8, c8, rfl, hc8, hg8, hown8, hb8⟩
          have hcm8 : c8 ≤ maxLen := by
            rcases hown8.2 with ⟨h, _⟩ | ⟨_, _, _, he, _, _, _, h, _⟩
            · cases h
            · cases he; exact h
          have hT8 : Txt w8 (some ⟨g8, 0, none⟩) sz c8 (pieceOf l at_ (at_ + sz)) := ⟨HT4.out.1, by omega, hcm8, .inr ⟨_, rfl, (At.owned hown8).left⟩⟩
          have hb08 : Below w.heap.size w w8 := HB07.out.trans (hb8.mono HB07.out.size)
          have hs8 := Scan_ok _ _ _ _ w8 hT8 (HG.out.below hb08 (Nat.le_refl _)) (by rw [HAL.out]; simp [zT, herr])
          rw [HAL.out] at hs8
          have HS8 := Lib.hid hs8
          have HB8 := Lib.hid hb8
          have HB08 := Lib.hid hb08
          clear hown8 hT8 hs8 hb8 hb08 d0 d1 d2 d3 d4 d5
          go_wp2_with fail
          refine HS8.out.mono ?_
          rintro e w9 ⟨v9, rfl, hr9, hb9⟩
          obtain ⟨g9, c9, rfl⟩ := ownsRow_succ (k := 0) hr9
          have cz : ∀ j u, (flatT [zT ((⟨kd, tx, iv, rl, at_, sz⟩ : Tok), er)])[j]? = some u → w9.cell? ⟨g9, j, none⟩ = some u := fun j u hj => by
            have hlt : j < (flatT [zT ((⟨kd, tx, iv, rl, at_, sz⟩ : Tok), er)]).length := (List.getElem?_eq_some_iff.1 hj).1
            rw [hr9.cellAt j (by rw [hr9.1] at hlt; exact hlt)]; exact hj
          have o0 := cz 0 _ rfl
          have o1 := cz 1 _ rfl
          have o2 := cz 2 _ rfl
          have o3 := cz 3 _ rfl
          have o4 : w9.cell? ⟨g9, 4, none⟩ = some (.int .i64 0) := cz 4 _ rfl
          have o5 := cz 5 _ rfl
          simp only [zT] at o0 o1 o2 o3 o5
          have hb79 : Below w7.heap.size w7 w9 := HB8.out.trans (hb9.mono HB8.out.size)
          have hlt7 : wr.heap.size < w7.heap.size := by rw [HZ7.out]; omega
          have cq : ∀ j, w9.cell? ⟨wr.heap.size, j, none⟩ = w7.cell? ⟨wr.heap.size, j, none⟩ := fun j => hb79.cell (p := ⟨wr.heap.size, j, none⟩) hlt7
          have d0 : w9.cell? ⟨wr.heap.size, 0, none⟩ = some (.int .i64 kd) := by rw [cq]; simp [World.cell?, HH7.out]
          have d1 : w9.cell? ⟨wr.heap.size, 1, none⟩ = some (.string ⟨tx.toArray⟩) := by rw [cq]; simp [World.cell?, HH7.out]
          have d2 : w9.cell? ⟨wr.heap.size, 2, none⟩ = some (.int .i64 iv) := by rw [cq]; simp [World.cell?, HH7.out]
          have d3 : w9.cell? ⟨wr.heap.size, 3, none⟩ = some (.float .f64 rl) := by rw [cq]; simp [World.cell?, HH7.out]
          have d4 : w9.cell? ⟨wr.heap.size, 4, none⟩ = some (.int .i64 at_) := by rw [cq]; simp [World.cell?, HH7.out]
          have d5 : w9.cell? ⟨wr.heap.size, 5, none⟩ = some (.int .i64 sz) := by rw [cq]; simp [World.cell?, HH7.out]
          have hb9r : Below wB.heap.size wB w9 := HBR.out.trans ((HB7.out.trans (hb79.mono HB7.out.size)).mono hsz)
          have HB9 := Lib.hid hb9r
          have hz9 := hb9r.size
          clear cz hr9 hb9 hb79 cq hb9r hlt7
          go_wp2_with fail
          go_still_tail 19, (by kernel_rfl)
          change wpList _ _ _ _ _ w9.drew
          have hbd : Below wB.heap.size wB w9.drew := HB9.out.drew
          have hzd : wB.heap.size ≤ w9.drew.heap.size := hz9
          have d4' : w9.drew.cell? ⟨wr.heap.size, 4, none⟩ = some (.int .i64 at_) := d4
          have d5' : w9.drew.cell? ⟨wr.heap.size, 5, none⟩ = some (.int .i64 sz) := d5
          have hltr : wr.heap.size < w9.drew.heap.size := World.block_lt_of_cell? _ _ d4'
          generalize w9.drew = wd at hbd hzd d4' d5' hltr ⊢
          have HBD := Lib.hid hbd
          have HD4 := Lib.hid d4'
          have HD5 := Lib.hid d5'
          clear hbd d0 d1 d2 d3 d4 d5 o0 o1 o2 o3 o4 o5 d4' d5'
          go_wp2_with fail
          refine (same_yes _ _ _ _ _ _ _ wd).mono ?_
          rintro e w10 ⟨rfl, hb10⟩
          have e4 : w10.cell? ⟨wr.heap.size, 4, none⟩ = some (.int .i64 at_) := (hb10.cell (p := ⟨wr.heap.size, 4, none⟩) hltr).trans HD4.out
          have e5 : w10.cell? ⟨wr.heap.size, 5, none⟩ = some (.int .i64 sz) := (hb10.cell (p := ⟨wr.heap.size, 5, none⟩) hltr).trans HD5.out
          have HB10 := Lib.hid (HBD.out.trans (hb10.mono hzd))
          clear hb10
          go_wp2_with fail
          go_roundw
          case rel => exact ⟨k + 1, at_ + sz, by go_num, hlt, by go_num, by omega, HK5.out, HB10.out⟩
          case measure => simp [intOf]; omega
        · obtain rfl : k = M := by omega
          have hc' := hc.out
          rw [HM.out] at hc'
          obtain ⟨e1, e2⟩ := chain_end hc'
          have hTr := HT.out.below HBWR.out (Nat.le_refl _)
          obtain ⟨a3, hsl3, hT3⟩ := slice_mid F A hTr e1 (by omega)
          have hg3 := gap_any a3 (A - F) (cap - F) ((l.drop F).take (A - F)) false wr hT3 (by omega)
          rw [e2] at hg3
          have HG3 := Lib.hid hg3
          clear hc' e2 hTr hT3 hg3
          go_wp2_with fail
          refine HG3.out.mono ?_
          rintro e w7 ⟨rfl, rfl⟩
          go_wp2_with fail
          go_ret
          exact ⟨rfl, HBWR.out⟩
end Go.Proofs.YtiemifaiamcklaaDoor
