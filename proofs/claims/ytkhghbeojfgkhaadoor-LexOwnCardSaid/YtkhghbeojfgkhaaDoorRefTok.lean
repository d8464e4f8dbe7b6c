/- The reference's token: a number, a text, a mark. -/
import Derived.Test.YtkhghbeojfgkhaaDoorRefTokName
import Derived.Deep.Cut
namespace Go.Proofs.YtkhghbeojfgkhaaDoor
open Go.RowKit
set_option maxRecDepth 100000

set_option maxHeartbeats 4000000 in
theorem refTok_num (a : Option Addr) (n cap A : Nat) (l : List UInt8) (w : World) (hT : Txt w a n cap l) (hr : n ≤ 140737488351232) (hA : A < n) (hc : letterB (bAt l A) = false) (hd : digitB (bAt l A) = true) :
    Calls Tryd.prog 22 #[.slice a n cap, .int .i64 A] w fun e w' => RTok (refNum l A) w e w' := by
  have sf : ∀ (p : Addr) (b : Nat) (m : Mode) (w' : World), (store p (.float .f64 b) m).run Tryd.prog w' = stored Tryd.prog w' p (.float .f64 b) m := fun p b m w' => run_store _ w' p _ m rfl
  have hl := hT.1
  obtain ⟨b, o, rfl, hc0⟩ := hT.cellAt hA
  have hb : b < w.heap.size := World.block_lt_of_cell? w _ hc0
  have hL0 := fun W => refLetter_any (bAt l A) W
  have hD0 := fun W => refDigit_any (bAt l A) W
  rw [hc] at hL0
  have hdk := hd
  rw [hd] at hD0
  have HL0 := Lib.hid hL0
  have HD0 := Lib.hid hD0
  obtain ⟨t, ht⟩ : ∃ t, t = refNum l A := ⟨_, rfl⟩
  have HRL : Hid (∀ W, Below w.heap.size w W → Calls Tryd.prog 35 #[.slice (some ⟨b, o, none⟩) n cap, .int .i64 A] W fun e w' => RTok t W e w') := by
    have : ∀ W, Below w.heap.size w W → Calls Tryd.prog 35 #[.slice (some ⟨b, o, none⟩) n cap, .int .i64 A] W fun e w' => RTok t W e w' := by
      intro W hW
      rw [ht]
      exact refNumber_any _ n cap A l W (hT.below hW (Nat.le_refl _)) hr hA hdk
    exact this
  rw [← ht]
  have hB0 : Below w.heap.size w (w.alloc (.cells #[.int .i64 0, .string ⟨#[]⟩, .int .i64 0, .float .f64 0, .int .i64 0, .int .i64 0] 54)) := (Below.refl w.heap.size w).alloc (Nat.le_refl _) _
  have HB0 := Lib.hid hB0
  clear hL0 hD0 hT hl hc ht hB0 hd hdk
  go_enter Tryd.func22, Tryd.ntmps22
  go_wp2_with (first | ((go_at_call 33; with_reducible refine (HL0.out _).mono ?_); rintro e w' ⟨rfl, rfl⟩) | ((go_at_call 34; with_reducible refine (HD0.out _).mono ?_); rintro e w' ⟨rfl, rfl⟩))
  refine (HRL.out _ HB0.out).mono ?_
  rintro e w5 hrt
  obtain ⟨⟨k0, t0, i0, r0, a0, s0⟩, er⟩ := t
  obtain ⟨rfl, hb5⟩ := hrt
  unfold tokVal
  have hz5 : w.heap.size + 1 ≤ w5.heap.size := by have := hb5.size; simpa using this
  have cq : ∀ j, w5.cell? ⟨w.heap.size, j, none⟩ = _ := fun j => hb5.cell (p := ⟨w.heap.size, j, none⟩) (by simp)
  have fq : ∀ j, w5.frozen? ⟨w.heap.size, j, none⟩ = _ := fun j => hb5.frozen (p := ⟨w.heap.size, j, none⟩) (by simp)
  have z0 : w5.cell? ⟨w.heap.size, 0, none⟩ = some (.int .i64 0) := by rw [cq]; simp
  have z1 : w5.cell? ⟨w.heap.size, 1, none⟩ = some (.string ⟨#[]⟩) := by rw [cq]; simp
  have z2 : w5.cell? ⟨w.heap.size, 2, none⟩ = some (.int .i64 0) := by rw [cq]; simp
  have z3 : w5.cell? ⟨w.heap.size, 3, none⟩ = some (.float .f64 0) := by rw [cq]; simp
  have z4 : w5.cell? ⟨w.heap.size, 4, none⟩ = some (.int .i64 0) := by rw [cq]; simp
  have z5 : w5.cell? ⟨w.heap.size, 5, none⟩ = some (.int .i64 0) := by rw [cq]; simp
  have fz : ∀ j, w5.frozen? ⟨w.heap.size, j, none⟩ = false := fun j => by rw [fq]; simp
  have HB5 := Lib.hid (HB0.out.trans (hb5.mono (by simp)))
  have hlt5 : w.heap.size < w5.heap.size := by omega
  obtain ⟨wx, hwx⟩ : ∃ wx, wx = w5.alloc (.cells #[.int .i64 k0, .string ⟨t0.toArray⟩, .int .i64 i0, .float .f64 r0, .int .i64 a0, .int .i64 s0] 54) := ⟨_, rfl⟩
  have y0 : wx.cell? ⟨w.heap.size, 0, none⟩ = some (.int .i64 0) := by rw [hwx]; exact cell_keep _ z0
  have y1 : wx.cell? ⟨w.heap.size, 1, none⟩ = some (.string ⟨#[]⟩) := by rw [hwx]; exact cell_keep _ z1
  have y2 : wx.cell? ⟨w.heap.size, 2, none⟩ = some (.int .i64 0) := by rw [hwx]; exact cell_keep _ z2
  have y3 : wx.cell? ⟨w.heap.size, 3, none⟩ = some (.float .f64 0) := by rw [hwx]; exact cell_keep _ z3
  have y4 : wx.cell? ⟨w.heap.size, 4, none⟩ = some (.int .i64 0) := by rw [hwx]; exact cell_keep _ z4
  have y5 : wx.cell? ⟨w.heap.size, 5, none⟩ = some (.int .i64 0) := by rw [hwx]; exact cell_keep _ z5
  have x0 : wx.cell? ⟨w5.heap.size, 0, none⟩ = some (.int .i64 k0) := by rw [hwx]; simp
  have x1 : wx.cell? ⟨w5.heap.size, 1, none⟩ = some (.string ⟨t0.toArray⟩) := by rw [hwx]; simp
  have x2 : wx.cell? ⟨w5.heap.size, 2, none⟩ = some (.int .i64 i0) := by rw [hwx]; simp
  have x3 : wx.cell? ⟨w5.heap.size, 3, none⟩ = some (.float .f64 r0) := by rw [hwx]; simp
  have x4 : wx.cell? ⟨w5.heap.size, 4, none⟩ = some (.int .i64 a0) := by rw [hwx]; simp
  have x5 : wx.cell? ⟨w5.heap.size, 5, none⟩ = some (.int .i64 s0) := by rw [hwx]; simp
  have fy : ∀ j, wx.frozen? ⟨w.heap.size, j, none⟩ = false := fun j => by rw [hwx]; exact (((Below.refl w5.heap.size w5).alloc (Nat.le_refl _) _).frozen (p := ⟨w.heap.size, j, none⟩) hlt5).trans (fz j)
  have f0 := fy 0
  have f1 := fy 1
  have f2 := fy 2
  have f3 := fy 3
  have f4 := fy 4
  have f5 := fy 5
  have HBX := Lib.hid (show Below w.heap.size w wx from by rw [hwx]; exact HB5.out.alloc (by omega) _)
  have HWX := Lib.hid hwx
  clear cq fq hb5 z0 z1 z2 z3 z4 z5 fz fy hwx
  go_upto_region 10 with (fail)
  rw [← HWX.out]
  go_wp2_with fail
  refine bodyPost_ret (v := .tuple #[.agg #[.int .i64 k0, .string ⟨t0.toArray⟩, .int .i64 i0, .float .f64 r0, .int .i64 a0, .int .i64 s0], .int .i64 er]) (by simp [results, Tryd.results22, go_sem, y0, y1, y2, y3, y4, y5]) rfl ?_
  exact ⟨rfl, below_six HBX.out _ _ _ _ _ _ (by simp) (by simp) (by simp) (by simp) (by simp) (by simp)⟩

set_option maxHeartbeats 4000000 in
theorem refTok_text (a : Option Addr) (n cap A : Nat) (l : List UInt8) (w : World) (hT : Txt w a n cap l) (hr : n ≤ 140737488351232) (hA : A < n) (hc : letterB (bAt l A) = false) (hq : bAt l A = 34) :
    Calls Tryd.prog 22 #[.slice a n cap, .int .i64 A] w fun e w' => RTok (refText l A) w e w' := by
  have sf : ∀ (p : Addr) (b : Nat) (m : Mode) (w' : World), (store p (.float .f64 b) m).run Tryd.prog w' = stored Tryd.prog w' p (.float .f64 b) m := fun p b m w' => run_store _ w' p _ m rfl
  have hl := hT.1
  obtain ⟨b, o, rfl, hc0⟩ := hT.cellAt hA
  have hb : b < w.heap.size := World.block_lt_of_cell? w _ hc0
  have hL0 := fun W => refLetter_any (bAt l A) W
  have hD0 := fun W => refDigit_any (bAt l A) W
  rw [hc] at hL0
  have hd : digitB (bAt l A) = false := by rw [hq]; decide
  rw [hd] at hD0
  have e34 : (((bAt l A).toNat : Int) == 34) = true := by rw [hq]; rfl
  have HL0 := Lib.hid hL0
  have HD0 := Lib.hid hD0
  obtain ⟨t, ht⟩ : ∃ t, t = refText l A := ⟨_, rfl⟩
  have HRL : Hid (∀ W, Below w.heap.size w W → Calls Tryd.prog 36 #[.slice (some ⟨b, o, none⟩) n cap, .int .i64 A] W fun e w' => RTok t W e w') := by
    have : ∀ W, Below w.heap.size w W → Calls Tryd.prog 36 #[.slice (some ⟨b, o, none⟩) n cap, .int .i64 A] W fun e w' => RTok t W e w' := by
      intro W hW
      rw [ht]
      exact refText_any _ n cap A l W (hT.below hW (Nat.le_refl _)) hr hA
    exact this
  rw [← ht]
  have hB0 : Below w.heap.size w (w.alloc (.cells #[.int .i64 0, .string ⟨#[]⟩, .int .i64 0, .float .f64 0, .int .i64 0, .int .i64 0] 54)) := (Below.refl w.heap.size w).alloc (Nat.le_refl _) _
  have HB0 := Lib.hid hB0
  clear hL0 hD0 hT hl hc ht hB0 hq hd
  go_enter Tryd.func22, Tryd.ntmps22
  go_wp2_with (first | ((go_at_call 33; with_reducible refine (HL0.out _).mono ?_); rintro e w' ⟨rfl, rfl⟩) | ((go_at_call 34; with_reducible refine (HD0.out _).mono ?_); rintro e w' ⟨rfl, rfl⟩))
  refine (HRL.out _ HB0.out).mono ?_
  rintro e w5 hrt
  obtain ⟨⟨k0, t0, i0, r0, a0, s0⟩, er⟩ := t
  obtain ⟨rfl, hb5⟩ := hrt
  unfold tokVal
  have hz5 : w.heap.size + 1 ≤ w5.heap.size := by have := hb5.size; simpa using this
  have cq : ∀ j, w5.cell? ⟨w.heap.size, j, none⟩ = _ := fun j => hb5.cell (p := ⟨w.heap.size, j, none⟩) (by simp)
  have fq : ∀ j, w5.frozen? ⟨w.heap.size, j, none⟩ = _ := fun j => hb5.frozen (p := ⟨w.heap.size, j, none⟩) (by simp)
  have z0 : w5.cell? ⟨w.heap.size, 0, none⟩ = some (.int .i64 0) := by rw [cq]; simp
  have z1 : w5.cell? ⟨w.heap.size, 1, none⟩ = some (.string ⟨#[]⟩) := by rw [cq]; simp
  have z2 : w5.cell? ⟨w.heap.size, 2, none⟩ = some (.int .i64 0) := by rw [cq]; simp
  have z3 : w5.cell? ⟨w.heap.size, 3, none⟩ = some (.float .f64 0) := by rw [cq]; simp
  have z4 : w5.cell? ⟨w.heap.size, 4, none⟩ = some (.int .i64 0) := by rw [cq]; simp
  have z5 : w5.cell? ⟨w.heap.size, 5, none⟩ = some (.int .i64 0) := by rw [cq]; simp
  have fz : ∀ j, w5.frozen? ⟨w.heap.size, j, none⟩ = false := fun j => by rw [fq]; simp
  have HB5 := Lib.hid (HB0.out.trans (hb5.mono (by simp)))
  have hlt5 : w.heap.size < w5.heap.size := by omega
  obtain ⟨wx, hwx⟩ : ∃ wx, wx = w5.alloc (.cells #[.int .i64 k0, .string ⟨t0.toArray⟩, .int .i64 i0, .float .f64 r0, .int .i64 a0, .int .i64 s0] 54) := ⟨_, rfl⟩
  have y0 : wx.cell? ⟨w.heap.size, 0, none⟩ = some (.int .i64 0) := by rw [hwx]; exact cell_keep _ z0
  have y1 : wx.cell? ⟨w.heap.size, 1, none⟩ = some (.string ⟨#[]⟩) := by rw [hwx]; exact cell_keep _ z1
  have y2 : wx.cell? ⟨w.heap.size, 2, none⟩ = some (.int .i64 0) := by rw [hwx]; exact cell_keep _ z2
  have y3 : wx.cell? ⟨w.heap.size, 3, none⟩ = some (.float .f64 0) := by rw [hwx]; exact cell_keep _ z3
  have y4 : wx.cell? ⟨w.heap.size, 4, none⟩ = some (.int .i64 0) := by rw [hwx]; exact cell_keep _ z4
  have y5 : wx.cell? ⟨w.heap.size, 5, none⟩ = some (.int .i64 0) := by rw [hwx]; exact cell_keep _ z5
  have x0 : wx.cell? ⟨w5.heap.size, 0, none⟩ = some (.int .i64 k0) := by rw [hwx]; simp
  have x1 : wx.cell? ⟨w5.heap.size, 1, none⟩ = some (.string ⟨t0.toArray⟩) := by rw [hwx]; simp
  have x2 : wx.cell? ⟨w5.heap.size, 2, none⟩ = some (.int .i64 i0) := by rw [hwx]; simp
  have x3 : wx.cell? ⟨w5.heap.size, 3, none⟩ = some (.float .f64 r0) := by rw [hwx]; simp
  have x4 : wx.cell? ⟨w5.heap.size, 4, none⟩ = some (.int .i64 a0) := by rw [hwx]; simp
  have x5 : wx.cell? ⟨w5.heap.size, 5, none⟩ = some (.int .i64 s0) := by rw [hwx]; simp
  have fy : ∀ j, wx.frozen? ⟨w.heap.size, j, none⟩ = false := fun j => by rw [hwx]; exact (((Below.refl w5.heap.size w5).alloc (Nat.le_refl _) _).frozen (p := ⟨w.heap.size, j, none⟩) hlt5).trans (fz j)
  have f0 := fy 0
  have f1 := fy 1
  have f2 := fy 2
  have f3 := fy 3
  have f4 := fy 4
  have f5 := fy 5
  have HBX := Lib.hid (show Below w.heap.size w wx from by rw [hwx]; exact HB5.out.alloc (by omega) _)
  have HWX := Lib.hid hwx
  clear cq fq hb5 z0 z1 z2 z3 z4 z5 fz fy hwx
  go_upto_region 13 with (fail)
  rw [← HWX.out]
  go_wp2_with fail
  refine bodyPost_ret (v := .tuple #[.agg #[.int .i64 k0, .string ⟨t0.toArray⟩, .int .i64 i0, .float .f64 r0, .int .i64 a0, .int .i64 s0], .int .i64 er]) (by simp [results, Tryd.results22, go_sem, y0, y1, y2, y3, y4, y5]) rfl ?_
  exact ⟨rfl, below_six HBX.out _ _ _ _ _ _ (by simp) (by simp) (by simp) (by simp) (by simp) (by simp)⟩

theorem bytes_toList (l : List UInt8) : (⟨l.toArray⟩ : ByteArray).toList = l := by rw [ByteArray.toList_eq]
/-- the reference's mark at a place -/
def refMarkT (l : List UInt8) (A : Nat) : Tok × Nat :=
  if A + 2 ≤ l.length ∧ isMarkB ((l.drop A).take 2) = true then (⟨5, (l.drop A).take 2, 0, 0, A, 2⟩, 0)
  else if isMarkB ((l.drop A).take 1) = true then (⟨5, (l.drop A).take 1, 0, 0, A, 1⟩, 0) else (zeroTok, 10)
set_option maxHeartbeats 4000000 in
theorem refTok_mark (a : Option Addr) (n cap A : Nat) (l : List UInt8) (w : World) (hT : Txt w a n cap l) (hr : n ≤ 140737488351232) (hA : A < n) (hc : letterB (bAt l A) = false) (hd : digitB (bAt l A) = false) (hq : bAt l A ≠ 34) :
    Calls Tryd.prog 22 #[.slice a n cap, .int .i64 A] w fun e w' => RTok (refMarkT l A) w e w' := by
  have sf : ∀ (p : Addr) (b : Nat) (m : Mode) (w' : World), (store p (.float .f64 b) m).run Tryd.prog w' = stored Tryd.prog w' p (.float .f64 b) m := fun p b m w' => run_store _ w' p _ m rfl
  have hl := hT.1
  obtain ⟨b, o, rfl, hc0⟩ := hT.cellAt hA
  have hb : b < w.heap.size := World.block_lt_of_cell? w _ hc0
  have hL0 := fun W => refLetter_any (bAt l A) W
  have hD0 := fun W => refDigit_any (bAt l A) W
  rw [hc] at hL0
  rw [hd] at hD0
  have e34 : (((bAt l A).toNat : Int) == 34) = false := u8_neq (d := 34) hq
  have HL0 := Lib.hid hL0
  have HD0 := Lib.hid hD0
  have HM := Lib.hid (fun (s : ByteArray) (W : World) => refMark_any s W)
  have HT := Lib.hid hT
  have HL := Lib.hid hl
  have hB0 : Below w.heap.size w (w.alloc (.cells #[.int .i64 0, .string ⟨#[]⟩, .int .i64 0, .float .f64 0, .int .i64 0, .int .i64 0] 54)) := (Below.refl w.heap.size w).alloc (Nat.le_refl _) _
  have HB0 := Lib.hid hB0
  clear hL0 hD0 hT hl hc hd hq hB0
  go_enter Tryd.func22, Tryd.ntmps22
  go_wp2_with (first | ((go_at_call 33; with_reducible refine (HL0.out _).mono ?_); rintro e w' ⟨rfl, rfl⟩) | ((go_at_call 34; with_reducible refine (HD0.out _).mono ?_); rintro e w' ⟨rfl, rfl⟩))
  go_loop [11] (fun i => ∃ j : Nat, i = .int .i64 j ∧ (j = 2 ∨ (j = 1 ∧ Hid (¬ (A + 2 ≤ l.length ∧ isMarkB ((l.drop A).take 2) = true))) ∨ (j = 0 ∧ Hid (refMarkT l A = (zeroTok, 10))))) (fun i => (intOf i).toNat)
  case atStart => exact ⟨2, rfl, .inl rfl⟩
  case round =>
    obtain ⟨j, rfl, rfl | ⟨rfl, h2⟩ | ⟨rfl, h0⟩⟩ := hrel
    · rcases Nat.lt_or_ge n (A + 2) with hlt | hge
      · have d1 : decide ((A : Int) + 2 ≤ (n : Int)) = false := by rw [decide_eq_false_iff_not]; omega
        have HN : Hid (¬ (A + 2 ≤ l.length ∧ isMarkB ((l.drop A).take 2) = true)) := by
          have : ¬ (A + 2 ≤ l.length ∧ isMarkB ((l.drop A).take 2) = true) := by rw [HL.out]; omega
          exact this
        go_wp2_with fail
        go_round
        case rel => exact ⟨1, rfl, .inr (.inl ⟨rfl, HN⟩)⟩
        case measure => simp [intOf]
      · have d1 : decide ((A : Int) + 2 ≤ (n : Int)) = true := by rw [decide_eq_true_eq]; omega
        obtain ⟨a1, hs1, hT1⟩ := slice_mid A (A + 2) HT.out (Nat.le_add_right _ _) hge
        rw [Nat.add_sub_cancel_left] at hs1 hT1
        have hs1' : ∀ w', (Instr.slice 22 (.slice (some ⟨b, o, none⟩) n cap) (some (.int .i64 (A : Int))) (some (.int .i64 ((A : Int) + 2))) none).run Tryd.prog w' = .ok (.slice a1 2 (cap - A)) w' := hs1
        have hcv := text_of (hT1.below HB0.out (Nat.le_refl _))
        have hm := HM.out ⟨((l.drop A).take 2).toArray⟩
        rw [bytes_toList] at hm
        rcases Bool.eq_false_or_eq_true (isMarkB ((l.drop A).take 2)) with hv | hv
        rotate_left
        · rw [hv] at hm
          have HM := Lib.hid hm
          have HN : Hid (¬ (A + 2 ≤ l.length ∧ isMarkB ((l.drop A).take 2) = true)) := by
            have : ¬ (A + 2 ≤ l.length ∧ isMarkB ((l.drop A).take 2) = true) := by rw [hv]; simp
            exact this
          clear hm hv hs1 hT1
          go_wp2_with (first | ((go_at_call 33; with_reducible refine (HL0.out _).mono ?_); rintro e w' ⟨rfl, rfl⟩) | ((go_at_call 34; with_reducible refine (HD0.out _).mono ?_); rintro e w' ⟨rfl, rfl⟩) | ((go_at_call 37; refine (HM.out _).mono ?_); rintro e w' ⟨rfl, rfl⟩))
          go_round
          case rel => exact ⟨1, rfl, .inr (.inl ⟨rfl, HN⟩)⟩
          case measure => simp [intOf]
        · rw [hv] at hm
          have HM := Lib.hid hm
          have HF : Hid (refMarkT l A = (⟨5, (l.drop A).take 2, 0, 0, A, 2⟩, 0)) := by
            have : refMarkT l A = (⟨5, (l.drop A).take 2, 0, 0, A, 2⟩, 0) := by unfold refMarkT; rw [if_pos ⟨by rw [HL.out]; exact hge, hv⟩]
            exact this
          clear hm hv hs1 hT1
          go_wp2_with (first | ((go_at_call 33; with_reducible refine (HL0.out _).mono ?_); rintro e w' ⟨rfl, rfl⟩) | ((go_at_call 34; with_reducible refine (HD0.out _).mono ?_); rintro e w' ⟨rfl, rfl⟩) | ((go_at_call 37; refine (HM.out _).mono ?_); rintro e w' ⟨rfl, rfl⟩))
          refine bodyPost_ret (v := .tuple #[.agg #[.int .i64 5, .string ⟨((l.drop A).take 2).toArray⟩, .int .i64 0, .float .f64 0, .int .i64 A, .int .i64 2], .int .i64 0]) (by simp [results, Tryd.results22, go_sem]) rfl ?_
          rw [HF.out]
          exact ⟨rfl, (Below.refl _ _).alloc (Nat.le_refl _) _⟩
    · have d1 : decide ((A : Int) + 1 ≤ (n : Int)) = true := by rw [decide_eq_true_eq]; omega
      obtain ⟨a1, hs1, hT1⟩ := slice_mid A (A + 1) HT.out (Nat.le_add_right _ _) hA
      rw [Nat.add_sub_cancel_left] at hs1 hT1
      have hs1' : ∀ w', (Instr.slice 22 (.slice (some ⟨b, o, none⟩) n cap) (some (.int .i64 (A : Int))) (some (.int .i64 ((A : Int) + 1))) none).run Tryd.prog w' = .ok (.slice a1 1 (cap - A)) w' := hs1
      have hcv := text_of (hT1.below HB0.out (Nat.le_refl _))
      have hm := HM.out ⟨((l.drop A).take 1).toArray⟩
      rw [bytes_toList] at hm
      rcases Bool.eq_false_or_eq_true (isMarkB ((l.drop A).take 1)) with hv | hv
      rotate_left
      · rw [hv] at hm
        have HM := Lib.hid hm
        have HN : Hid (refMarkT l A = (zeroTok, 10)) := by
          have : refMarkT l A = (zeroTok, 10) := by unfold refMarkT; rw [if_neg h2.out, hv, if_neg (by simp)]
          exact this
        clear hm hv hs1 hT1
        go_wp2_with (first | ((go_at_call 33; with_reducible refine (HL0.out _).mono ?_); rintro e w' ⟨rfl, rfl⟩) | ((go_at_call 34; with_reducible refine (HD0.out _).mono ?_); rintro e w' ⟨rfl, rfl⟩) | ((go_at_call 37; refine (HM.out _).mono ?_); rintro e w' ⟨rfl, rfl⟩))
        go_round
        case rel => exact ⟨0, rfl, .inr (.inr ⟨rfl, HN⟩)⟩
        case measure => simp [intOf]
      · rw [hv] at hm
        have HM := Lib.hid hm
        have HF : Hid (refMarkT l A = (⟨5, (l.drop A).take 1, 0, 0, A, 1⟩, 0)) := by
          have : refMarkT l A = (⟨5, (l.drop A).take 1, 0, 0, A, 1⟩, 0) := by unfold refMarkT; rw [if_neg h2.out, if_pos hv]
          exact this
        clear hm hv hs1 hT1
        go_wp2_with (first | ((go_at_call 33; with_reducible refine (HL0.out _).mono ?_); rintro e w' ⟨rfl, rfl⟩) | ((go_at_call 34; with_reducible refine (HD0.out _).mono ?_); rintro e w' ⟨rfl, rfl⟩) | ((go_at_call 37; refine (HM.out _).mono ?_); rintro e w' ⟨rfl, rfl⟩))
        refine bodyPost_ret (v := .tuple #[.agg #[.int .i64 5, .string ⟨((l.drop A).take 1).toArray⟩, .int .i64 0, .float .f64 0, .int .i64 A, .int .i64 1], .int .i64 0]) (by simp [results, Tryd.results22, go_sem]) rfl ?_
        rw [HF.out]
        exact ⟨rfl, (Below.refl _ _).alloc (Nat.le_refl _) _⟩
    · go_wp2_with fail
      refine bodyPost_ret (v := .tuple #[.agg #[.int .i64 0, .string ⟨#[]⟩, .int .i64 0, .float .f64 0, .int .i64 0, .int .i64 0], .int .i64 10]) (by simp [results, Tryd.results22, go_sem]) rfl ?_
      rw [h0.out]
      exact ⟨rfl, (Below.refl _ _).alloc (Nat.le_refl _) _⟩
end Go.Proofs.YtkhghbeojfgkhaaDoor
