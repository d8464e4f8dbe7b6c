/- Wire, the law's same, values, message: things and themselves. -/
import Derived.Test.YtloofajopgbfmaaWjSame
import Derived.Test.YtloofajopgbfmaaWjFields
import Derived.Test.YtloofajopgbfmaaWjRef8
namespace Go.Proofs.Ytloofajopgbfmaa
set_option linter.all false
open Go.RowKit
set_option maxRecDepth 100000
set_option maxHeartbeats 4000000 in
theorem lsame_zero (w : World) : Calls Try.prog 14 #[valO zero9, valO zero9] w fun e w' => e = .returned (.bool true) ∧ Below w.heap.size w w' := by
  show Calls Try.prog 14 #[.agg #[.int .i64 0, .int .i64 0, .float .f64 0, .complex .f64 0 0, .string ⟨#[]⟩], .agg #[.int .i64 0, .int .i64 0, .float .f64 0, .complex .f64 0 0, .string ⟨#[]⟩]] w fun e w' => e = .returned (.bool true) ∧ Below w.heap.size w w'
  have hb : Below w.heap.size w ((w.alloc (.cells #[.int .i64 0, .int .i64 0, .float .f64 0, .complex .f64 0 0, .string ⟨#[]⟩] 27)).alloc (.cells #[.int .i64 0, .int .i64 0, .float .f64 0, .complex .f64 0 0, .string ⟨#[]⟩] 27)) := ((Below.refl _ w).alloc (Nat.le_refl _) _).alloc (by simp) _
  have HB := Lib.hid hb
  have q1 : (FloatKind.f64.format.order 0 0 == some Ordering.eq) = true := by decide
  have q2 : (FloatKind.f64.format.order 0 0 != some Ordering.eq) = false := by decide
  clear hb
  go_enter Try.func14, Try.ntmps14
  go_wp2
  go_ret
  exact ⟨rfl, HB.out⟩
set_option maxHeartbeats 4000000 in
theorem lsame_plain (x : V9) (h : Plain9 x) (w : World) : Calls Try.prog 14 #[valO x, valO x] w fun e w' => e = .returned (.bool true) ∧ Below w.heap.size w w' := by
  have hs := fun W => same_self x h W
  have hf := fun W => fields_self x W
  have hk := h.kd
  obtain ⟨kd, iv, rl, re, im, tx⟩ := x
  unfold valO valV at hs hf ⊢
  simp only at hs hf hk ⊢
  generalize (⟨tx.toArray⟩ : ByteArray) = s at *
  obtain ⟨W0, hW0⟩ : ∃ W0, W0 = (w.alloc (.cells #[.int .i64 kd, .int .i64 iv, .float .f64 rl, .complex .f64 re im, .string s] 27)).alloc (.cells #[.int .i64 kd, .int .i64 iv, .float .f64 rl, .complex .f64 re im, .string s] 27) := ⟨_, rfl⟩
  have hb : Below w.heap.size w W0 := by rw [hW0]; exact ((Below.refl _ w).alloc (Nat.le_refl _) _).alloc (by simp) _
  have hx : Bk W0 w.heap.size 27 [.int .i64 kd, .int .i64 iv, .float .f64 rl, .complex .f64 re im, .string s] := by rw [hW0]; exact (Bk.new w _ _).alloc _
  have hy : Bk W0 (w.heap.size + 1) 27 [.int .i64 kd, .int .i64 iv, .float .f64 rl, .complex .f64 re im, .string s] := by rw [hW0]; exact heap_alloc2_new w _ _
  have HW0 := Lib.hid hW0
  have HB := Lib.hid hb
  have HX := Lib.hid hx
  have HY := Lib.hid hy
  have HS := Lib.hid hs
  have HF := Lib.hid hf
  have c0 := hx.c 0 rfl
  have c1 := hx.c 1 rfl
  have c2 := hx.c 2 rfl
  have c3 := hx.c 3 rfl
  have c4 := hx.c 4 rfl
  have e0 := hy.c 0 rfl
  have e1 := hy.c 1 rfl
  have e2 := hy.c 2 rfl
  have e3 := hy.c 3 rfl
  have e4 := hy.c 4 rfl
  have t0 : (kd == 0) = false := by rw [beq_eq_false_iff_ne]; omega
  clear hW0 hb hx hy hs hf h hk
  go_enter Try.func14, Try.ntmps14
  go_upto_region 1 with (fail)
  rw [← HW0.out]
  go_wp2_with fail
  refine (HS.out _).mono ?_
  rintro e w1 ⟨rfl, hb1⟩
  have hx1 := HX.out.keep hb1 HX.out.lt
  have hy1 := HY.out.keep hb1 HY.out.lt
  have HB1 := Lib.hid (HB.out.trans (hb1.mono HB.out.size))
  clear hb1 c0 c1 c2 c3 c4 e0 e1 e2 e3 e4
  have c0 := hx1.c 0 rfl
  have c1 := hx1.c 1 rfl
  have c2 := hx1.c 2 rfl
  have c3 := hx1.c 3 rfl
  have c4 := hx1.c 4 rfl
  have e0 := hy1.c 0 rfl
  have e1 := hy1.c 1 rfl
  have e2 := hy1.c 2 rfl
  have e3 := hy1.c 3 rfl
  have e4 := hy1.c 4 rfl
  clear hx1 hy1
  go_wp2_with fail
  refine (HF.out _).mono ?_
  rintro e w2 ⟨rfl, hb2⟩
  have HB2 := Lib.hid (HB1.out.trans (hb2.mono HB1.out.size))
  clear hb2
  go_wp2_with fail
  go_ret
  exact ⟨rfl, HB2.out⟩
theorem lsame_self (x : V9) (h : OkZ x) (w : World) : Calls Try.prog 14 #[valO x, valO x] w fun e w' => e = .returned (.bool true) ∧ Below w.heap.size w w' := by
  rcases h with h | rfl
  · exact lsame_plain x h w
  · exact lsame_zero w
set_option maxHeartbeats 4000000 in
theorem values_self (vs : List V9) (a b : Option Addr) (ca cb : Nat) (w : World) (hall : ∀ x ∈ vs, OkZ x) (hn : vs.length ≤ 1000) (ha : w.ownsRow 0 27 5 (.slice a vs.length ca) vs.length (cellsP vs)) (hb : w.ownsRow 0 27 5 (.slice b vs.length cb) vs.length (cellsP vs)) :
    Calls Try.prog 15 #[.slice a vs.length ca, .slice b vs.length cb] w fun e w' => e = .returned (.bool true) ∧ Below w.heap.size w w' := by
  have HA := Lib.hid ha
  have HB := Lib.hid hb
  have HALL := Lib.hid hall
  obtain ⟨n, hn2⟩ : ∃ n, n = vs.length := ⟨_, rfl⟩
  have HN := Lib.hid hn2
  rw [← hn2] at hn ⊢
  clear ha hb hall hn2
  go_enter Try.func15, Try.ntmps15
  go_wp2
  go_loopw [5] (fun i wr => ∃ k : Nat, i = .int .i64 k ∧ k ≤ n ∧ Hid (Below w.heap.size w wr)) (fun i _ => n - (intOf i).toNat)
  case atStart => exact ⟨0, rfl, Nat.zero_le _, Lib.hid (Below.refl _ _)⟩
  case round =>
    obtain ⟨k, rfl, hk, HBR⟩ := hrel
    rcases Nat.lt_or_ge k n with hlt | hge
    · have hkl : k < vs.length := by rw [← HN.out]; exact hlt
      obtain ⟨x, hx⟩ : ∃ x, vs[k]? = some x := ⟨_, List.getElem?_eq_getElem hkl⟩
      have hok := HALL.out x (List.mem_of_getElem? hx)
      obtain ⟨g1, rfl, hg1, e0, e1, e2, e3, e4⟩ := row_cells HA.out hx
      obtain ⟨g2, rfl, hg2, f0, f1, f2, f3, f4⟩ := row_cells HB.out hx
      have c0 := old_cell9 HBR.out e0
      have c1 := old_cell9 HBR.out e1
      have c2 := old_cell9 HBR.out e2
      have c3 := old_cell9 HBR.out e3
      have c4 := old_cell9 HBR.out e4
      have d0 := old_cell9 HBR.out f0
      have d1 := old_cell9 HBR.out f1
      have d2 := old_cell9 HBR.out f2
      have d3 := old_cell9 HBR.out f3
      have d4 := old_cell9 HBR.out f4
      have hs := fun W => lsame_self x hok W
      unfold valO valV at hs
      have HS := Lib.hid hs
      clear e0 e1 e2 e3 e4 f0 f1 f2 f3 f4 hs hok
      have HKK : Hid (∀ W, Below wr.heap.size wr W → W.cell? ⟨g1, k * 5, none⟩ = some (.int .i64 x.kd) ∧ W.cell? ⟨g1, k * 5 + 1, none⟩ = some (.int .i64 x.iv) ∧ W.cell? ⟨g1, k * 5 + 2, none⟩ = some (.float .f64 x.rl) ∧ W.cell? ⟨g1, k * 5 + 3, none⟩ = some (.complex .f64 x.re x.im) ∧ W.cell? ⟨g1, k * 5 + 4, none⟩ = some (.string ⟨x.tx.toArray⟩) ∧ W.cell? ⟨g2, k * 5, none⟩ = some (.int .i64 x.kd) ∧ W.cell? ⟨g2, k * 5 + 1, none⟩ = some (.int .i64 x.iv) ∧ W.cell? ⟨g2, k * 5 + 2, none⟩ = some (.float .f64 x.rl) ∧ W.cell? ⟨g2, k * 5 + 3, none⟩ = some (.complex .f64 x.re x.im) ∧ W.cell? ⟨g2, k * 5 + 4, none⟩ = some (.string ⟨x.tx.toArray⟩)) := Lib.hid (fun W hW => ⟨old_cell9 hW c0, old_cell9 hW c1, old_cell9 hW c2, old_cell9 hW c3, old_cell9 hW c4, old_cell9 hW d0, old_cell9 hW d1, old_cell9 hW d2, old_cell9 hW d3, old_cell9 hW d4⟩)
      go_upto_region 6 with (fail)
      go_region_held3 (fun W => W.cell? ⟨g1, k * 5, none⟩ = some (.int .i64 x.kd) ∧ W.cell? ⟨g1, k * 5 + 1, none⟩ = some (.int .i64 x.iv) ∧ W.cell? ⟨g1, k * 5 + 2, none⟩ = some (.float .f64 x.rl) ∧ W.cell? ⟨g1, k * 5 + 3, none⟩ = some (.complex .f64 x.re x.im) ∧ W.cell? ⟨g1, k * 5 + 4, none⟩ = some (.string ⟨x.tx.toArray⟩) ∧ W.cell? ⟨g2, k * 5, none⟩ = some (.int .i64 x.kd) ∧ W.cell? ⟨g2, k * 5 + 1, none⟩ = some (.int .i64 x.iv) ∧ W.cell? ⟨g2, k * 5 + 2, none⟩ = some (.float .f64 x.rl) ∧ W.cell? ⟨g2, k * 5 + 3, none⟩ = some (.complex .f64 x.re x.im) ∧ W.cell? ⟨g2, k * 5 + 4, none⟩ = some (.string ⟨x.tx.toArray⟩))
        (first | exact HKK.out _ (drew_below wr) | exact HKK.out _ HBQ.out)
        (first | (go_at_call 14; (with_reducible refine (HS.out _).mono ?_); rintro e w1 ⟨rfl, hb1⟩; have HBQ := Lib.hid (show Below wr.heap.size wr w1 from (drew_below wr).trans hb1); have HB1 := Lib.hid (show Below w.heap.size w w1 from HBR.out.trans (HBQ.out.mono HBR.out.size)); clear hb1))
      all_goals
        rename_i hHeld
        clear hHeld
        go_wp2
        go_roundw
        case rel => exact ⟨k + 1, by go_num, by omega, HB1⟩
        case measure => simp [intOf]; omega
    · obtain rfl : k = n := by omega
      go_wp2
      go_ret
      exact ⟨rfl, HBR.out⟩
set_option maxHeartbeats 4000000 in
theorem message_self (m : M9) (a b : Option Addr) (ca cb : Nat) (w : World) (hall : ∀ x ∈ m.vs, OkZ x) (hn : m.vs.length ≤ 1000) (ha : w.ownsRow 0 27 5 (.slice a m.vs.length ca) m.vs.length (cellsP m.vs)) (hb : w.ownsRow 0 27 5 (.slice b m.vs.length cb) m.vs.length (cellsP m.vs)) :
    Calls Try.prog 16 #[.agg #[.int .i64 m.id, .string ⟨m.tag.toArray⟩, .slice a m.vs.length ca], .agg #[.int .i64 m.id, .string ⟨m.tag.toArray⟩, .slice b m.vs.length cb]] w fun e w' => e = .returned (.bool true) ∧ Below w.heap.size w w' := by
  obtain ⟨id, tg, vs⟩ := m
  simp only at *
  generalize (⟨tg.toArray⟩ : ByteArray) = s at *
  obtain ⟨W0, hW0⟩ : ∃ W0, W0 = (w.alloc (.cells #[.int .i64 id, .string s, .slice a vs.length ca] 35)).alloc (.cells #[.int .i64 id, .string s, .slice b vs.length cb] 35) := ⟨_, rfl⟩
  have hbw : Below w.heap.size w W0 := by rw [hW0]; exact ((Below.refl _ w).alloc (Nat.le_refl _) _).alloc (by simp) _
  have hx : Bk W0 w.heap.size 35 [.int .i64 id, .string s, .slice a vs.length ca] := by rw [hW0]; exact (Bk.new w _ _).alloc _
  have hy : Bk W0 (w.heap.size + 1) 35 [.int .i64 id, .string s, .slice b vs.length cb] := by rw [hW0]; exact heap_alloc2_new w _ _
  have hv := values_self vs a b ca cb W0 hall hn (own_keep9 ha hbw) (own_keep9 hb hbw)
  have HW0 := Lib.hid hW0
  have HB := Lib.hid hbw
  have HV := Lib.hid hv
  have c0 := hx.c 0 rfl
  have c1 := hx.c 1 rfl
  have c2 := hx.c 2 rfl
  have e0 := hy.c 0 rfl
  have e1 := hy.c 1 rfl
  have e2 := hy.c 2 rfl
  clear hW0 hbw hx hy hv ha hb hall
  go_enter Try.func16, Try.ntmps16
  go_upto_region 1 with (fail)
  rw [← HW0.out]
  go_wp2_with fail
  refine HV.out.mono ?_
  rintro e w1 ⟨rfl, hb1⟩
  have HB1 := Lib.hid (HB.out.trans (hb1.mono HB.out.size))
  clear hb1
  go_wp2_with fail
  go_ret
  exact ⟨rfl, HB1.out⟩
end Go.Proofs.Ytloofajopgbfmaa
