/- Wire, the reference: Size, size of a list. -/
import Derived.Test.YtloofajopgbfmaaWjRef2
namespace Go.Proofs.Ytloofajopgbfmaa
set_option linter.all false
open Go.RowKit
set_option maxRecDepth 100000
set_option maxHeartbeats 4000000 in
theorem rsize_any (x : V9) (h : Plain9 x) (w : World) : Calls Try.prog 51 #[valO x] w fun e w' => e = .returned (.int .i64 (sizeV x)) ∧ Below w.heap.size w w' := by
  have hmay : mayB x.kd x.iv ⟨x.tx.toArray⟩ = true := by
    have h1 := plain_may h
    have h5 : x.kd ≠ 5 := by rcases h.kd with e | e | e | e <;> omega
    rw [← h1]
    unfold mayB mayW
    rw [if_neg h5]
  obtain ⟨kd, iv, rl, re, im, tx⟩ := x
  have hm := fun W => rmay_any kd iv rl re im ⟨tx.toArray⟩ W
  simp only at hmay
  rw [hmay] at hm
  have h1 := h.kd
  simp only at h1
  have hsz : sizeV ⟨kd, iv, rl, re, im, tx⟩ = szW kd ⟨tx.toArray⟩ := rfl
  rw [hsz]
  obtain ⟨W0, hW0⟩ : ∃ W0, W0 = w.alloc (.cells #[.int .i64 kd, .int .i64 iv, .float .f64 rl, .complex .f64 re im, .string ⟨tx.toArray⟩] 27) := ⟨_, rfl⟩
  have hb0 : Below w.heap.size w W0 := by rw [hW0]; exact (Below.refl _ w).alloc (Nat.le_refl _) _
  have hx0 : Bk W0 w.heap.size 27 [.int .i64 kd, .int .i64 iv, .float .f64 rl, .complex .f64 re im, .string ⟨tx.toArray⟩] := by rw [hW0]; exact Bk.new w _ _
  unfold valO valV
  unfold valV at hm
  generalize (⟨tx.toArray⟩ : ByteArray) = s at *
  have HM := Lib.hid hm
  have HW0 := Lib.hid hW0
  have HB := Lib.hid hb0
  have HX := Lib.hid hx0
  have c0 := hx0.c 0 rfl
  have c1 := hx0.c 1 rfl
  have c2 := hx0.c 2 rfl
  have c3 := hx0.c 3 rfl
  have c4 := hx0.c 4 rfl
  clear hmay h hm hW0 hb0 hx0 hsz
  rcases h1 with rfl | rfl | rfl | rfl
  all_goals
    go_enter Try.func51, Try.ntmps51
    go_upto_region 1 with (fail)
    rw [← HW0.out]
    go_wp2_with fail
    refine (HM.out _).mono ?_
    rintro e w1 ⟨rfl, hb1⟩
    have hx1 := HX.out.keep hb1 HX.out.lt
    have HB1 := Lib.hid (HB.out.trans (hb1.mono HB.out.size))
    clear hb1 c0 c1 c2 c3 c4
    have d0 := hx1.c 0 rfl
    have d4 := hx1.c 4 rfl
    clear hx1
    go_wp2_with fail
    go_ret
    exact ⟨rfl, HB1.out⟩
set_option maxHeartbeats 2000000 in
theorem rsizes_any (vs : List V9) (v : Value) (w : World) (hall : ∀ x ∈ vs, Plain9 x) (hrow : w.ownsRow 0 27 5 v vs.length (cellsP vs)) (hn : vs.length ≤ 255) : Calls Try.prog 36 #[v] w fun e w' => e = .returned (.int .i64 (sizeP vs)) ∧ Below w.heap.size w w' := by
  obtain ⟨a, cap, rfl⟩ := row_form hrow
  have HR := Lib.hid hrow
  have HA := Lib.hid hall
  obtain ⟨n, hn2⟩ : ∃ n, n = vs.length := ⟨_, rfl⟩
  have HN := Lib.hid hn2
  rw [← hn2] at hn ⊢
  have hts : vs.take n = vs := by rw [hn2]; exact List.take_length
  have HTS := Lib.hid hts
  clear hrow hall hn2 hts
  go_enter Try.func36, Try.ntmps36
  go_wp2
  go_loopw [3, 4] (fun z i wr => ∃ k : Nat, i = .int .i64 k ∧ k ≤ n ∧ z = .int .i64 (sizeP (vs.take k)) ∧ Hid (Below w.heap.size w wr)) (fun _ i _ => n - (intOf i).toNat)
  case atStart => exact ⟨0, rfl, Nat.zero_le _, rfl, Lib.hid (Below.refl _ _)⟩
  case round =>
    obtain ⟨k, rfl, hk, rfl, HBR⟩ := hrel
    rcases Nat.lt_or_ge k n with hlt | hge
    · have hkl : k < vs.length := by rw [← HN.out]; exact hlt
      obtain ⟨x, hx⟩ : ∃ x, vs[k]? = some x := ⟨_, List.getElem?_eq_getElem hkl⟩
      obtain ⟨g, rfl, hg, e0, e1, e2, e3, e4⟩ := row_cells HR.out hx
      have c0 := old_cell9 HBR.out e0
      have c1 := old_cell9 HBR.out e1
      have c2 := old_cell9 HBR.out e2
      have c3 := old_cell9 HBR.out e3
      have c4 := old_cell9 HBR.out e4
      have hpl := HA.out x (List.mem_of_getElem? hx)
      have hs := fun W => rsize_any x hpl W
      unfold valO valV at hs
      have HS := Lib.hid hs
      have hts : sizeP (vs.take (k + 1)) = sizeP (vs.take k) + sizeV x := by rw [take_at hx, sizeP_snoc]
      have hz1 : sizeV x ≤ 256 := plain_size hpl
      have hz2 : sizeP (vs.take k) ≤ 256 * k := Nat.le_trans (sizeP_le (fun y hy => HA.out y (List.mem_of_mem_take hy))) (by have : (vs.take k).length ≤ k := List.length_take_le _ _; omega)
      have HT2 := Lib.hid hts
      clear e0 e1 e2 e3 e4 hs hpl hts
      go_wp2_with fail
      refine (HS.out _).mono ?_
      rintro e w3 ⟨rfl, hb3⟩
      have HB3 := Lib.hid (HBR.out.trans (hb3.mono HBR.out.size))
      clear hb3 c0 c1 c2 c3 c4
      go_wp2_with fail
      go_roundw
      case rel => exact ⟨k + 1, by go_num, by omega, by rw [HT2.out]; go_num, HB3⟩
      case measure => simp [intOf]; omega
    · obtain rfl : k = n := by omega
      rw [HTS.out]
      go_wp2
      go_ret
      exact ⟨rfl, HBR.out⟩
end Go.Proofs.Ytloofajopgbfmaa
