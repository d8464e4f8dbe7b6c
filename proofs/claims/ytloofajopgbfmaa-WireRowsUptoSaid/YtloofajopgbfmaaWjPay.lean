/- Wire: may a payload be? mayPayload. -/
import Derived.Test.YtloofajopgbfmaaWjValA
import Derived.Test.YtloofajopgbfmaaWjPl
import Derived.Laws.AppendOwn
namespace Go.Proofs.Ytloofajopgbfmaa
set_option linter.all false
open Go.RowKit
set_option maxRecDepth 100000
def cellsO (v : V9) : List Value := [.int .i64 v.kd, .int .i64 v.iv, .float .f64 v.rl, .complex .f64 v.re v.im, .string ⟨v.tx.toArray⟩]
def cellsP (l : List V9) : List Value := l.flatMap cellsO
theorem cellsO_len (v : V9) : (cellsO v).length = 5 := rfl
theorem cellsP_len : ∀ l : List V9, (cellsP l).length = l.length * 5
  | [] => rfl
  | v :: l => by
    have := cellsP_len l
    unfold cellsP at this ⊢
    rw [List.flatMap_cons, List.length_append, this, cellsO_len, List.length_cons]
    omega
theorem cellsP_at : ∀ {l : List V9} {k : Nat} {x : V9}, l[k]? = some x → ∀ j, j < 5 → (cellsP l)[k * 5 + j]? = (cellsO x)[j]?
  | [], k, x, h, j, hj => by simp at h
  | v :: l, 0, x, h, j, hj => by
    simp at h
    subst h
    unfold cellsP
    rw [List.flatMap_cons, List.getElem?_append_left (by rw [cellsO_len]; omega), Nat.zero_mul, Nat.zero_add]
  | v :: l, k + 1, x, h, j, hj => by
    have := cellsP_at (l := l) (k := k) (x := x) (by simpa using h) j hj
    unfold cellsP at this ⊢
    rw [List.flatMap_cons, List.getElem?_append_right (by rw [cellsO_len]; omega), cellsO_len, show (k + 1) * 5 + j - 5 = k * 5 + j by omega]
    exact this
theorem cellsP_snoc (l : List V9) (v : V9) : cellsP (l ++ [v]) = cellsP l ++ cellsO v := by simp [cellsP]
theorem cellsP_one (l : List V9) : ∀ u ∈ cellsP l, u.oneCell' = true := by
  intro u hu
  unfold cellsP at hu
  rw [List.mem_flatMap] at hu
  obtain ⟨v, _, hv⟩ := hu
  simp only [cellsO, List.mem_cons, List.mem_nil_iff, or_false] at hv
  rcases hv with rfl | rfl | rfl | rfl | rfl <;> rfl
/-- a payload's row: its value's form -/
theorem row_form {w : World} {B : Nat} {vs : List V9} {v : Value} (hrow : w.ownsRow B 27 5 v vs.length (cellsP vs)) : ∃ a cap, v = .slice a vs.length cap := by
  rcases hrow.2 with ⟨rfl, h0⟩ | ⟨g, cap, cur, rfl, _⟩
  · rw [h0]
    exact ⟨none, 0, rfl⟩
  · exact ⟨_, _, rfl⟩
/-- a payload's row: one value's cells -/
theorem row_cells {w : World} {B n cap : Nat} {a : Option Addr} {vs : List V9} (hrow : w.ownsRow B 27 5 (.slice a n cap) n (cellsP vs)) {k : Nat} {x : V9} (hk : vs[k]? = some x) :
    ∃ g, a = some ⟨g, 0, none⟩ ∧ g < w.heap.size ∧ w.cell? ⟨g, k * 5, none⟩ = some (.int .i64 x.kd) ∧ w.cell? ⟨g, k * 5 + 1, none⟩ = some (.int .i64 x.iv) ∧ w.cell? ⟨g, k * 5 + 2, none⟩ = some (.float .f64 x.rl) ∧ w.cell? ⟨g, k * 5 + 3, none⟩ = some (.complex .f64 x.re x.im) ∧ w.cell? ⟨g, k * 5 + 4, none⟩ = some (.string ⟨x.tx.toArray⟩) := by
  have hrow2 := hrow
  rcases hrow2.2 with ⟨h, h0⟩ | ⟨g, cap', cur, he, _⟩
  · exfalso
    have h2 := hrow.1
    rw [cellsP_len] at h2
    rw [List.eq_nil_of_length_eq_zero (show vs.length = 0 by omega)] at hk
    simp at hk
  · simp only [Value.slice.injEq] at he
    obtain ⟨rfl, _, _⟩ := he
    have hc : ∀ j, j < 5 → ∀ u, (cellsO x)[j]? = some u → w.cell? ⟨g, k * 5 + j, none⟩ = some u := fun j hj u hu => by
      have := hrow.cells (g := g) rfl (k * 5 + j) u (by rw [cellsP_at hk j hj]; exact hu)
      have hadd : (⟨g, 0, none⟩ : Addr).add (k * 5 + j) = ⟨g, k * 5 + j, none⟩ := by unfold Addr.add; split <;> simp_all
      rwa [hadd] at this
    exact ⟨g, rfl, (hrow.lt g rfl).2, hc 0 (by omega) _ rfl, hc 1 (by omega) _ rfl, hc 2 (by omega) _ rfl, hc 3 (by omega) _ rfl, hc 4 (by omega) _ rfl⟩
theorem old_cell9 {w w' : World} {p : Addr} {v : Value} (hb : Below w.heap.size w w') (h : w.cell? p = some v) : w'.cell? p = some v := (hb.cell (World.block_lt_of_cell? w _ h)).trans h
theorem plain_may {x : V9} (h : Plain9 x) : mayW x.kd ⟨x.tx.toArray⟩ = true := by
  unfold mayW
  have hl := h.len
  rcases h.kd with e | e | e | e
  · rw [if_pos (.inl e)]
  · rw [if_pos (.inr (.inl e))]
  · rw [if_pos (.inr (.inr e))]
  · rw [if_neg (by omega), if_pos e]
    exact decide_eq_true hl
theorem size_of (x : V9) : szW x.kd ⟨x.tx.toArray⟩ = sizeV x := rfl
theorem plain_size {x : V9} (h : Plain9 x) : sizeV x ≤ 256 := by
  have hl := h.len
  unfold sizeV
  split
  · exact hl
  · split <;> omega
theorem sizeP_snoc (l : List V9) (x : V9) : sizeP (l ++ [x]) = sizeP l + sizeV x := by simp [sizeP]
theorem sizeP_le {l : List V9} (h : ∀ x ∈ l, Plain9 x) : sizeP l ≤ 256 * l.length := by
  induction l with
  | nil => simp [sizeP]
  | cons x l ih =>
    have h1 := plain_size (h x (by simp))
    have h2 := ih (fun y hy => h y (by simp [hy]))
    simp only [sizeP, List.map_cons, List.sum_cons, List.length_cons] at *
    omega
theorem take_at {α : Type} {l : List α} {k : Nat} {x : α} (h : l[k]? = some x) : l.take (k + 1) = l.take k ++ [x] := by
  obtain ⟨hk, rfl⟩ := List.getElem?_eq_some_iff.1 h
  exact List.take_succ_eq_append_getElem hk
set_option maxHeartbeats 2000000 in
theorem mayPayload_any (vs : List V9) (v : Value) (w : World) (hall : ∀ x ∈ vs, Plain9 x) (hrow : w.ownsRow 0 27 5 v vs.length (cellsP vs)) (hn : vs.length ≤ 255) : Calls Try.prog 30 #[v] w fun e w' => e = .returned (.bool (decide (vs.length ≤ 6 ∧ sizeP vs ≤ 1024))) ∧ Below w.heap.size w w' := by
  obtain ⟨a, cap, rfl⟩ := row_form hrow
  rcases Nat.lt_or_ge 6 vs.length with h6 | h6
  · rw [show decide (vs.length ≤ 6 ∧ sizeP vs ≤ 1024) = false from decide_eq_false (by omega)]
    generalize vs.length = n at *
    have d1 : decide ((6 : Int) < (n : Int)) = true := decide_eq_true (by omega)
    clear hrow hall
    go_enter Try.func30, Try.ntmps30
    go_wp2
    go_ret
    exact ⟨rfl, Below.refl _ _⟩
  · have HR := Lib.hid hrow
    have HA := Lib.hid hall
    obtain ⟨n, hn2⟩ : ∃ n, n = vs.length := ⟨_, rfl⟩
    have HN := Lib.hid hn2
    rw [← hn2] at hn h6 ⊢
    have d1 : decide ((6 : Int) < (n : Int)) = false := decide_eq_false (by omega)
    obtain ⟨R, hR⟩ : ∃ R, R = decide (n ≤ 6 ∧ sizeP vs ≤ 1024) := ⟨_, rfl⟩
    rw [← hR]
    have HRR := Lib.hid hR
    clear hrow hall hn2 hR
    have sf : ∀ (p : Addr) (b : Nat) (mo : Mode) (w' : World), (store p (.float .f64 b) mo).run Try.prog w' = stored Try.prog w' p (.float .f64 b) mo := fun p b mo w' => run_store _ w' p _ mo rfl
    have sc : ∀ (p : Addr) (b c : Nat) (mo : Mode) (w' : World), (store p (.complex .f64 b c) mo).run Try.prog w' = stored Try.prog w' p (.complex .f64 b c) mo := fun p b c mo w' => run_store _ w' p _ mo rfl
    go_enter Try.func30, Try.ntmps30
    go_wp2
    go_loopw [3, 11] (fun z i wr => ∃ k : Nat, i = .int .i64 k ∧ k ≤ n ∧ z = .int .i64 (sizeP (vs.take k)) ∧ Hid (Below w.heap.size w wr)) (fun _ i _ => n - (intOf i).toNat)
    case atStart => exact ⟨0, rfl, Nat.zero_le _, rfl, Lib.hid (Below.refl _ _)⟩
    case round =>
      obtain ⟨k, rfl, hk, rfl, HBR⟩ := hrel
      rcases Nat.lt_or_ge k n with hlt | hge
      · have hkl : k < vs.length := by rw [← HN.out]; exact hlt
        obtain ⟨x, hx⟩ : ∃ x, vs[k]? = some x := ⟨_, List.getElem?_eq_getElem hkl⟩
        obtain ⟨g, rfl, hg, e0, e1, e2, e3, e4⟩ := row_cells HR.out hx
        have c0 := old_cell9 HBR.out e0
        have c1 := old_cell9 HBR.out e1
        have c2 := old_cell9 HBR.out e2
        have c3 := old_cell9 HBR.out e3
        have c4 := old_cell9 HBR.out e4
        clear e0 e1 e2 e3 e4
        go_upto_region 7 with (fail)
        have hpl := HA.out x (List.mem_of_getElem? hx)
        obtain ⟨W1, hW1⟩ : ∃ W1, W1 = wr.alloc (.cells #[.int .i64 x.kd, .int .i64 x.iv, .float .f64 x.rl, .complex .f64 x.re x.im, .string ⟨x.tx.toArray⟩] 27) := ⟨_, rfl⟩
        have hx1 : Bk W1 wr.heap.size 27 (cellsO x) := by rw [hW1]; exact Bk.new wr _ _
        have HX1 := Lib.hid hx1
        have HB1 : Hid (Below w.heap.size w W1) := Lib.hid (by rw [hW1]; exact HBR.out.alloc HBR.out.size _)
        rw [← hW1]
        have hm := mayValue_any x.kd x.iv x.rl x.re x.im ⟨x.tx.toArray⟩ W1
        rw [plain_may hpl] at hm
        have hs := fun W => size_any x.kd x.iv x.rl x.re x.im ⟨x.tx.toArray⟩ W (plain_may hpl)
        rw [size_of x] at hs
        unfold valV at hm hs
        have HM := Lib.hid hm
        have HS := Lib.hid hs
        have hts : sizeP (vs.take (k + 1)) = sizeP (vs.take k) + sizeV x := by rw [take_at hx, sizeP_snoc]
        have hz1 : sizeV x ≤ 256 := plain_size hpl
        have hz2 : sizeP (vs.take k) ≤ 256 * k := Nat.le_trans (sizeP_le (fun y hy => HA.out y (List.mem_of_mem_take hy))) (by have : (vs.take k).length ≤ k := List.length_take_le _ _; omega)
        have HTS := Lib.hid hts
        have d0 := hx1.c 0 rfl
        have d1' := hx1.c 1 rfl
        have d2 := hx1.c 2 rfl
        have d3 := hx1.c 3 rfl
        have d4 := hx1.c 4 rfl
        clear hW1 hm hs hx1 hpl c0 c1 c2 c3 c4 hts
        go_wp2_with fail
        refine HM.out.mono ?_
        rintro e w2 ⟨rfl, hb2⟩
        have hx2 := HX1.out.keep hb2 HX1.out.lt
        have HB2 := Lib.hid (HB1.out.trans (hb2.mono HB1.out.size))
        clear hb2 d0 d1' d2 d3 d4
        have d0 := hx2.c 0 rfl
        have d1' := hx2.c 1 rfl
        have d2 := hx2.c 2 rfl
        have d3 := hx2.c 3 rfl
        have d4 := hx2.c 4 rfl
        clear hx2
        go_wp2_with fail
        refine (HS.out _).mono ?_
        rintro e w3 ⟨rfl, hb3⟩
        have HB3 := Lib.hid (HB2.out.trans (hb3.mono HB2.out.size))
        clear hb3 d0 d1' d2 d3 d4
        go_wp2_with fail
        go_roundw
        case rel => exact ⟨k + 1, by go_num, by omega, by rw [HTS.out]; go_num, HB3⟩
        case measure => simp [intOf]; omega
      · obtain rfl : k = n := by omega
        have hts : vs.take k = vs := by rw [HN.out]; exact List.take_length
        have hz2 : sizeP vs ≤ 256 * k := by have := sizeP_le (fun y hy => HA.out y hy); rw [← HN.out] at this; exact this
        rw [hts]
        generalize sizeP vs = z at *
        rcases Nat.lt_or_ge 1024 z with h | h
        · have t1 : decide ((z : Int) ≤ 1024) = false := decide_eq_false (by omega)
          have HE : Hid (R = false) := Lib.hid (HRR.out.trans (decide_eq_false (by omega)))
          clear hts
          go_wp2
          go_ret
          exact ⟨by rw [HE.out]; rfl, HBR.out⟩
        · have t1 : decide ((z : Int) ≤ 1024) = true := decide_eq_true (by omega)
          have HE : Hid (R = true) := Lib.hid (HRR.out.trans (decide_eq_true (by omega)))
          clear hts
          go_wp2
          go_ret
          exact ⟨by rw [HE.out]; rfl, HBR.out⟩
end Go.Proofs.Ytloofajopgbfmaa
