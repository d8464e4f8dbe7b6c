/- What LexScans and LexEach call: alike, tokens, other; and the copy of the text that is handed about. -/
import Derived.Test.YtkhghbeojfgkhaaDoorRefScan
import Derived.Test.YtkhghbeojfgkhaaDoorAwake
import Derived.StillTailTactics
namespace Go.Proofs.YtkhghbeojfgkhaaDoor
open Go.RowKit Go.Shelf
set_option maxRecDepth 100000

theorem alike_yes (kd iv at_ sz : Int) (rl : Nat) (tx : ByteArray) (w : World) :
    Calls Tryd.prog 23 #[.agg #[.int .i64 kd, .string tx, .int .i64 iv, .float .f64 rl, .int .i64 at_, .int .i64 sz], .agg #[.int .i64 kd, .string tx, .int .i64 iv, .float .f64 rl, .int .i64 at_, .int .i64 sz]] w fun e w' => e = .returned (.bool true) ∧ Below w.heap.size w w' := by
  have h1 := f64bits rl
  have sf : ∀ (p : Addr) (b : Nat) (mo : Mode) (w' : World), (store p (.float .f64 b) mo).run Tryd.prog w' = stored Tryd.prog w' p (.float .f64 b) mo := fun p b mo w' => run_store _ w' p _ mo rfl
  go_enter Tryd.func23, Tryd.ntmps23
  go_wp2
  go_region
  all_goals go_wp2
  all_goals go_ret
  all_goals exact ⟨rfl, (((Below.refl _ w).alloc (Nat.le_refl _) _).alloc (by simp) _).drew⟩

/-- a row of tokens that stands somewhere from the place B of memory on -/
def RowIs (w : World) (B : Nat) (a : Option Addr) (xs : List Tok) : Prop :=
  ∀ k x, xs[k]? = some x → ∃ g, a = some ⟨g, 0, none⟩ ∧ B ≤ g ∧ ∀ j u, j < 6 → (tokCells x)[j]? = some u → w.cell? ⟨g, k * 6 + j, none⟩ = some u
theorem RowIs.keep {w w' : World} {B : Nat} {a : Option Addr} {xs : List Tok} (h : RowIs w B a xs) (hk : ∀ b, B ≤ b → b < w.heap.size → w'.heap[b]? = w.heap[b]?) : RowIs w' B a xs := by
  intro k x hx
  obtain ⟨g, h1, h2, h3⟩ := h k x hx
  refine ⟨g, h1, h2, fun j u hj hu => ?_⟩
  have hc := h3 j u hj hu
  have hlt := World.block_lt_of_cell? w _ hc
  rw [World.cell?_of_block (hk g h2 hlt)]
  exact hc
theorem RowIs.below {w w' : World} {B C : Nat} {a : Option Addr} {xs : List Tok} (h : RowIs w B a xs) (hb : Below C w w') (hB : w.heap.size ≤ C) : RowIs w' B a xs :=
  h.keep fun b _ hlt => hb.block b (by omega)
theorem RowIs.nil (w : World) (B : Nat) (a : Option Addr) : RowIs w B a [] := fun k x hx => by simp at hx
theorem flatR_at : ∀ (xs : List Tok) (k j : Nat) (x : Tok), xs[k]? = some x → j < 6 → (flatR xs)[k * 6 + j]? = (tokCells x)[j]?
  | [], k, j, x, h, _ => by simp at h
  | y :: ys, 0, j, x, h, hj => by
    simp at h; subst h
    have : (tokCells y).length = 6 := rfl
    unfold flatR
    rw [List.flatMap_cons, List.getElem?_append_left (by omega)]
    simp
  | y :: ys, k + 1, j, x, h, hj => by
    have hl : (tokCells y).length = 6 := rfl
    have := flatR_at ys k j x (by simpa using h) hj
    unfold flatR at this ⊢
    rw [List.flatMap_cons, List.getElem?_append_right (by omega), hl]
    rw [show (k + 1) * 6 + j - 6 = k * 6 + j by omega]
    exact this
theorem rowIs_own {w : World} {base n m c : Nat} {e : TypeId} {a : Option Addr} {xs : List Tok} (hn : xs.length = n) (h : w.ownsRow base e 6 (.slice a m c) n (flatR xs)) : RowIs w base a xs := by
  intro k x hx
  obtain ⟨hk, _⟩ := List.getElem?_eq_some_iff.1 hx
  rcases h.2 with ⟨he, h0⟩ | ⟨g, cap, cur, he, hb, _⟩
  · omega
  · cases he
    refine ⟨g, rfl, hb, fun j u hj hu => ?_⟩
    rw [h.cellAt (k * 6 + j) (by omega), flatR_at xs k j x hx hj]
    exact hu

set_option maxHeartbeats 2000000 in
theorem tokens_any (va vb : Option Addr) (ca cb N B1 B2 : Nat) (xs : List Tok) (w : World) (hN : xs.length = N) (hN2 : N ≤ 32769) (ha : RowIs w B1 va xs) (hb : RowIs w B2 vb xs) :
    Calls Tryd.prog 10 #[.slice va N ca, .slice vb N cb] w fun e w' => e = .returned (.bool true) ∧ Below w.heap.size w w' := by
  have HN := Lib.hid hN
  have HA := Lib.hid ha
  have HB := Lib.hid hb
  clear hN ha hb
  go_enter Tryd.func10, Tryd.ntmps10
  go_wp2_with fail
  go_loopw [5] (fun i wr => ∃ k : Nat, i = .int .i64 k ∧ k ≤ N ∧ Below w.heap.size w wr) (fun i _ => N - (intOf i).toNat)
  case atStart => exact ⟨0, rfl, Nat.zero_le _, Below.refl _ _⟩
  case round =>
    obtain ⟨k, rfl, hk, hbr⟩ := hrel
    have HBR := Lib.hid hbr
    have hsz := hbr.size
    rcases Nat.lt_or_ge k N with hlt | hge
    · obtain ⟨x, hx⟩ : ∃ x, xs[k]? = some x := ⟨_, List.getElem?_eq_getElem (by rw [HN.out]; exact hlt)⟩
      obtain ⟨ga, rfl, _, cx⟩ := (HA.out.below hbr (Nat.le_refl _)) k x hx
      obtain ⟨gb, rfl, _, cy⟩ := (HB.out.below hbr (Nat.le_refl _)) k x hx
      obtain ⟨kd, tx, iv, rl, at_, sz⟩ := x
      have x0 : wr.cell? ⟨ga, k * 6, none⟩ = some (.int .i64 kd) := cx 0 _ (by decide) rfl
      have x1 := cx 1 _ (by decide) rfl
      have x2 := cx 2 _ (by decide) rfl
      have x3 := cx 3 _ (by decide) rfl
      have x4 := cx 4 _ (by decide) rfl
      have x5 := cx 5 _ (by decide) rfl
      have y0 : wr.cell? ⟨gb, k * 6, none⟩ = some (.int .i64 kd) := cy 0 _ (by decide) rfl
      have y1 := cy 1 _ (by decide) rfl
      have y2 := cy 2 _ (by decide) rfl
      have y3 := cy 3 _ (by decide) rfl
      have y4 := cy 4 _ (by decide) rfl
      have y5 := cy 5 _ (by decide) rfl
      clear cx cy hx hbr
      go_wp2_with fail
      go_still_tail 8, (by kernel_rfl)
      change wpList _ _ _ _ _ wr.drew
      have hbd : Below w.heap.size w wr.drew := HBR.out.drew
      have hzd : w.heap.size ≤ wr.drew.heap.size := hsz
      generalize wr.drew = wd at hbd hzd ⊢
      have HBD := Lib.hid hbd
      clear hbd x0 x1 x2 x3 x4 x5 y0 y1 y2 y3 y4 y5
      go_wp2_with fail
      refine (alike_yes _ _ _ _ _ _ wd).mono ?_
      rintro e w9 ⟨rfl, hb9⟩
      have HB9 := Lib.hid (HBD.out.trans (hb9.mono hzd))
      clear hb9
      go_wp2_with fail
      go_roundw
      case rel => exact ⟨k + 1, by go_num, hlt, HB9.out⟩
      case measure => simp [intOf]; omega
    · obtain rfl : k = N := by omega
      go_wp2_with fail
      go_ret
      exact ⟨rfl, HBR.out⟩

/-- the copy that the law works on: its bytes and the two marks behind them, and the world as it was -/
def HeldB (w wr : World) (g c n : Nat) (zs : List UInt8) : Prop :=
  zs.length = n ∧ wr.ownsRow w.heap.size 5 1 (.slice (some ⟨g, 0, none⟩) (n + 2) c) (n + 2) (u8s (zs ++ [201, 202])) ∧ Below w.heap.size w wr
section
variable {w wr w' : World} {g c n : Nat} {zs : List UInt8}
theorem HeldB.below (h : HeldB w wr g c n zs) (hb : Below wr.heap.size wr w') : HeldB w w' g c n zs := ⟨h.1, own_below h.2.1 hb (Nat.le_refl _), h.2.2.trans (hb.mono h.2.2.size)⟩
theorem HeldB.cap (h : HeldB w wr g c n zs) : n + 2 ≤ c ∧ c ≤ maxLen := by
  rcases h.2.1.2 with ⟨h', _⟩ | ⟨_, _, _, he, _, _, h1, h2, _⟩
  · cases h'
  · cases he; exact ⟨h1, h2⟩
theorem HeldB.lt (h : HeldB w wr g c n zs) : w.heap.size ≤ g ∧ g < wr.heap.size := h.2.1.lt g rfl
theorem HeldB.atAll (h : HeldB w wr g c n zs) : At wr ⟨g, 0, none⟩ (zs ++ [201, 202]) := At.owned h.2.1
theorem HeldB.txt (h : HeldB w wr g c n zs) : Txt wr (some ⟨g, 0, none⟩) n c zs := ⟨h.1, by have := h.cap; omega, h.cap.2, .inr ⟨_, rfl, h.atAll.left⟩⟩
theorem HeldB.cell (h : HeldB w wr g c n zs) {i : Nat} (hi : i < n) : wr.cell? ⟨g, i, none⟩ = some (.int .u8 ((bAt zs i).toNat : Int)) := by
  obtain ⟨b, o, e, hc⟩ := h.txt.cellAt hi
  cases e
  rw [Nat.zero_add] at hc
  exact hc
theorem HeldB.free (h : HeldB w wr g c n zs) (i : Nat) : wr.frozen? ⟨g, i, none⟩ = false := h.2.1.frozenAt i
theorem u8s_set (l : List UInt8) (i : Nat) (d : UInt8) : u8s (l.set i d) = (u8s l).set i (.int .u8 (d.toNat : Int)) := by unfold u8s; rw [List.map_set]
theorem HeldB.set (h : HeldB w wr g c n zs) {i : Nat} (hi : i < n) (d : UInt8) : HeldB w (wr.setCell ⟨g, i, none⟩ (.int .u8 (d.toNat : Int))) g c n (zs.set i d) := by
  obtain ⟨h1, h3, h4⟩ := h
  refine ⟨by simp [h1], ?_, h4.setCell (h3.lt g rfl).1 _⟩
  have := (h3.stored i (.int .u8 (d.toNat : Int))).1
  rw [← u8s_set, List.set_append_left _ _ (by omega)] at this
  exact this
end

/-- a byte that is made another one -/
theorem ret_none {w w' : World} {e : Ending} (h : ∃ v, e = .returned v) : ∃ v, e = .returned v := h
def OtherP (w wr : World) (g c n : Nat) (e : Ending) (w' : World) : Prop := (∃ v, e = .returned v) ∧ ∃ ys, HeldB w w' g c n ys ∧ (∀ b, b ≠ g → b < wr.heap.size → w'.heap[b]? = wr.heap[b]?) ∧ wr.heap.size ≤ w'.heap.size
def OtherI (w wr wi : World) (g c n : Nat) (ys : List UInt8) : Prop := HeldB w wi g c n ys ∧ (∀ b, b ≠ g → b < wr.heap.size → wi.heap[b]? = wr.heap[b]?) ∧ wr.heap.size ≤ wi.heap.size
theorem u8_sum (d : UInt8) (k : Nat) (h : d.toNat < 125) : ((UInt8.ofNat (d.toNat + 1 + k % 2)).toNat : Int) = (d.toNat : Int) + 1 + (k : Int) % 2 := by
  have : (UInt8.ofNat (d.toNat + 1 + k % 2)).toNat = d.toNat + 1 + k % 2 := by simp; omega
  rw [this]; omega
set_option maxHeartbeats 2000000 in
theorem other_any (w wr : World) (g c n : Nat) (zs : List UInt8) (h : HeldB w wr g c n zs) (hr : n ≤ 140737488351232) :
    Calls Tryd.prog 12 #[.slice (some ⟨g, 0, none⟩) n c] wr (OtherP w wr g c n) := by
  have H := Lib.hid h
  obtain ⟨hc1, hc2⟩ := h.cap
  unfold maxLen at hc2
  obtain ⟨wo, hwo⟩ : ∃ wo : World, wo = wr := ⟨_, rfl⟩
  rw [← hwo] at H ⊢
  clear h hwo wr
  go_enter Tryd.func12, Tryd.ntmps12
  go_wp2_with fail
  go_loopw [2] (fun i wr => ∃ (k : Nat) (ys : List UInt8), i = .int .i64 k ∧ k ≤ n ∧ Hid (OtherI w wo wr g c n ys)) (fun i _ => n - (intOf i).toNat)
  case atStart => exact ⟨0, zs, rfl, Nat.zero_le _, Lib.hid ⟨H.out, fun _ _ _ => rfl, Nat.le_refl _⟩⟩
  case round =>
    obtain ⟨k, ys, rfl, hk, HI⟩ := hrel
    rcases Nat.lt_or_ge k n with hlt | hge
    · have hcell := HI.out.1.cell hlt
      have hfz := HI.out.1.free k
      obtain ⟨d, hd⟩ : ∃ d, d = bAt ys k := ⟨_, rfl⟩
      rw [← hd] at hcell
      clear hd
      have hdl : d.toNat < 256 := d.toNat_lt
      by_cases h1 : 32 < d.toNat
      · have t1 : decide ((32 : Int) < (d.toNat : Int)) = true := by rw [decide_eq_true_eq]; omega
        have t1' : decide (32 < d.toNat) = true := by rw [decide_eq_true_eq]; omega
        by_cases h2 : d.toNat < 125
        · have t2 : decide ((d.toNat : Int) < 125) = true := by rw [decide_eq_true_eq]; omega
          have t2' : decide (d.toNat < 125) = true := by rw [decide_eq_true_eq]; omega
          have hset := HI.out.1.set hlt (UInt8.ofNat (d.toNat + 1 + k % 2))
          rw [u8_sum d k h2] at hset
          have hI2 : OtherI w wo (wr.setCell ⟨g, k, none⟩ (.int .u8 ((d.toNat : Int) + 1 + (k : Int) % 2))) g c n _ := ⟨hset, fun b hb hlt => by
            rw [← HI.out.2.1 b hb hlt]
            exact Below.heap_setCell _ _ _ b (fun e => hb e), by have := HI.out.2.2; simpa using this⟩
          have HI2 := Lib.hid hI2
          clear hset hI2
          go_wp2_with fail
          go_roundw
          case rel => exact ⟨k + 1, _, by go_num, hlt, HI2⟩
          case measure => simp [intOf]; omega
        · have t2 : decide ((d.toNat : Int) < 125) = false := by rw [decide_eq_false_iff_not]; omega
          have t2' : decide (d.toNat < 125) = false := by rw [decide_eq_false_iff_not]; omega
          go_wp2_with fail
          go_roundw
          case rel => exact ⟨k + 1, ys, by go_num, hlt, HI⟩
          case measure => simp [intOf]; omega
      · have t1 : decide ((32 : Int) < (d.toNat : Int)) = false := by rw [decide_eq_false_iff_not]; omega
        have t1' : decide (32 < d.toNat) = false := by rw [decide_eq_false_iff_not]; omega
        go_wp2_with fail
        go_roundw
        case rel => exact ⟨k + 1, ys, by go_num, hlt, HI⟩
        case measure => simp [intOf]; omega
    · obtain rfl : k = n := by omega
      go_wp2_with fail
      refine bodyPost_ret (results_none rfl _ _ _) rfl ?_
      exact ⟨⟨_, rfl⟩, ys, HI.out.1, HI.out.2.1, HI.out.2.2⟩
end Go.Proofs.YtkhghbeojfgkhaaDoor
