/- The walks of lent and kept. -/
import Derived.Test.YtddeoemkjedonaaGreatDoorRows
import Derived.Test.YtddeoemkjedonaaGreatDoorMQuotePlain
import Derived.WalkKit
import Derived.WalkSpells
import Derived.WalkLawsBesides
import Derived.Lib.Hide
import Derived.Laws.AppendOwnNone
import Derived.Laws.IdiomStrings
import Derived.RangeFuncBox
namespace Go.Proofs.YtddeoemkjedonaaGreatDoor
open Go.RowKit

theorem info5' : (Tryz.prog.info? 5).map (fun i => (i.zero, i.size, i.bytes)) = some (some (.int .u8 0), 1, 1) := by kernel_rfl

/-- the cells of a new block -/
theorem cells_new' (w : World) (l : List Value) (t : TypeId) : ∀ j u, l[j]? = some u → (w.alloc (.cells l.toArray t)).cell? ((⟨w.heap.size, 0, none⟩ : Addr).add j) = some u := by
  intro j u h
  have hadd : (⟨w.heap.size, 0, none⟩ : Addr).add j = ⟨w.heap.size, j, none⟩ := by unfold Addr.add; split <;> simp_all
  rw [hadd, cell_of_row _ _ j _ _ _ (heap_alloc_new w _)]
  simpa using h

/-- what lent hands over: a row of the call's own, the bytes and the two marks behind them -/
def Lent (w w' : World) (n : Nat) (l : List UInt8) (e : Ending) : Prop :=
  ∃ g cap, e = .returned (.slice (some ⟨g, 0, none⟩) n cap) ∧ n + 2 ≤ cap ∧ w.heap.size ≤ g ∧ w'.ownsRow w.heap.size 5 1 (.slice (some ⟨g, 0, none⟩) (n + 2) cap) (n + 2) (u8s (l ++ [201, 202])) ∧ Below w.heap.size w w'

theorem lent_any (a : Option Addr) (n cap : Nat) (l : List UInt8) (w : World) (ht : Txt w a n cap l) (hr : n ≤ 140737488351232) :
    Calls Tryz.prog 4 #[.slice a n cap] w fun e w' => Lent w w' n l e := by
  obtain ⟨i0, hi, hz0, hz1, hz2⟩ := info_parts info5'
  obtain ⟨hl, hnc, hm, h4⟩ := ht
  rcases h4 with ⟨rfl, rfl, rfl⟩ | ⟨x, rfl, hx⟩
  · obtain rfl : l = [] := List.eq_nil_of_length_eq_zero hl
    go_enter Tryz.func4, Tryz.ntmps4
    go_wp2_with (first | (at_builtin; refine wpList_append_own_none rfl (.tmp 4) (.tmp 5) 22 rfl w.heap.size 5 i0 1 Tryz.underlying22 hi (.slice none 0 0) 0 [] rfl (World.ownsRow_nil _ _ _ _) rfl ?_) | (at_builtin; refine wpList_append_own _ rfl (.tmp 6) (.tmp 7) 22 rfl w.heap.size 5 i0 (.int .u8 0) 1 1 Tryz.underlying22 hi hz0 hz1 hz2 rfl (by decide) _ _ _ rfl ((World.ownsRow_nil w w.heap.size 5 1).alloc _) ⟨w.heap.size, 0, none⟩ 2 2 (u8s [201, 202]) rfl rfl (cells_new' _ _ _) (u8s_one _) (by unfold maxLen; omega) (by omega) (by simp <;> omega) ?_))
    intro v' w1 hown hgrow _
    obtain ⟨g, c, rfl⟩ := ownsRow_succ hown
    have hb : Below w.heap.size w w1 := ((Below.refl _ w).alloc (Nat.le_refl _) _).grown hgrow (by simp) (fun b hb => by simp [Value.ownBlock] at hb)
    have hlt := (hown.lt g rfl).1
    have hnc2 : (0 : Int) ≤ (c : Int) := by omega
    have H : Hid (w1.ownsRow w.heap.size 5 1 (.slice (some ⟨g, 0, none⟩) (0 + 2) c) (0 + 2) ([] ++ u8s [201, 202])) := hown
    have hc2 : 2 ≤ c := by
      rcases hown.2 with ⟨h, _⟩ | ⟨_, _, _, he, _, _, h, _⟩
      · cases h
      · cases he; exact h
    clear hown hgrow
    go_wp2
    go_ret
    exact ⟨g, c, rfl, by omega, hlt, H.out, hb⟩
  · go_enter Tryz.func4, Tryz.ntmps4
    go_wp2_with (at_builtin; refine wpList_append_own _ rfl (.tmp 4) (.tmp 5) 22 rfl w.heap.size 5 i0 (.int .u8 0) 1 1 Tryz.underlying22 hi hz0 hz1 hz2 rfl (by decide) _ _ _ rfl (World.ownsRow_nil _ _ _ _) x n cap (u8s l) rfl (by simp [u8s_length, hl]) hx.cells (u8s_one _) (by unfold maxLen; omega) (by omega) (Nat.le_refl _) ?_)
    intro v1 w1 hown1 hgrow1 _
    try simp only [Nat.zero_add, List.nil_append] at hown1
    have hb1 : Below w.heap.size w w1 := (Below.refl _ w).grown hgrow1 (Nat.le_refl _) (fun b hb => by simp [Value.ownBlock] at hb)
    have hsz := hb1.size
    go_wp2_with (at_builtin; refine wpList_append_own _ rfl (.tmp 6) (.tmp 7) 22 rfl w.heap.size 5 i0 (.int .u8 0) 1 1 Tryz.underlying22 hi hz0 hz1 hz2 rfl (by decide) _ _ _ rfl (hown1.alloc _) ⟨w1.heap.size, 0, none⟩ 2 2 (u8s [201, 202]) rfl rfl (cells_new' _ _ _) (u8s_one _) (by unfold maxLen; omega) (by omega) (by simp <;> omega) ?_)
    intro v' w2 hown hgrow _
    obtain ⟨g, c, rfl⟩ := ownsRow_succ hown
    have hb : Below w.heap.size w w2 := (hb1.alloc hsz _).grown hgrow (by simp; omega) (fun b hb => (hown1.lt b hb).1)
    have hlt := (hown.lt g rfl).1
    rw [← u8s_append] at hown
    have hc2 : n + 2 ≤ c := by
      rcases hown.2 with ⟨h, _⟩ | ⟨_, _, _, he, _, _, h, _⟩
      · cases h
      · cases he; exact h
    have H : Hid (w2.ownsRow w.heap.size 5 1 (.slice (some ⟨g, 0, none⟩) (n + 2) c) (n + 2) (u8s (l ++ [201, 202]))) := hown
    clear hown hgrow hown1 hgrow1 hx
    go_wp2
    go_ret
    exact ⟨g, c, rfl, hc2, hlt, H.out, hb⟩

theorem text_of {a : Option Addr} {n cap : Nat} {l : List UInt8} {w : World} (ht : Txt w a n cap l) :
    (convert 22 9 (.slice a n cap)).run Tryz.prog w = .ok (.string ⟨l.toArray⟩) w := by
  obtain ⟨hl, hnc, hm, h4⟩ := ht
  rcases h4 with ⟨rfl, rfl, rfl⟩ | ⟨x, rfl, hx⟩
  · obtain rfl : l = [] := List.eq_nil_of_length_eq_zero hl
    exact run_convert_bytes_nil w 22 5 Tryz.underlying22 Tryz.underlying5 0 0 9 Tryz.underlying9
  · subst hl
    exact run_convert_bytes_back w 22 9 5 x cap l Tryz.underlying22 Tryz.underlying5 Tryz.underlying9 hx

theorem elem_text : Tryz.prog.underlying 22 = some (.slice (Tryz.prog.elem 22)) := by
  have h := Tryz.underlying22
  simp [Program.elem, h]
theorem elem_is : Tryz.prog.elem 22 = 5 := by
  have h := Tryz.underlying22
  simp [Program.elem, h]
theorem map_block (a : Addr) (k : Nat) (i : Nat) : (a.add k).add i = a.add (k + i) := by
  unfold Addr.add
  split <;> split <;> simp_all <;> omega

theorem txt_drop {w : World} {a : Option Addr} {n cap : Nat} {l : List UInt8} (k : Nat) (ht : Txt w a n cap l) (hk : k ≤ n) :
    Txt w (if cap = k then a else a.map (·.add k)) (n - k) (cap - k) (l.drop k) := by
  obtain ⟨hl, hnc, hm, h4⟩ := ht
  refine ⟨by simp; omega, by omega, by omega, ?_⟩
  rcases h4 with ⟨rfl, h0, h1⟩ | ⟨x, rfl, hx⟩
  · left
    refine ⟨by split <;> rfl, by omega, by omega⟩
  · right
    by_cases hc : cap = k
    · rw [if_pos hc]
      refine ⟨x, rfl, fun i hi => ?_⟩
      simp at hi
      omega
    · rw [if_neg hc]
      refine ⟨x.add k, rfl, fun i hi => ?_⟩
      have hi' : k + i < l.length := by simp at hi; omega
      have := hx (k + i) hi'
      rw [map_block, this]
      simp
theorem txt_take {w : World} {a : Option Addr} {n cap : Nat} {l : List UInt8} (k : Nat) (ht : Txt w a n cap l) (hk : k ≤ n) : Txt w a k cap (l.take k) := by
  obtain ⟨hl, hnc, hm, h4⟩ := ht
  refine ⟨by simp; omega, by omega, hm, ?_⟩
  rcases h4 with ⟨rfl, h0, h1⟩ | ⟨x, rfl, hx⟩
  · exact .inl ⟨rfl, by omega, h1⟩
  · exact .inr ⟨x, rfl, hx.take k⟩
theorem txt_none (w : World) : Txt w none 0 0 [] := ⟨rfl, Nat.le_refl _, Nat.zero_le _, .inl ⟨rfl, rfl, rfl⟩⟩

/-- 'b[k:]' -/
theorem slice_from {w : World} {a : Option Addr} {n cap : Nat} {l : List UInt8} (k : Nat) (ht : Txt w a n cap l) (hk : k ≤ n) :
    ∃ a', (∀ w', (Instr.slice 22 (.slice a n cap) (some (.int .i64 (k : Int))) none none).run Tryz.prog w' = .ok (.slice a' (n - k) (cap - k)) w') ∧ Txt w a' (n - k) (cap - k) (l.drop k) := by
  obtain ⟨hl, hnc, hm, h4⟩ := ht
  refine ⟨if cap = k then a else a.map (·.add (k * 1)), fun w' => ?_, ?_⟩
  · rw [run_slice_l w' _ a n cap elem_text .i64 k (by omega) (by omega), elem_is, Tryz.sizeOf5]
    simp [Result.andThen, sliced]
  · refine ⟨by simp; omega, by omega, by omega, ?_⟩
    rcases h4 with ⟨rfl, h0, h1⟩ | ⟨x, rfl, hx⟩
    · left
      refine ⟨by split <;> rfl, by omega, by omega⟩
    · right
      by_cases hc : cap = k
      · rw [if_pos hc]
        refine ⟨x, rfl, fun i hi => ?_⟩
        simp at hi
        omega
      · rw [if_neg hc]
        refine ⟨x.add (k * 1), rfl, fun i hi => ?_⟩
        have hi' : k + i < l.length := by simp at hi; omega
        have := hx (k + i) hi'
        rw [Nat.mul_one, map_block, this]
        simp

/-- 'b[i:j]' -/
theorem slice_mid {w : World} {a : Option Addr} {n cap : Nat} {l : List UInt8} (i j : Nat) (ht : Txt w a n cap l) (hij : i ≤ j) (hj : j ≤ n) :
    ∃ a', (∀ w', (Instr.slice 22 (.slice a n cap) (some (.int .i64 (i : Int))) (some (.int .i64 (j : Int))) none).run Tryz.prog w' = .ok (.slice a' (j - i) (cap - i)) w') ∧ Txt w a' (j - i) (cap - i) ((l.drop i).take (j - i)) := by
  obtain ⟨hl, hnc, hm, h4⟩ := ht
  refine ⟨if cap = i then a else a.map (·.add (i * 1)), fun w' => ?_, ?_⟩
  · rw [run_slice_lh w' _ a n cap elem_text .i64 .i64 i j (by omega) (by omega) (by omega), elem_is, Tryz.sizeOf5]
    simp [Result.andThen, sliced]
  · refine ⟨by simp; omega, by omega, by omega, ?_⟩
    rcases h4 with ⟨rfl, h0, h1⟩ | ⟨x, rfl, hx⟩
    · left
      refine ⟨by split <;> rfl, by omega, by omega⟩
    · right
      by_cases hc : cap = i
      · rw [if_pos hc]
        refine ⟨x, rfl, fun m hm' => ?_⟩
        simp at hm'
        omega
      · rw [if_neg hc]
        refine ⟨x.add (i * 1), rfl, fun m hm' => ?_⟩
        have hm2 : i + m < l.length := by simp at hm'; omega
        have := hx (i + m) hm2
        rw [Nat.mul_one, map_block, this]
        simp

/-- an owned row is a text -/
theorem txt_of_owned {w : World} {base n c : Nat} {a : Option Addr} {l : List UInt8} (hown : w.ownsRow base 5 1 (.slice a n c) n (u8s l)) : Txt w a n c l := by
  have hl : l.length = n := by have := hown.1; simp [u8s_length] at this; exact this
  rcases hown.2 with ⟨h, h0⟩ | ⟨g, cap, cur, he, hb, hg, hn, hc, hs, ht⟩
  · cases h
    exact ⟨hl, by omega, Nat.zero_le _, .inl ⟨rfl, rfl, rfl⟩⟩
  · cases he
    exact ⟨hl, hn, hc, .inr ⟨_, rfl, At.owned hown⟩⟩

theorem kept_any (g n c cap : Nat) (a : Option Addr) (l : List UInt8) (w : World) (hr : n ≤ 140737488351232) (hg : At w ⟨g, 0, none⟩ (l ++ [201, 202])) (hc : n + 2 ≤ c) (ht : Txt w a n cap l) :
    Calls Tryz.prog 8 #[.slice (some ⟨g, 0, none⟩) n c, .slice a n cap] w fun e w' => e = .returned (.bool true) ∧ w = w' := by
  have hl := ht.1
  have t1 := text_of ht
  obtain ⟨s, hs⟩ : ∃ s : ByteArray, s = ⟨l.toArray⟩ := ⟨_, rfl⟩
  rw [← hs] at t1
  have t3 : (convert 22 9 (.slice (some ⟨g, 0, none⟩) n c)).run Tryz.prog w = .ok (.string s) w := by
    rw [hs, ← hl]
    exact run_convert_bytes_back w 22 9 5 ⟨g, 0, none⟩ c l Tryz.underlying22 Tryz.underlying5 Tryz.underlying9 hg.left
  have hcells := (hg.spot (by simp)).2
  have c1 := hcells n (by simp; omega)
  have c2 := hcells (n + 1) (by simp; omega)
  simp only [Nat.zero_add] at c1 c2
  have e1 : (l ++ [201, 202])[n]'(by simp; omega) = 201 := by subst hl; simp
  have e2 : (l ++ [201, 202])[n + 1]'(by simp; omega) = 202 := by subst hl; simp
  rw [e1] at c1
  rw [e2] at c2
  have c3 : w.cell? ⟨g, n, none⟩ = some (.int .u8 201) := c1
  have c4 : w.cell? ⟨g, n + 1, none⟩ = some (.int .u8 202) := c2
  clear c1 c2 e1 e2 hcells hs hl ht hg
  go_enter Tryz.func8, Tryz.ntmps8
  go_wp2
  go_ret
  exact ⟨rfl, rfl⟩
end Go.Proofs.YtddeoemkjedonaaGreatDoor
/- The walks of byteAt, isBlank, isLetter, isDigit, isWord. -/
namespace Go.Proofs.YtddeoemkjedonaaGreatDoor
open Go.RowKit
set_option maxRecDepth 100000

theorem byteAt_any (a : Option Addr) (n cap i : Nat) (l : List UInt8) (w : World) (ht : Txt w a n cap l) :
    Calls Tryz.prog 56 #[.slice a n cap, .int .i64 i] w fun e w' => e = .returned (.int .u8 (bAt l i).toNat) ∧ w = w' := by
  obtain ⟨hl, hnc, hm, h4⟩ := ht
  by_cases hi : i < n
  · rw [bAt_lt (by omega)]
    rcases h4 with ⟨_, h0, _⟩ | ⟨x, rfl, hx⟩
    · omega
    · obtain ⟨b, o, s⟩ := x
      obtain ⟨rfl, hc⟩ := hx.spot (by omega)
      have hcell := hc i (by omega)
      clear hc hx
      subst hl
      go_enter Tryz.func56, Tryz.ntmps56
      go_wp2
      go_ret
      exact ⟨rfl, rfl⟩
  · rw [bAt_ge (by omega)]
    clear h4
    go_enter Tryz.func56, Tryz.ntmps56
    go_wp2
    go_ret
    exact ⟨rfl, rfl⟩

theorem byteAt_int (a : Option Addr) (n cap : Nat) (z : Int) (i : Nat) (hz : z = (i : Int)) (l : List UInt8) (w : World) (ht : Txt w a n cap l) :
    Calls Tryz.prog 56 #[.slice a n cap, .int .i64 z] w fun e w' => e = .returned (.int .u8 (bAt l i).toNat) ∧ w = w' := by
  subst hz
  exact byteAt_any a n cap i l w ht

theorem u8_ne {c : UInt8} {k : Nat} (h : c.toNat ≠ k) (hk : k < 256) : (c == UInt8.ofNat k) = false := by
  rw [beq_eq_false_iff_ne]
  intro e
  apply h
  rw [e]
  simp
  omega
theorem u8_eq {c : UInt8} {k : Nat} (h : c.toNat = k) : (c == UInt8.ofNat k) = true := by
  rw [beq_iff_eq, ← h]
  simp

theorem u8_neq {c d : UInt8} (h : c ≠ d) : ((c.toNat : Int) == (d.toNat : Int)) = false := by
  rw [beq_eq_false_iff_ne]
  intro e
  exact h (UInt8.toNat_inj.1 (by omega))
theorem u8_neqn {c d : UInt8} (h : c ≠ d) : ((c.toNat : Int) != (d.toNat : Int)) = true := by
  rw [bne_iff_ne]
  intro e
  exact h (UInt8.toNat_inj.1 (by omega))

theorem isDigit_any (c : UInt8) (w : World) : Calls Tryz.prog 71 #[.int .u8 c.toNat] w fun e w' => e = .returned (.bool (digitB c)) ∧ w = w' := by
  have hc := c.toNat_lt
  unfold digitB
  by_cases h1 : 48 ≤ c.toNat
  · by_cases h2 : c.toNat ≤ 57 <;>
    · go_enter Tryz.func71, Tryz.ntmps71
      go_wp2
      go_ret
      exact ⟨by simp [h1, h2]; omega, rfl⟩
  · go_enter Tryz.func71, Tryz.ntmps71
    go_wp2
    go_ret
    exact ⟨by simp [h1], rfl⟩

theorem isLetter_any (c : UInt8) (w : World) : Calls Tryz.prog 70 #[.int .u8 c.toNat] w fun e w' => e = .returned (.bool (letterB c)) ∧ w = w' := by
  have hc := c.toNat_lt
  have h0 : c.toNat < 65 ∨ (65 ≤ c.toNat ∧ c.toNat ≤ 90) ∨ (90 < c.toNat ∧ c.toNat < 97) ∨ (97 ≤ c.toNat ∧ c.toNat ≤ 122) ∨ 122 < c.toNat := by omega
  have hb : letterB c = true ∨ letterB c = false := by cases letterB c <;> simp
  unfold letterB
  rcases h0 with h1 | ⟨h1, h2⟩ | ⟨h1, h2⟩ | ⟨h1, h2⟩ | h1
  · have d1 : decide ((65 : Int) ≤ c.toNat) = false := by simp; omega
    have d2 : decide ((97 : Int) ≤ c.toNat) = false := by simp; omega
    go_enter Tryz.func70, Tryz.ntmps70
    go_wp2
    go_ret
    exact ⟨by simp; omega, rfl⟩
  · have d1 : decide ((65 : Int) ≤ c.toNat) = true := by simp; omega
    have d2 : decide ((c.toNat : Int) ≤ 90) = true := by simp; omega
    go_enter Tryz.func70, Tryz.ntmps70
    go_wp2
    go_ret
    exact ⟨by simp; omega, rfl⟩
  · have d1 : decide ((65 : Int) ≤ c.toNat) = true := by simp; omega
    have d2 : decide ((c.toNat : Int) ≤ 90) = false := by simp; omega
    have d3 : decide ((97 : Int) ≤ c.toNat) = false := by simp; omega
    go_enter Tryz.func70, Tryz.ntmps70
    go_wp2
    go_ret
    exact ⟨by simp; omega, rfl⟩
  · have d1 : decide ((65 : Int) ≤ c.toNat) = true := by simp; omega
    have d2 : decide ((c.toNat : Int) ≤ 90) = false := by simp; omega
    have d3 : decide ((97 : Int) ≤ c.toNat) = true := by simp; omega
    have d4 : decide ((c.toNat : Int) ≤ 122) = true := by simp; omega
    go_enter Tryz.func70, Tryz.ntmps70
    go_wp2
    go_ret
    exact ⟨by simp; omega, rfl⟩
  · have d1 : decide ((65 : Int) ≤ c.toNat) = true := by simp; omega
    have d2 : decide ((c.toNat : Int) ≤ 90) = false := by simp; omega
    have d3 : decide ((97 : Int) ≤ c.toNat) = true := by simp; omega
    have d4 : decide ((c.toNat : Int) ≤ 122) = false := by simp; omega
    go_enter Tryz.func70, Tryz.ntmps70
    go_wp2
    go_ret
    exact ⟨by simp; omega, rfl⟩

theorem isBlank_any (c : UInt8) (w : World) : Calls Tryz.prog 69 #[.int .u8 c.toNat] w fun e w' => e = .returned (.bool (blankB c)) ∧ w = w' := by
  have f (k : Nat) (hk : k < 256) : (c == UInt8.ofNat k) = ((c.toNat : Int) == (k : Int)) := by
    by_cases h : c.toNat = k
    · rw [u8_eq h, h]; simp
    · rw [u8_ne h hk]; symm; rw [beq_eq_false_iff_ne]; omega
  have f32 := f 32 (by omega)
  have f9 := f 9 (by omega)
  have f10 := f 10 (by omega)
  have f13 := f 13 (by omega)
  have hB : blankB c = (((c.toNat : Int) == 32) || ((c.toNat : Int) == 9) || ((c.toNat : Int) == 10) || ((c.toNat : Int) == 13)) := by
    unfold blankB
    rw [show (32 : UInt8) = UInt8.ofNat 32 from rfl, show (9 : UInt8) = UInt8.ofNat 9 from rfl, show (10 : UInt8) = UInt8.ofNat 10 from rfl, show (13 : UInt8) = UInt8.ofNat 13 from rfl, f32, f9, f10, f13]
    rfl
  clear f f32 f9 f10 f13
  rw [hB]
  clear hB
  cases e1 : ((c.toNat : Int) == 32) <;> cases e2 : ((c.toNat : Int) == 9) <;> cases e3 : ((c.toNat : Int) == 10) <;> cases e4 : ((c.toNat : Int) == 13) <;>
  · go_enter Tryz.func69, Tryz.ntmps69
    go_wp2
    go_ret
    exact ⟨rfl, rfl⟩

theorem isWord_any (c : UInt8) (w : World) : Calls Tryz.prog 55 #[.int .u8 c.toNat] w fun e w' => e = .returned (.bool (wordB c)) ∧ w = w' := by
  unfold wordB
  have f95 : (c == 95) = ((c.toNat : Int) == 95) := by
    by_cases h : c.toNat = 95
    · rw [show (95 : UInt8) = UInt8.ofNat 95 from rfl, u8_eq h, h]; rfl
    · rw [show (95 : UInt8) = UInt8.ofNat 95 from rfl, u8_ne h (by omega)]; symm; rw [beq_eq_false_iff_ne]; omega
  rw [f95]
  clear f95
  have hL := Lib.hid (isLetter_any c w)
  have hD := Lib.hid (isDigit_any c w)
  generalize letterB c = bl at *
  generalize digitB c = bd at *
  cases bl
  · cases bd
    · cases e1 : ((c.toNat : Int) == 95) <;>
      · go_enter Tryz.func55, Tryz.ntmps55
        go_wp2_with (first | (go_at_call 70; refine hL.out.mono ?_; rintro e w' ⟨rfl, rfl⟩) | (go_at_call 71; refine hD.out.mono ?_; rintro e w' ⟨rfl, rfl⟩))
        go_ret
        exact ⟨rfl, rfl⟩
    · go_enter Tryz.func55, Tryz.ntmps55
      go_wp2_with (first | (go_at_call 70; refine hL.out.mono ?_; rintro e w' ⟨rfl, rfl⟩) | (go_at_call 71; refine hD.out.mono ?_; rintro e w' ⟨rfl, rfl⟩))
      go_ret
      exact ⟨rfl, rfl⟩
  · go_enter Tryz.func55, Tryz.ntmps55
    go_wp2_with (first | (go_at_call 70; refine hL.out.mono ?_; rintro e w' ⟨rfl, rfl⟩) | (go_at_call 71; refine hD.out.mono ?_; rintro e w' ⟨rfl, rfl⟩))
    go_ret
    exact ⟨rfl, rfl⟩
end Go.Proofs.YtddeoemkjedonaaGreatDoor
