/- The walks of lent and kept. -/
import Derived.Test.YtloofajopgbfmaaRows
import Derived.Test.YtloofajopgbfmaaLinePlain
import Derived.WalkKit
import Derived.WalkSpells
import Derived.WalkLawsBesides
import Derived.Lib.Hide
import Derived.Laws.AppendOwnNone
import Derived.Laws.IdiomStrings
import Derived.RangeFuncBox
namespace Go.Proofs.Ytloofajopgbfmaa
set_option linter.all false
open Go.RowKit

theorem info5' : (Try.prog.info? 5).map (fun i => (i.zero, i.size, i.bytes)) = some (some (.int .u8 0), 1, 1) := by kernel_rfl

/-- the cells of a new block -/
theorem cells_new' (w : World) (l : List Value) (t : TypeId) : ∀ j u, l[j]? = some u → (w.alloc (.cells l.toArray t)).cell? ((⟨w.heap.size, 0, none⟩ : Addr).add j) = some u := by
  intro j u h
  have hadd : (⟨w.heap.size, 0, none⟩ : Addr).add j = ⟨w.heap.size, j, none⟩ := by unfold Addr.add; split <;> simp_all
  rw [hadd, cell_of_row _ _ j _ _ _ (heap_alloc_new w _)]
  simpa using h

/-- what lent hands over: a row of the call's own, the bytes and the two marks behind them -/
def Lent (w w' : World) (n : Nat) (l : List UInt8) (e : Ending) : Prop :=
  ∃ g cap, e = .returned (.slice (some ⟨g, 0, none⟩) n cap) ∧ n + 2 ≤ cap ∧ w.heap.size ≤ g ∧ w'.ownsRow w.heap.size 5 1 (.slice (some ⟨g, 0, none⟩) (n + 2) cap) (n + 2) (u8s (l ++ [201, 202])) ∧ Below w.heap.size w w'

theorem lent_any (a : Option Addr) (n cap : Nat) (l : List UInt8) (w : World) (ht : Txt w a n cap l) (hr : n ≤ 140737488351232) :
    Calls Try.prog 6 #[.slice a n cap] w fun e w' => Lent w w' n l e := by
  obtain ⟨i0, hi, hz0, hz1, hz2⟩ := info_parts info5'
  obtain ⟨hl, hnc, hm, h4⟩ := ht
  rcases h4 with ⟨rfl, rfl, rfl⟩ | ⟨x, rfl, hx⟩
  · obtain rfl : l = [] := List.eq_nil_of_length_eq_zero hl
    go_enter Try.func6, Try.ntmps6
    go_wp2_with (first | (at_builtin; refine wpList_append_own_none rfl (.tmp 4) (.tmp 5) 22 rfl w.heap.size 5 i0 1 Try.underlying22 hi (.slice none 0 0) 0 [] rfl (World.ownsRow_nil _ _ _ _) rfl ?_) | (at_builtin; refine wpList_append_own _ rfl (.tmp 6) (.tmp 7) 22 rfl w.heap.size 5 i0 (.int .u8 0) 1 1 Try.underlying22 hi hz0 hz1 hz2 rfl (by decide) _ _ _ rfl ((World.ownsRow_nil w w.heap.size 5 1).alloc _) ⟨w.heap.size, 0, none⟩ 2 2 (u8s [201, 202]) rfl rfl (cells_new' _ _ _) (u8s_one _) (by unfold maxLen; omega) (by omega) (by simp <;> omega) ?_))
    intro v' w1 hown hgrow _
    obtain ⟨g, c, rfl⟩ := ownsRow_succ hown
    have hb : Below w.heap.size w w1 := ((Below.refl _ w).alloc (Nat.le_refl _) _).grown hgrow (by simp) (fun b hb => by simp [Value.ownBlock] at hb)
    have hlt := (hown.lt g rfl).1
    have hnc2 : (0 : Int) ≤ (c : Int) := by omega
    have H : Hid (w1.ownsRow w.heap.size 5 1 (.slice (some ⟨g, 0, none⟩) (0 + 2) c) (0 + 2) ([] ++ u8s [201, 202])) := hown
    have hc2 : 2 ≤ c := by
      rcases hown.2 with ⟨h, _⟩ | ⟨_, _, _, he, _, _, h, _⟩
      · cases h
      · cases he; exact h
    clear hown hgrow
    go_wp2
    go_ret
    exact ⟨g, c, rfl, by omega, hlt, H.out, hb⟩
  · go_enter Try.func6, Try.ntmps6
    go_wp2_with (at_builtin; refine wpList_append_own _ rfl (.tmp 4) (.tmp 5) 22 rfl w.heap.size 5 i0 (.int .u8 0) 1 1 Try.underlying22 hi hz0 hz1 hz2 rfl (by decide) _ _ _ rfl (World.ownsRow_nil _ _ _ _) x n cap (u8s l) rfl (by simp [u8s_length, hl]) hx.cells (u8s_one _) (by unfold maxLen; omega) (by omega) (Nat.le_refl _) ?_)
    intro v1 w1 hown1 hgrow1 _
    try simp only [Nat.zero_add, List.nil_append] at hown1
    have hb1 : Below w.heap.size w w1 := (Below.refl _ w).grown hgrow1 (Nat.le_refl _) (fun b hb => by simp [Value.ownBlock] at hb)
    have hsz := hb1.size
    go_wp2_with (at_builtin; refine wpList_append_own _ rfl (.tmp 6) (.tmp 7) 22 rfl w.heap.size 5 i0 (.int .u8 0) 1 1 Try.underlying22 hi hz0 hz1 hz2 rfl (by decide) _ _ _ rfl (hown1.alloc _) ⟨w1.heap.size, 0, none⟩ 2 2 (u8s [201, 202]) rfl rfl (cells_new' _ _ _) (u8s_one _) (by unfold maxLen; omega) (by omega) (by simp <;> omega) ?_)
    intro v' w2 hown hgrow _
    obtain ⟨g, c, rfl⟩ := ownsRow_succ hown
    have hb : Below w.heap.size w w2 := (hb1.alloc hsz _).grown hgrow (by simp; omega) (fun b hb => (hown1.lt b hb).1)
    have hlt := (hown.lt g rfl).1
    rw [← u8s_append] at hown
    have hc2 : n + 2 ≤ c := by
      rcases hown.2 with ⟨h, _⟩ | ⟨_, _, _, he, _, _, h, _⟩
      · cases h
      · cases he; exact h
    have H : Hid (w2.ownsRow w.heap.size 5 1 (.slice (some ⟨g, 0, none⟩) (n + 2) c) (n + 2) (u8s (l ++ [201, 202]))) := hown
    clear hown hgrow hown1 hgrow1 hx
    go_wp2
    go_ret
    exact ⟨g, c, rfl, hc2, hlt, H.out, hb⟩

theorem text_of {a : Option Addr} {n cap : Nat} {l : List UInt8} {w : World} (ht : Txt w a n cap l) :
    (convert 22 9 (.slice a n cap)).run Try.prog w = .ok (.string ⟨l.toArray⟩) w := by
  obtain ⟨hl, hnc, hm, h4⟩ := ht
  rcases h4 with ⟨rfl, rfl, rfl⟩ | ⟨x, rfl, hx⟩
  · obtain rfl : l = [] := List.eq_nil_of_length_eq_zero hl
    exact run_convert_bytes_nil w 22 5 Try.underlying22 Try.underlying5 0 0 9 Try.underlying9
  · subst hl
    exact run_convert_bytes_back w 22 9 5 x cap l Try.underlying22 Try.underlying5 Try.underlying9 hx

theorem elem_text : Try.prog.underlying 22 = some (.slice (Try.prog.elem 22)) := by
  have h := Try.underlying22
  simp [Program.elem, h]
theorem elem_is : Try.prog.elem 22 = 5 := by
  have h := Try.underlying22
  simp [Program.elem, h]
theorem map_block (a : Addr) (k : Nat) (i : Nat) : (a.add k).add i = a.add (k + i) := by
  unfold Addr.add
  split <;> split <;> simp_all <;> omega

theorem txt_drop {w : World} {a : Option Addr} {n cap : Nat} {l : List UInt8} (k : Nat) (ht : Txt w a n cap l) (hk : k ≤ n) :
    Txt w (if cap = k then a else a.map (·.add k)) (n - k) (cap - k) (l.drop k) := by
  obtain ⟨hl, hnc, hm, h4⟩ := ht
  refine ⟨by simp; omega, by omega, by omega, ?_⟩
  rcases h4 with ⟨rfl, h0, h1⟩ | ⟨x, rfl, hx⟩
  · left
    refine ⟨by split <;> rfl, by omega, by omega⟩
  · right
    by_cases hc : cap = k
    · rw [if_pos hc]
      refine ⟨x, rfl, fun i hi => ?_⟩
      simp at hi
      omega
    · rw [if_neg hc]
      refine ⟨x.add k, rfl, fun i hi => ?_⟩
      have hi' : k + i < l.length := by simp at hi; omega
      have := hx (k + i) hi'
      rw [map_block, this]
      simp
theorem txt_take {w : World} {a : Option Addr} {n cap : Nat} {l : List UInt8} (k : Nat) (ht : Txt w a n cap l) (hk : k ≤ n) : Txt w a k cap (l.take k) := by
  obtain ⟨hl, hnc, hm, h4⟩ := ht
  refine ⟨by simp; omega, by omega, hm, ?_⟩
  rcases h4 with ⟨rfl, h0, h1⟩ | ⟨x, rfl, hx⟩
  · exact .inl ⟨rfl, by omega, h1⟩
  · exact .inr ⟨x, rfl, hx.take k⟩
theorem txt_none (w : World) : Txt w none 0 0 [] := ⟨rfl, Nat.le_refl _, Nat.zero_le _, .inl ⟨rfl, rfl, rfl⟩⟩

/-- 'b[k:]' -/
theorem slice_from {w : World} {a : Option Addr} {n cap : Nat} {l : List UInt8} (k : Nat) (ht : Txt w a n cap l) (hk : k ≤ n) :
    ∃ a', (∀ w', (Instr.slice 22 (.slice a n cap) (some (.int .i64 (k : Int))) none none).run Try.prog w' = .ok (.slice a' (n - k) (cap - k)) w') ∧ Txt w a' (n - k) (cap - k) (l.drop k) := by
  obtain ⟨hl, hnc, hm, h4⟩ := ht
  refine ⟨if cap = k then a else a.map (·.add (k * 1)), fun w' => ?_, ?_⟩
  · rw [run_slice_l w' _ a n cap elem_text .i64 k (by omega) (by omega), elem_is, Try.sizeOf5]
    simp [Result.andThen, sliced]
  · refine ⟨by simp; omega, by omega, by omega, ?_⟩
    rcases h4 with ⟨rfl, h0, h1⟩ | ⟨x, rfl, hx⟩
    · left
      refine ⟨by split <;> rfl, by omega, by omega⟩
    · right
      by_cases hc : cap = k
      · rw [if_pos hc]
        refine ⟨x, rfl, fun i hi => ?_⟩
        simp at hi
        omega
      · rw [if_neg hc]
        refine ⟨x.add (k * 1), rfl, fun i hi => ?_⟩
        have hi' : k + i < l.length := by simp at hi; omega
        have := hx (k + i) hi'
        rw [Nat.mul_one, map_block, this]
        simp

/-- 'b[i:j]' -/
theorem slice_mid {w : World} {a : Option Addr} {n cap : Nat} {l : List UInt8} (i j : Nat) (ht : Txt w a n cap l) (hij : i ≤ j) (hj : j ≤ n) :
    ∃ a', (∀ w', (Instr.slice 22 (.slice a n cap) (some (.int .i64 (i : Int))) (some (.int .i64 (j : Int))) none).run Try.prog w' = .ok (.slice a' (j - i) (cap - i)) w') ∧ Txt w a' (j - i) (cap - i) ((l.drop i).take (j - i)) := by
  obtain ⟨hl, hnc, hm, h4⟩ := ht
  refine ⟨if cap = i then a else a.map (·.add (i * 1)), fun w' => ?_, ?_⟩
  · rw [run_slice_lh w' _ a n cap elem_text .i64 .i64 i j (by omega) (by omega) (by omega), elem_is, Try.sizeOf5]
    simp [Result.andThen, sliced]
  · refine ⟨by simp; omega, by omega, by omega, ?_⟩
    rcases h4 with ⟨rfl, h0, h1⟩ | ⟨x, rfl, hx⟩
    · left
      refine ⟨by split <;> rfl, by omega, by omega⟩
    · right
      by_cases hc : cap = i
      · rw [if_pos hc]
        refine ⟨x, rfl, fun m hm' => ?_⟩
        simp at hm'
        omega
      · rw [if_neg hc]
        refine ⟨x.add (i * 1), rfl, fun m hm' => ?_⟩
        have hm2 : i + m < l.length := by simp at hm'; omega
        have := hx (i + m) hm2
        rw [Nat.mul_one, map_block, this]
        simp

/-- an owned row is a text -/
theorem txt_of_owned {w : World} {base n c : Nat} {a : Option Addr} {l : List UInt8} (hown : w.ownsRow base 5 1 (.slice a n c) n (u8s l)) : Txt w a n c l := by
  have hl : l.length = n := by have := hown.1; simp [u8s_length] at this; exact this
  rcases hown.2 with ⟨h, h0⟩ | ⟨g, cap, cur, he, hb, hg, hn, hc, hs, ht⟩
  · cases h
    exact ⟨hl, by omega, Nat.zero_le _, .inl ⟨rfl, rfl, rfl⟩⟩
  · cases he
    exact ⟨hl, hn, hc, .inr ⟨_, rfl, At.owned hown⟩⟩

theorem kept_any (g n c cap : Nat) (a : Option Addr) (l : List UInt8) (w : World) (hr : n ≤ 140737488351232) (hg : At w ⟨g, 0, none⟩ (l ++ [201, 202])) (hc : n + 2 ≤ c) (ht : Txt w a n cap l) :
    Calls Try.prog 17 #[.slice (some ⟨g, 0, none⟩) n c, .slice a n cap] w fun e w' => e = .returned (.bool true) ∧ w = w' := by
  have hl := ht.1
  have t1 := text_of ht
  obtain ⟨s, hs⟩ : ∃ s : ByteArray, s = ⟨l.toArray⟩ := ⟨_, rfl⟩
  rw [← hs] at t1
  have t3 : (convert 22 9 (.slice (some ⟨g, 0, none⟩) n c)).run Try.prog w = .ok (.string s) w := by
    rw [hs, ← hl]
    exact run_convert_bytes_back w 22 9 5 ⟨g, 0, none⟩ c l Try.underlying22 Try.underlying5 Try.underlying9 hg.left
  have hcells := (hg.spot (by simp)).2
  have c1 := hcells n (by simp; omega)
  have c2 := hcells (n + 1) (by simp; omega)
  simp only [Nat.zero_add] at c1 c2
  have e1 : (l ++ [201, 202])[n]'(by simp; omega) = 201 := by subst hl; simp
  have e2 : (l ++ [201, 202])[n + 1]'(by simp; omega) = 202 := by subst hl; simp
  rw [e1] at c1
  rw [e2] at c2
  have c3 : w.cell? ⟨g, n, none⟩ = some (.int .u8 201) := c1
  have c4 : w.cell? ⟨g, n + 1, none⟩ = some (.int .u8 202) := c2
  clear c1 c2 e1 e2 hcells hs hl ht hg
  go_enter Try.func17, Try.ntmps17
  go_wp2
  go_ret
  exact ⟨rfl, rfl⟩
end Go.Proofs.Ytloofajopgbfmaa
