/- The reference's rows of digits: their walks. -/
import Derived.Test.YtdckenkomjikbaaCkSum
import Derived.Test.YtdckenkomjikbaaCkDigPlain
import Derived.WalkSpells
import Derived.WalkLawsBesides
import Derived.Laws.AppendOwnNone
import Derived.RegionTactic
import Derived.ChangeAlike
import Derived.Deep.QuietTactic
import Derived.BigQuiet
import Derived.RangeFuncBox
namespace Go.Proofs.Ytdckenkomjikbaa
open Go.RowKit
set_option maxRecDepth 100000

theorem info_int : (Try.prog.info? 3).map (fun i => (i.zero, i.size, i.bytes)) = some (some (.int .i64 0), 1, 8) := by kernel_rfl
theorem ints_owned {w : World} {base n c : Nat} {a : Option Addr} {l : List Int} {e : TypeId} (hd : AllIn l) (hown : w.ownsRow base e 1 (.slice a n c) n (l.map (Value.int .i64))) : Ints w a n c l := by
  have hl : l.length = n := by have := hown.1; simp at this; exact this
  rcases hown.2 with ⟨h, h0⟩ | ⟨g, cap, cur, he, hb, hg, hn, hc, hs, ht⟩
  · cases h
    exact ⟨hl, by omega, Nat.zero_le _, hd, .inl ⟨rfl, rfl, rfl⟩⟩
  · cases he
    exact ⟨hl, hn, hc, hd, .inr ⟨_, rfl, IntsAt.owned hown⟩⟩
theorem own_form {w : World} {base e N : Nat} {v : Value} {xs : List Value} (hown : w.ownsRow base e 1 v N xs) : ∃ ba bc, v = .slice ba N bc := by
  rcases hown.2 with ⟨h, h0⟩ | ⟨g, cap, cur, h, _⟩
  · exact ⟨none, 0, by rw [h, h0]⟩
  · exact ⟨_, _, h⟩
/-- the cell of a new block of one -/
theorem cells_one (w : World) (x : Value) (t : TypeId) : ∀ j u, [x][j]? = some u → (w.alloc (.cells #[x] t)).cell? ((⟨w.heap.size, 0, none⟩ : Addr).add j) = some u := by
  intro j u h
  match j, h with
  | 0, h =>
    simp at h
    subst h
    have hadd : (⟨w.heap.size, 0, none⟩ : Addr).add 0 = ⟨w.heap.size, 0, none⟩ := by unfold Addr.add; simp
    rw [hadd, World.cell?_alloc_new]; rfl
theorem map_snoc (l : List Int) (d : Int) : l.map (Value.int .i64) ++ [Value.int .i64 d] = (l ++ [d]).map (Value.int .i64) := by simp

/-- the cells of a slice of ints, by its place -/
theorem Ints.cell {w : World} {a : Option Addr} {n cap : Nat} {l : List Int} (h : Ints w a n cap l) (hn : 0 < n) : ∃ b o, a = some ⟨b, o, none⟩ ∧ ∀ i (h : i < l.length), w.cell? ⟨b, o + i, none⟩ = some (.int .i64 l[i]) := by
  obtain ⟨h1, h2, h3, h5, h4⟩ := h
  rcases h4 with ⟨_, h0, _⟩ | ⟨⟨b, o, s⟩, rfl, hx⟩
  · omega
  · obtain ⟨rfl, hc⟩ := hx.spot (by omega)
    exact ⟨b, o, rfl, hc⟩

theorem digit_any {w : World} {a : Option Addr} {n cap : Nat} {l : List Int} (h : Ints w a n cap l) (k : Nat) :
    Calls Try.prog 44 #[.slice a n cap, .int .i64 k] w fun e w' => e = .returned (.int .i64 (dg l k)) ∧ w = w' := by
  have hl := h.1
  have hm := h.2.2.1
  have hnc := h.2.1
  unfold maxLen at hm
  rcases Nat.lt_or_ge k n with hk | hk
  · obtain ⟨b, o, rfl, hc⟩ := h.cell (by omega)
    have hcell := hc k (by omega)
    have V := Lib.hid (dg_at (l := l) (k := k) (by omega))
    clear hc h
    subst hl
    have t1 : decide (k < l.length) = true := by simpa using hk
    go_enter Try.func44, Try.ntmps44
    go_wp2
    go_ret
    exact ⟨ret1 V.out.symm, rfl⟩
  · have V := Lib.hid (dg_out (l := l) (k := k) (by omega))
    have t1 : decide (k < n) = false := by simpa using hk
    clear h hk hl
    go_enter Try.func44, Try.ntmps44
    go_wp2
    go_ret
    exact ⟨ret1 V.out.symm, rfl⟩

/-- a new row of digits -/
def Row (w w' : World) (v : Value) (ds : List Int) : Prop := ∃ a c, v = .slice a ds.length c ∧ Ints w' a ds.length c ds ∧ Below w.heap.size w w'
def Tog (w : World) (x y : List Int) (e : Ending) (w' : World) : Prop := ∃ v ds, e = .returned v ∧ Row w w' v ds ∧ val ds = val x + val y ∧ Dig ds ∧ (Can x → Can y → Can ds) ∧ (ds.length ≤ x.length + 1 ∨ ds.length ≤ y.length + 1)

set_option maxHeartbeats 2000000 in
theorem tog_any {w : World} {a b : Option Addr} {n m ca cb : Nat} {x y : List Int} (ha : Ints w a n ca x) (hb : Ints w b m cb y) (da : Dig x) (db : Dig y) (hn : n ≤ 1000) (hm : m ≤ 1000) :
    Calls Try.prog 41 #[.slice a n ca, .slice b m cb] w fun e w' => Tog w x y e w' := by
  obtain ⟨i0, hi, hz0, hz1, hz2⟩ := info_parts info_int
  have hl := ha.1
  have hl2 := hb.1
  have HA : Hid (∀ W, Below w.heap.size w W → Ints W a n ca x) := Lib.hid fun W hW => ha.below hW (Nat.le_refl _)
  have HB : Hid (∀ W, Below w.heap.size w W → Ints W b m cb y) := Lib.hid fun W hW => hb.below hW (Nat.le_refl _)
  have HL := Lib.hid hl
  have HL2 := Lib.hid hl2
  clear ha hb hl hl2
  go_enter Try.func41, Try.ntmps41
  go_wp2_with fail
  go_loopw [5, 6, 7] (fun v c i wr => ∃ (k : Nat) (cc : Int) (ds : List Int), i = .int .i64 k ∧ c = .int .i64 cc ∧ 0 ≤ cc ∧ cc ≤ 1 ∧ k ≤ 1001 ∧ Hid (TogR x y k cc ds) ∧ wr.ownsRow w.heap.size 3 1 v ds.length (ds.map (Value.int .i64)) ∧ Below w.heap.size w wr)
    (fun _ _ i _ => 1001 - (intOf i).toNat)
  case atStart => exact ⟨0, 0, [], rfl, rfl, by omega, by omega, by omega, Lib.hid (TogR.start x y), World.ownsRow_nil _ _ _ _, Below.refl _ _⟩
  case round =>
    obtain ⟨k, cc, ds, rfl, rfl, hc0, hc1, hk, HR, hown, hbr⟩ := hrel
    have hsz := hbr.size
    have HBR := Lib.hid hbr
    have HOWN := Lib.hid hown
    have hlen : ds.length ≤ 1001 := by have := HR.out.1; omega
    have K1 := Lib.hid (digit_any (HA.out wr hbr) k)
    have K2 := Lib.hid (digit_any (HB.out wr hbr) k)
    clear hown hbr
    by_cases hc : k < x.length ∨ k < y.length ∨ 0 < cc
    · have HN := Lib.hid (HR.out.step da db hc)
      obtain ⟨e1, e2⟩ := dg_in da k
      obtain ⟨e3, e4⟩ := dg_in db k
      have hk1 : k + 1 ≤ 1001 := by have := HN.out.2.2.2.2.2.2.1; have := HL.out; have := HL2.out; omega
      have hcase : (decide (k < n) = true) ∨ (decide (k < n) = false ∧ decide (k < m) = true) ∨ (decide (k < n) = false ∧ decide (k < m) = false ∧ 0 < cc) := by
        have := HL.out; have := HL2.out
        by_cases h1 : k < n
        · exact .inl (by simpa using h1)
        · by_cases h2 : k < m
          · exact .inr (.inl ⟨by simpa using h1, by simpa using h2⟩)
          · exact .inr (.inr ⟨by simpa using h1, by simpa using h2, by omega⟩)
      clear hc
      rcases hcase with t1 | ⟨t1, t2⟩ | ⟨t1, t2, t3⟩
      all_goals
        go_wp2_with (first
          | (go_at_call 44; (with_reducible refine K1.out.mono ?_); rintro e w' ⟨rfl, rfl⟩)
          | (go_at_call 44; (with_reducible refine K2.out.mono ?_); rintro e w' ⟨rfl, rfl⟩)
          | (at_builtin; refine wpList_append_own _ rfl (.tmp 34) (.tmp 37) 35 rfl w.heap.size 3 i0 (.int .i64 0) 1 8 Try.underlying35 hi hz0 hz1 hz2 rfl (by decide) _ _ _ rfl (HOWN.out.alloc _) ⟨wr.heap.size, 0, none⟩ 1 1 [.int .i64 ((dg x k + dg y k + cc) % 10)] rfl rfl (cells_one _ _ _) (by intro u hu; simp at hu; subst hu; rfl) (by unfold maxLen; omega) (by omega) (by simp; omega) ?_; intro v' w1 hown1 hgrow1 _))
        have hb1 : Below w.heap.size w w1 := (HBR.out.alloc hsz _).grown hgrow1 (by simp; omega) (fun b hb => (HOWN.out.lt b hb).1)
        rw [map_snoc] at hown1
        have hown2 : w1.ownsRow w.heap.size 3 1 v' (ds ++ [(dg x k + dg y k + cc) % 10]).length ((ds ++ [(dg x k + dg y k + cc) % 10]).map (Value.int .i64)) := by simpa using hown1
        clear hown1 hgrow1
        go_roundw
        case rel => exact ⟨k + 1, _, _, by go_num, rfl, HN.out.2.2.1, HN.out.2.2.2.1, hk1, HN, hown2, hb1⟩
        case measure => simp [intOf]; omega
    · have t1 : decide (k < n) = false := by have := HL.out; simp; omega
      have t2 : decide (k < m) = false := by have := HL2.out; simp; omega
      have t3 : decide (0 < cc) = false := by simp; omega
      have HS := Lib.hid (HR.out.stop hc)
      clear hc
      obtain ⟨ba, bc, rfl⟩ := own_form HOWN.out
      go_wp2
      go_ret
      exact ⟨_, ds, rfl, ⟨_, _, rfl, ints_owned (HS.out.2.1.allIn) HOWN.out, HBR.out⟩, HS.out.1, HS.out.2.1, HS.out.2.2.1 da db, HS.out.2.2.2⟩

def Apa (w : World) (x y : List Int) (e : Ending) (w' : World) : Prop := ∃ v ds, e = .returned v ∧ Row w w' v ds ∧ val ds = val x - val y ∧ Dig ds ∧ Can ds

theorem cut_none (a : Option Addr) (cap : Nat) (w : World) :
    Calls Try.prog 45 #[.slice a 0 cap] w fun e w' => e = .returned (.slice a 0 cap) ∧ w = w' := by
  go_enter Try.func45, Try.ntmps45
  go_wp2
  refine wp_loop_rounds 1 ?_
  rw [rounds_succ]
  go_wp2
  go_ret
  exact ⟨rfl, rfl⟩
/-- how many digits a row is cut to -/
def Cut (l : List Int) (k : Nat) : Prop := k ≤ l.length ∧ val (l.take k) = val l ∧ Can (l.take k)
def CutP (x : Addr) (cap : Nat) (l : List Int) (w : World) (e : Ending) (w' : World) : Prop := ∃ k, e = .returned (.slice (some x) k cap) ∧ Cut l k ∧ w = w'
theorem cut_some (b o n cap : Nat) (l : List Int) (w : World) (hl : l.length = n) (hn : 0 < n) (hnc : n ≤ cap) (hm : cap ≤ maxLen) (dl : Dig l) (hc : ∀ i (h : i < l.length), w.cell? ⟨b, o + i, none⟩ = some (.int .i64 l[i])) :
    Calls Try.prog 45 #[.slice (some ⟨b, o, none⟩) n cap] w (CutP ⟨b, o, none⟩ cap l w) := by
  unfold maxLen at hm
  have HL := Lib.hid hl
  clear hl
  go_enter Try.func45, Try.ntmps45
  go_wp2_with fail
  go_loop [0] (fun s => ∃ k : Nat, k ≤ n ∧ s = .slice (some ⟨b, o, none⟩) k cap ∧ Hid (val (l.take k) = val l)) (fun s => match s with | .slice _ k _ => k | _ => 0)
  case atStart => exact ⟨n, Nat.le_refl _, rfl, Lib.hid (by rw [List.take_of_length_le (by rw [HL.out]; omega)])⟩
  case round =>
    obtain ⟨k, hk, rfl, HV⟩ := hrel
    rcases Nat.eq_zero_or_pos k with rfl | hk0
    · go_wp2
      go_ret
      exact ⟨0, rfl, ⟨Nat.zero_le _, HV.out, .inl (by simp)⟩, rfl⟩
    · obtain ⟨m, rfl⟩ : ∃ m, k = m + 1 := ⟨k - 1, by omega⟩
      have hml : m < l.length := by rw [HL.out]; omega
      have hcell := hc m hml
      by_cases h0 : l[m] = 0
      · have t1 : (l[m] == 0) = true := by simp [h0]
        have HN := Lib.hid (cut_more hml h0)
        clear h0
        go_wp2
        go_round
        case rel => exact ⟨m, by omega, rfl, Lib.hid (HN.out.symm.trans HV.out)⟩
        case measure => simp
      · have t1 : (l[m] == 0) = false := by simpa using h0
        have HN := Lib.hid (cut_stop dl hml h0)
        clear h0
        go_wp2
        go_ret
        exact ⟨m + 1, rfl, ⟨hml, HV.out, HN.out⟩, rfl⟩
theorem Ints.cut {w : World} {a : Option Addr} {n cap : Nat} {l : List Int} (h : Ints w a n cap l) {k : Nat} (hk : k ≤ l.length) (hk0 : n = 0 → k = 0) : Ints w a k cap (l.take k) := by
  obtain ⟨h1, h2, h3, h5, h4⟩ := h
  refine ⟨by simp; omega, by omega, h3, fun x hx => h5 x (List.mem_of_mem_take hx), ?_⟩
  rcases h4 with ⟨g1, g2, g3⟩ | ⟨x, hx, hc⟩
  · exact .inl ⟨g1, hk0 g2, g3⟩
  · exact .inr ⟨x, hx, fun i hi => by
      have : i < l.length := by simp at hi; omega
      rw [hc i this]; simp⟩
/-- what is left of a row that is cut -/
def CutR (w : World) (l : List Int) (e : Ending) (w' : World) : Prop := ∃ a cap ds, e = .returned (.slice a ds.length cap) ∧ Ints w a ds.length cap ds ∧ val ds = val l ∧ Dig ds ∧ Can ds ∧ w = w'
theorem cut_any {w : World} {a : Option Addr} {n cap : Nat} {l : List Int} (h : Ints w a n cap l) (dl : Dig l) :
    Calls Try.prog 45 #[.slice a n cap] w (CutR w l) := by
  rcases Nat.eq_zero_or_pos n with rfl | hn
  · obtain rfl : l = [] := List.length_eq_zero_iff.1 h.1
    exact (cut_none a cap w).mono fun _ _ ⟨h1, h2⟩ => ⟨a, cap, [], h1, h, rfl, Dig.nil, Can.nil, h2⟩
  · obtain ⟨b, o, rfl, hc⟩ := h.cell hn
    refine (cut_some b o n cap l w h.1 hn h.2.1 h.2.2.1 dl hc).mono fun _ _ ⟨k, h1, h2, h3⟩ => ?_
    have hk : (l.take k).length = k := by have := h2.1; simp; omega
    exact ⟨_, cap, l.take k, by rw [hk]; exact h1, by rw [hk]; exact h.cut h2.1 (by omega), h2.2.1, dl.take k, h2.2.2, h3⟩

theorem below_drewN {B : Nat} {a w : World} (h : Below B a w) (k : Nat) : Below B a (w.drewN k) := by
  cases k with
  | zero => exact h
  | succ k => exact ⟨h.os, h.tape, h.output, h.size, h.block⟩
theorem apa_none (a : Option Addr) (ca : Nat) (b : Value) (w : World) :
    Calls Try.prog 43 #[.slice a 0 ca, b] w fun e w' => e = .returned (.slice none 0 0) ∧ w = w' := by
  go_enter Try.func43, Try.ntmps43
  go_wp2
  refine wp_loop_rounds 1 ?_
  rw [rounds_succ]
  go_wp2_with ((go_at_call 45; (with_reducible refine (cut_none _ _ _).mono ?_); rintro e w' ⟨rfl, rfl⟩))
  go_ret
  exact ⟨rfl, rfl⟩

set_option maxHeartbeats 2000000 in
theorem apa_some {w : World} {b : Option Addr} {a0 o n m ca cb : Nat} {x y : List Int} (hx : x.length = n) (hnc : n ≤ ca) (hcm : ca ≤ maxLen) (hc : ∀ i (h : i < x.length), w.cell? ⟨a0, o + i, none⟩ = some (.int .i64 x[i])) (hlt : a0 < w.heap.size) (hb : Ints w b m cb y) (da : Dig x) (db : Dig y) (cy : Can y) (hle : val y ≤ val x) (hn : n ≤ 1000) (hm : m ≤ 1000) :
    Calls Try.prog 43 #[.slice (some ⟨a0, o, none⟩) n ca, .slice b m cb] w fun e w' => Apa w x y e w' := by
  unfold maxLen at hcm
  obtain ⟨i0, hi, hz0, hz1, hz2⟩ := info_parts info_int
  have HA : Hid (∀ W, Below w.heap.size w W → ∀ i (h : i < x.length), W.cell? ⟨a0, o + i, none⟩ = some (.int .i64 x[i])) := Lib.hid fun W hW i h => (hW.cell (p := ⟨a0, o + i, none⟩) hlt).trans (hc i h)
  have HB : Hid (∀ W, Below w.heap.size w W → Ints W b m cb y) := Lib.hid fun W hW => hb.below hW (Nat.le_refl _)
  have HL := Lib.hid hx
  clear hb hx hc
  go_enter Try.func43, Try.ntmps43
  go_wp2_with fail
  go_loopw [5, 6, 7] (fun v c i wr => ∃ (k : Nat) (cc : Int) (ds : List Int), i = .int .i64 k ∧ c = .int .i64 cc ∧ 0 ≤ cc ∧ cc ≤ 1 ∧ k ≤ n ∧ Hid (ApaR x y k cc ds) ∧ wr.ownsRow w.heap.size 3 1 v ds.length (ds.map (Value.int .i64)) ∧ Below w.heap.size w wr)
    (fun _ _ i _ => n - (intOf i).toNat)
  case atStart => exact ⟨0, 0, [], rfl, rfl, by omega, by omega, by omega, Lib.hid (ApaR.start x y), World.ownsRow_nil _ _ _ _, Below.refl _ _⟩
  case round =>
    obtain ⟨k, cc, ds, rfl, rfl, hc0, hc1, hk, HR, hown, hbr⟩ := hrel
    have hsz := hbr.size
    have HBR := Lib.hid hbr
    have HOWN := Lib.hid hown
    have hlen : ds.length ≤ 1000 := by have := HR.out.1; omega
    clear hown
    by_cases hc : k < n
    · have hkx : k < x.length := by rw [HL.out]; exact hc
      have K2 : Hid (∀ q, Calls Try.prog 44 #[.slice b m cb, .int .i64 k] (wr.drewN q) fun e w' => e = .returned (.int .i64 (dg y k)) ∧ wr.drewN q = w') := Lib.hid fun q => digit_any (HB.out _ (below_drewN HBR.out q)) k
      have hcell := HA.out wr hbr k hkx
      clear hbr
      obtain ⟨e1, e2⟩ := da.get k hkx
      obtain ⟨e3, e4⟩ := dg_in db k
      have s1 : IntKind.i64.wrap (x[k] - dg y k) = x[k] - dg y k := IntWalk.i64_in _ (by omega)
      have s2 : IntKind.i64.wrap (x[k] - dg y k - cc) = x[k] - dg y k - cc := IntWalk.i64_in _ (by omega)
      by_cases hneg : x[k] - dg y k - cc < 0
      · have HN := Lib.hid (HR.out.borrow da db hkx hneg)
        go_wp2_with fail
        go_quiet ((go_at_call 44; exact Calls.quiet_of_same ((K2.out _).mono fun _ _ hh => ⟨hh.1, hh.2.symm⟩)))
        clear s1 s2 hcell
        have hownd : (wr.drewN nq).ownsRow w.heap.size 3 1 _ ds.length (ds.map (Value.int .i64)) := HOWN.out
        have hbd : Below w.heap.size w (wr.drewN nq) := below_drewN HBR.out nq
        generalize wr.drewN nq = wd at hownd hbd ⊢
        have hsz := hbd.size
        have HBD := Lib.hid hbd
        have HOD := Lib.hid hownd
        clear hbd hownd
        go_wp2_with (at_builtin; refine wpList_append_own _ rfl (.tmp 29) (.tmp 31) 35 rfl w.heap.size 3 i0 (.int .i64 0) 1 8 Try.underlying35 hi hz0 hz1 hz2 rfl (by decide) _ _ _ rfl (HOD.out.alloc _) ⟨wd.heap.size, 0, none⟩ 1 1 [.int .i64 (x[k] - dg y k - cc + 10)] rfl rfl (cells_one _ _ _) (by intro u hu; simp at hu; subst hu; rfl) (by unfold maxLen; omega) (by omega) (by simp; omega) ?_; intro v' w1 hown1 hgrow1 _)
        have hb1 : Below w.heap.size w w1 := (HBD.out.alloc hsz _).grown hgrow1 (by simp; omega) (fun b hb => (HOD.out.lt b hb).1)
        rw [map_snoc] at hown1
        have hown2 : w1.ownsRow w.heap.size 3 1 v' (ds ++ [x[k] - dg y k - cc + 10]).length ((ds ++ [x[k] - dg y k - cc + 10]).map (Value.int .i64)) := by simpa using hown1
        clear hown1 hgrow1
        go_roundw
        case rel => exact ⟨k + 1, _, _, by go_num, rfl, HN.out.2.2.1, HN.out.2.2.2.1, hc, HN, hown2, hb1⟩
        case measure => simp [intOf]; omega
      · have HN := Lib.hid (HR.out.plain da db hkx hneg)
        go_wp2_with fail
        go_quiet ((go_at_call 44; exact Calls.quiet_of_same ((K2.out _).mono fun _ _ hh => ⟨hh.1, hh.2.symm⟩)))
        clear s1 s2 hcell
        have hownd : (wr.drewN nq).ownsRow w.heap.size 3 1 _ ds.length (ds.map (Value.int .i64)) := HOWN.out
        have hbd : Below w.heap.size w (wr.drewN nq) := below_drewN HBR.out nq
        generalize wr.drewN nq = wd at hownd hbd ⊢
        have hsz := hbd.size
        have HBD := Lib.hid hbd
        have HOD := Lib.hid hownd
        clear hbd hownd
        go_wp2_with (at_builtin; refine wpList_append_own _ rfl (.tmp 29) (.tmp 31) 35 rfl w.heap.size 3 i0 (.int .i64 0) 1 8 Try.underlying35 hi hz0 hz1 hz2 rfl (by decide) _ _ _ rfl (HOD.out.alloc _) ⟨wd.heap.size, 0, none⟩ 1 1 [.int .i64 (x[k] - dg y k - cc)] rfl rfl (cells_one _ _ _) (by intro u hu; simp at hu; subst hu; rfl) (by unfold maxLen; omega) (by omega) (by simp; omega) ?_; intro v' w1 hown1 hgrow1 _)
        have hb1 : Below w.heap.size w w1 := (HBD.out.alloc hsz _).grown hgrow1 (by simp; omega) (fun b hb => (HOD.out.lt b hb).1)
        rw [map_snoc] at hown1
        have hown2 : w1.ownsRow w.heap.size 3 1 v' (ds ++ [x[k] - dg y k - cc]).length ((ds ++ [x[k] - dg y k - cc]).map (Value.int .i64)) := by simpa using hown1
        clear hown1 hgrow1
        go_roundw
        case rel => exact ⟨k + 1, _, _, by go_num, rfl, HN.out.2.2.1, HN.out.2.2.2.1, hc, HN, hown2, hb1⟩
        case measure => simp [intOf]; omega
    · have hkn : k = x.length := by rw [HL.out]; omega
      have t1 : decide (k < n) = false := by simpa using hc
      have HR2 := HR.out
      rw [hkn] at HR2
      have HS := Lib.hid (HR2.stop da db cy hle)
      clear hc hkn HR2
      obtain ⟨ba, bc, rfl⟩ := own_form HOWN.out
      have HI := Lib.hid (ints_owned (HS.out.2.allIn) HOWN.out)
      go_wp2_with ((go_at_call 45; (with_reducible refine (cut_any HI.out HS.out.2).mono ?_); rintro e w' ⟨ra, rc, rs, rfl, hri, hrv, hrd, hrc, rfl⟩; have hri := Lib.hid hri; have hrv := Lib.hid hrv; have hrd := Lib.hid hrd; have hrc := Lib.hid hrc))
      go_ret
      exact ⟨_, rs, rfl, ⟨_, _, rfl, hri.out, HBR.out⟩, by rw [hrv.out, HS.out.1], hrd.out, hrc.out⟩

theorem apa_any {w : World} {a b : Option Addr} {n m ca cb : Nat} {x y : List Int} (ha : Ints w a n ca x) (hb : Ints w b m cb y) (da : Dig x) (db : Dig y) (cy : Can y) (hle : val y ≤ val x) (hn : n ≤ 1000) (hm : m ≤ 1000) :
    Calls Try.prog 43 #[.slice a n ca, .slice b m cb] w fun e w' => Apa w x y e w' := by
  rcases Nat.eq_zero_or_pos n with rfl | hn0
  · obtain rfl : x = [] := List.length_eq_zero_iff.1 ha.1
    refine (apa_none a ca _ w).mono fun e w' ⟨h1, h2⟩ => ?_
    subst h2
    have hv : val y = 0 := by have := val_pos db; simp [val] at hle; omega
    exact ⟨_, [], h1, ⟨none, 0, rfl, ⟨rfl, Nat.le_refl _, Nat.zero_le _, Dig.nil.allIn, .inl ⟨rfl, rfl, rfl⟩⟩, Below.refl _ _⟩, by rw [hv]; rfl, Dig.nil, Can.nil⟩
  · obtain ⟨a0, o, rfl, hc⟩ := ha.cell hn0
    have hx := ha.1
    have hlt : a0 < w.heap.size := by
      have := World.block_lt_of_cell? w _ (hc 0 (by omega)); simpa using this
    exact apa_some hx ha.2.1 ha.2.2.1 hc hlt hb da db cy hle hn hm
end Go.Proofs.Ytdckenkomjikbaa
