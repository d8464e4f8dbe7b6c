/- The reference's numbers: a sign and digits. -/
import Derived.Test.YtdckenkomjikbaaCkDig
namespace Go.Proofs.Ytdckenkomjikbaa
open Go.RowKit
set_option maxRecDepth 100000

theorem Ints.drewN {w : World} {a : Option Addr} {n cap : Nat} {l : List Int} (h : Ints w a n cap l) (q : Nat) : Ints (w.drewN q) a n cap l := h.below (below_drewN (Below.refl w.heap.size w) q) (Nat.le_refl _)

def LessP (x y : List Int) (w : World) (e : Ending) (w' : World) : Prop := e = .returned (.bool (decide (val x < val y))) ∧ ∃ q, w' = w.drewN q
theorem ret_bool {a b : Bool} (h : a = b) : Ending.returned (.bool a) = .returned (.bool b) := by rw [h]

theorem less_len_walk {w : World} {a b : Option Addr} {n m ca cb : Nat} {x y : List Int} (hx : x.length = n) (hy : y.length = m) (da : Dig x) (db : Dig y) (cx : Can x) (cy : Can y) (hne : n ≠ m) :
    Calls Try.prog 42 #[.slice a n ca, .slice b m cb] w (LessP x y w) := by
  have V : Hid (decide (val x < val y) = decide (n < m)) := Lib.hid (by rw [less_len da db cx cy (by rw [hx, hy]; exact hne), hx, hy])
  have t1 : ((n : Int) != (m : Int)) = true := by simp; omega
  have t2 : (n != m) = true := by simp; omega
  clear hx hy hne
  go_enter Try.func42, Try.ntmps42
  go_wp2
  go_ret
  exact ⟨ret_bool V.out.symm, 0, rfl⟩

theorem less_nil_walk {w : World} {a b : Option Addr} {ca cb : Nat} :
    Calls Try.prog 42 #[.slice a 0 ca, .slice b 0 cb] w (LessP [] [] w) := by
  go_enter Try.func42, Try.ntmps42
  go_wp2
  refine wp_loop_rounds 1 ?_
  rw [rounds_succ]
  go_wp2
  go_ret
  exact ⟨rfl, 0, rfl⟩

set_option maxHeartbeats 2000000 in
theorem less_same_walk {w : World} {a0 o b0 p n ca cb : Nat} {x y : List Int} (hx : x.length = n) (hy : y.length = n) (hn : 0 < n) (hca : n ≤ ca) (hcam : ca ≤ maxLen) (hcb : n ≤ cb) (hcbm : cb ≤ maxLen) (da : Dig x) (db : Dig y)
    (h1 : ∀ i (h : i < x.length), w.cell? ⟨a0, o + i, none⟩ = some (.int .i64 x[i])) (h2 : ∀ i (h : i < y.length), w.cell? ⟨b0, p + i, none⟩ = some (.int .i64 y[i])) :
    Calls Try.prog 42 #[.slice (some ⟨a0, o, none⟩) n ca, .slice (some ⟨b0, p, none⟩) n cb] w (LessP x y w) := by
  unfold maxLen at hcam hcbm
  have t0 : ((n : Int) != (n : Int)) = false := by simp
  have HX := Lib.hid hx
  have HY := Lib.hid hy
  have H1 := Lib.hid h1
  have H2 := Lib.hid h2
  clear hx hy h1 h2
  go_enter Try.func42, Try.ntmps42
  go_wp2_with fail
  go_loopw [5] (fun i wr => ∃ k : Nat, k ≤ n ∧ i = .int .i64 ((k : Int) - 1) ∧ Hid (val (x.drop k) = val (y.drop k)) ∧ ∃ q, wr = w.drewN q) (fun i _ => (intOf i + 1).toNat)
  case atStart => exact ⟨n, Nat.le_refl _, rfl, Lib.hid (by rw [List.drop_eq_nil_of_le (by rw [HX.out]; omega), List.drop_eq_nil_of_le (by rw [HY.out]; omega)]), 0, rfl⟩
  case round =>
    obtain ⟨k, hk, rfl, HV, q, rfl⟩ := hrel
    rcases Nat.eq_zero_or_pos k with rfl | hk0
    · have V : Hid (decide (val x < val y) = false) := Lib.hid (by have := HV.out; simp only [List.drop_zero] at this; rw [this]; simp)
      go_wp2
      go_ret
      exact ⟨ret_bool V.out.symm, q, rfl⟩
    · obtain ⟨m, rfl⟩ : ∃ m, k = m + 1 := ⟨k - 1, by omega⟩
      have hmx : m < x.length := by rw [HX.out]; omega
      have hmy : m < y.length := by rw [HY.out]; omega
      have c1 := H1.out m hmx
      have c2 := H2.out m hmy
      by_cases he : x[m] = y[m]
      · have t1 : (x[m] != y[m]) = false := by simp [he]
        have HN := Lib.hid (show val (x.drop m) = val (y.drop m) by rw [val_drop x m hmx, val_drop y m hmy, HV.out, he])
        clear he
        go_wp2_with fail
        go_quiet (fail)
        go_wp2
        go_roundw
        case rel => exact ⟨m, by omega, rfl, HN, _, rfl⟩
        case measure => simp [intOf]
      · have t1 : (x[m] != y[m]) = true := by simpa using he
        have V := Lib.hid (less_at da db hmx hmy HV.out he)
        clear he
        go_wp2_with fail
        go_quiet (fail)
        go_wp2_with fail
        go_quiet (fail)
        go_wp2
        go_ret
        exact ⟨ret_bool V.out.symm, _, by rw [World.drewN_drewN, World.drewN_drewN]⟩

theorem less_any {w : World} {a b : Option Addr} {n m ca cb : Nat} {x y : List Int} (ha : Ints w a n ca x) (hb : Ints w b m cb y) (da : Dig x) (db : Dig y) (cx : Can x) (cy : Can y) :
    Calls Try.prog 42 #[.slice a n ca, .slice b m cb] w (LessP x y w) := by
  by_cases hne : n = m
  · subst hne
    rcases Nat.eq_zero_or_pos n with rfl | hn
    · obtain rfl : x = [] := List.length_eq_zero_iff.1 ha.1
      obtain rfl : y = [] := List.length_eq_zero_iff.1 hb.1
      exact less_nil_walk
    · obtain ⟨a0, o, rfl, h1⟩ := ha.cell hn
      obtain ⟨b0, p, rfl, h2⟩ := hb.cell hn
      exact less_same_walk ha.1 hb.1 hn ha.2.1 ha.2.2.1 hb.2.1 hb.2.2.1 da db h1 h2
  · exact less_len_walk ha.1 hb.1 da db cx cy hne

/-- a number: a sign and digits -/
def NumAt (w : World) (v : Value) (s : Int) : Prop := ∃ (b : Bool) (a : Option Addr) (n cap : Nat) (ds : List Int), v = .agg #[.bool b, .slice a n cap] ∧ Ints w a n cap ds ∧ Dig ds ∧ Can ds ∧ (if b then -val ds else val ds) = s
theorem NumAt.below {w w' : World} {B : Nat} {v : Value} {s : Int} (h : NumAt w v s) (hb : Below B w w') (hB : w.heap.size ≤ B) : NumAt w' v s := by
  obtain ⟨b, a, n, cap, ds, h1, h2, h3, h4, h5⟩ := h
  exact ⟨b, a, n, cap, ds, h1, h2.below hb hB, h3, h4, h5⟩
def NumP (w : World) (s : Int) (e : Ending) (w' : World) : Prop := ∃ v, e = .returned v ∧ NumAt w' v s ∧ Below w.heap.size w w'

/-- the digits of a number, k of them done, q left -/
def OfR (x : Nat) (k : Nat) (q : Nat) (ds : List Int) : Prop :=
  ds.length = k ∧ Dig ds ∧ val ds + P10 k * (q : Int) = x ∧ (k = 0 ∨ P10 (k - 1) ≤ (x : Int))
theorem OfR.start (x : Nat) : OfR x 0 x [] := ⟨rfl, Dig.nil, by simp [val, P10], .inl rfl⟩
theorem OfR.step {x k q : Nat} {ds : List Int} (h : OfR x k q ds) (hq : 0 < q) : OfR x (k + 1) (q / 10) (ds ++ [((q % 10 : Nat) : Int)]) := by
  obtain ⟨h1, h2, h3, h4⟩ := h
  have hp := val_pos h2
  have e : (q : Int) = 10 * ((q / 10 : Nat) : Int) + ((q % 10 : Nat) : Int) := by omega
  refine ⟨by simp [h1], h2.snoc (by omega) (by omega), ?_, .inr ?_⟩
  · rw [val_snoc, h1]
    rw [e, Int.mul_add, Int.mul_left_comm] at h3
    simp only [P10]
    rw [Int.mul_assoc]; omega
  · have : P10 k * 1 ≤ P10 k * (q : Int) := Int.mul_le_mul_of_nonneg_left (by omega) (by have := P10_pos k; omega)
    simp only [Nat.add_sub_cancel]; omega
theorem OfR.stop {x k : Nat} {ds : List Int} (h : OfR x k 0 ds) : val ds = x ∧ Dig ds ∧ Can ds := by
  obtain ⟨h1, h2, h3, h4⟩ := h
  simp at h3
  refine ⟨h3, h2, ?_⟩
  rcases h4 with rfl | h4
  · exact .inl (List.length_eq_zero_iff.1 h1)
  · right; rw [h1, h3]; exact h4

def Box2 (w : World) (g : Nat) (x y : Value) : Prop := w.heap[g]? = some (.cells #[x, y] 39 (0, 0))
theorem Box2.keep {w w' : World} {B g : Nat} {x y : Value} (h : Box2 w g x y) (hb : Below B w w') (hg : g < B) : Box2 w' g x y := (hb.block g hg).trans h
theorem Box2.c0 {w : World} {g : Nat} {x y : Value} (h : Box2 w g x y) : w.cell? ⟨g, 0, none⟩ = some x := by rw [cell_of_row w g 0 _ _ _ h]; rfl
theorem Box2.c1 {w : World} {g : Nat} {x y : Value} (h : Box2 w g x y) : w.cell? ⟨g, 1, none⟩ = some y := by rw [cell_of_row w g 1 _ _ _ h]; rfl
theorem Box2.fz {w : World} {g : Nat} {x y : Value} (h : Box2 w g x y) (j : Nat) : w.frozen? ⟨g, j, none⟩ = false := frozen_of_row w g j _ _ h
theorem Box2.set1 {w : World} {g : Nat} {x y : Value} (h : Box2 w g x y) (u : Value) : Box2 (w.setCell ⟨g, 1, none⟩ u) g x u := heap_setCell_same w g 1 _ _ u h
theorem Box2.set0 {w : World} {g : Nat} {x y : Value} (h : Box2 w g x y) (u : Value) : Box2 (w.setCell ⟨g, 0, none⟩ u) g u y := heap_setCell_same w g 0 _ _ u h
theorem Box2.other {w : World} {g g' j : Nat} {x y : Value} (h : Box2 w g x y) (hne : g ≠ g') (u : Value) : Box2 (w.setCell ⟨g', j, none⟩ u) g x y := (heap_setCell_other w ⟨g', j, none⟩ g u hne).trans h
theorem Box2.lt {w : World} {g : Nat} {x y : Value} (h : Box2 w g x y) : g < w.heap.size := lt_of_block h
theorem OfR.len {x k q : Nat} {ds : List Int} (h : OfR x k q ds) (hx : x ≤ 9223372036854775808) : ds.length ≤ 30 := by
  obtain ⟨h1, h2, h3, h4⟩ := h
  rcases h4 with rfl | h4
  · omega
  · rcases Nat.lt_or_ge 30 k with h5 | h5
    · have := P10_mono (show 30 ≤ k - 1 by omega)
      have e : P10 30 = 1000000000000000000000000000000 := by decide
      omega
    · omega
theorem digits_owned {w : World} {base n c : Nat} {a : Option Addr} {l : List Int} {e : TypeId} (hd : Dig l) (hown : w.ownsRow base e 1 (.slice a n c) n (l.map (Value.int .i64))) : Ints w a n c l := ints_owned hd.allIn hown

set_option maxHeartbeats 2000000 in
theorem of_pos (x : Nat) (w : World) (hx : x ≤ 9223372036854775807) : Calls Try.prog 30 #[.int .i64 ((x : Int))] w (NumP w ((x : Int))) := by
  obtain ⟨i0, hi, hz0, hz1, hz2⟩ := info_parts info_int
  have tb : decide ((x : Int) < 0) = false := by simp; try omega
  have hB0 : Below w.heap.size w ((w.alloc (.cells #[.bool false, .slice none 0 0] 39)).alloc (.cells #[.bool false, .slice none 0 0] 39)) := ((Below.refl w.heap.size w).alloc (Nat.le_refl _) _).alloc (by simp) _
  have hb0 : Box2 ((w.alloc (.cells #[.bool false, .slice none 0 0] 39)).alloc (.cells #[.bool false, .slice none 0 0] 39)) w.heap.size (.bool false) (.slice none 0 0) := heap_alloc2_old _ _ _
  have hb1 : Box2 ((w.alloc (.cells #[.bool false, .slice none 0 0] 39)).alloc (.cells #[.bool false, .slice none 0 0] 39)) (w.heap.size + 1) (.bool false) (.slice none 0 0) := heap_alloc2_new _ _ _
  have HB0 := Lib.hid hB0
  have Hb0 := Lib.hid hb0
  have Hb1 := Lib.hid hb1
  clear hB0 hb0 hb1
  go_enter Try.func30, Try.ntmps30
  go_wp2_with fail
  go_loopw [0] (fun s wr => ∃ (k q : Nat) (ds : List Int) (v : Value), s = .int .i64 ((q : Int)) ∧ q ≤ x ∧ Hid (OfR x k q ds) ∧ Hid (wr.ownsRow (w.heap.size + 2) 3 1 v ds.length (ds.map (Value.int .i64))) ∧ Hid (Below w.heap.size w wr) ∧ Hid (Box2 wr w.heap.size (.bool false) (.slice none 0 0)) ∧ Hid (Box2 wr (w.heap.size + 1) (.bool false) v))
    (fun s _ => (intOf s).natAbs)
  case atStart => exact ⟨0, x, [], _, rfl, Nat.le_refl _, Lib.hid (OfR.start x), Lib.hid (World.ownsRow_nil _ _ _ _), HB0, Hb0, Hb1⟩
  case round =>
    obtain ⟨k, q, ds, v, rfl, hq, HR, HO, HBR, HX0, HX1⟩ := hrel
    obtain ⟨ba, bc, rfl⟩ := own_form HO.out
    have c1 := HX1.out.c1
    have f1 := HX1.out.fz 1
    rcases Nat.eq_zero_or_pos q with rfl | hq0
    · have HS := Lib.hid HR.out.stop
      have HI := Lib.hid (digits_owned HS.out.2.1 HO.out)
      have c0 := HX1.out.c0
      have f10 := HX1.out.fz 0
      have g0 := HX0.out.c0
      have g1 := HX0.out.c1
      have g2 := HX0.out.fz 0
      have g3 := HX0.out.fz 1
      have Z0 := Lib.hid ((HX0.out.set0 (.bool false)).set1 (.slice ba ds.length bc))
      have ZB := Lib.hid (((HBR.out).setCell (p := ⟨w.heap.size, 0, none⟩) (Nat.le_refl _) (.bool false)).setCell (p := ⟨w.heap.size, 1, none⟩) (Nat.le_refl _) (.slice ba ds.length bc))
      have ZI := Lib.hid (digits_owned HS.out.2.1 (ownsRow_setCell_below (ownsRow_setCell_below HO.out (a := ⟨w.heap.size, 0, none⟩) (by simp) (.bool false)) (a := ⟨w.heap.size, 1, none⟩) (by simp) (.slice ba ds.length bc)))
      go_wp2
      have z0 := Z0.out.c0
      have z1 := Z0.out.c1
      refine bodyPost_ret (v := .agg #[.bool false, .slice ba ds.length bc]) (by simp [results, Try.results30, go_sem, z0, z1]) rfl ⟨_, rfl, ⟨false, ba, _, bc, ds, rfl, ZI.out, HS.out.2.1, HS.out.2.2, by rw [HS.out.1]; rfl⟩, ZB.out⟩
    · have t0 : ((q : Int) != 0) = true := by simp; omega
      have hlen := HR.out.len (by omega)
      have HN := HR.out.step hq0
      have hm : ((q % 10 : Nat) : Int) = (q : Int) % 10 := by omega
      rw [hm] at HN
      clear hm
      have m0 : 0 ≤ (q : Int) % 10 := by omega
      have m9 : (q : Int) % 10 ≤ 9 := by omega
      have hsz : w.heap.size + 2 ≤ wr.heap.size := by have := HX1.out.lt; omega
      have HN := Lib.hid HN
      go_wp2_with (at_builtin; refine wpList_append_own _ rfl (.tmp 17) (.tmp 19) 35 rfl (w.heap.size + 2) 3 i0 (.int .i64 0) 1 8 Try.underlying35 hi hz0 hz1 hz2 rfl (by decide) _ _ _ rfl (HO.out.alloc _) ⟨wr.heap.size, 0, none⟩ 1 1 [.int .i64 ((q : Int) % 10)] rfl rfl (cells_one _ _ _) (by intro u hu; simp at hu; subst hu; rfl) (by unfold maxLen; omega) (by omega) (by simp; omega) ?_; intro v' w1 hown1 hgrow1 _; obtain ⟨va, vc, rfl⟩ := own_form hown1; have hbx : Hid (Below (w.heap.size + 2) wr w1) := Lib.hid (((Below.refl _ wr).alloc hsz _).grown hgrow1 (by simp; omega) (fun b hb => (HO.out.lt b hb).1)); have HX0' := Lib.hid (HX0.out.keep hbx.out (by omega)); have HX1' := Lib.hid (HX1.out.keep hbx.out (by omega)); have f1' := HX1'.out.fz 1; have c1' := HX1'.out.c1; have hlt' := HX1'.out.lt; have hown1 := Lib.hid hown1; clear hgrow1)
      have HO2 := Lib.hid (hown1.out)
      rw [map_snoc] at HO2
      have hl2 : ds.length + 1 = (ds ++ [(q : Int) % 10]).length := by simp
      rw [hl2] at HO2 ⊢
      clear hl2
      go_roundw
      case rel => exact ⟨k + 1, q / 10, ds ++ [(q : Int) % 10], _, by go_num, by omega, HN, Lib.hid (ownsRow_setCell_below HO2.out (by simp) _), Lib.hid ((HBR.out.trans (hbx.out.mono (by omega))).setCell (by simp) _), Lib.hid (HX0'.out.other (by omega) _), Lib.hid (HX1'.out.set1 _)⟩
      case measure => simp [intOf]; omega

set_option maxHeartbeats 2000000 in
theorem of_neg (x : Nat) (w : World) (hx : x ≤ 9223372036854775808) (hx0 : 0 < x) : Calls Try.prog 30 #[.int .i64 (-(x : Int))] w (NumP w (-(x : Int))) := by
  obtain ⟨i0, hi, hz0, hz1, hz2⟩ := info_parts info_int
  have tb : decide (-(x : Int) < 0) = true := by simp; try omega
  have hB0 : Below w.heap.size w ((w.alloc (.cells #[.bool false, .slice none 0 0] 39)).alloc (.cells #[.bool true, .slice none 0 0] 39)) := ((Below.refl w.heap.size w).alloc (Nat.le_refl _) _).alloc (by simp) _
  have hb0 : Box2 ((w.alloc (.cells #[.bool false, .slice none 0 0] 39)).alloc (.cells #[.bool true, .slice none 0 0] 39)) w.heap.size (.bool false) (.slice none 0 0) := heap_alloc2_old _ _ _
  have hb1 : Box2 ((w.alloc (.cells #[.bool false, .slice none 0 0] 39)).alloc (.cells #[.bool true, .slice none 0 0] 39)) (w.heap.size + 1) (.bool true) (.slice none 0 0) := heap_alloc2_new _ _ _
  have HB0 := Lib.hid hB0
  have Hb0 := Lib.hid hb0
  have Hb1 := Lib.hid hb1
  clear hB0 hb0 hb1
  go_enter Try.func30, Try.ntmps30
  go_wp2_with fail
  go_loopw [0] (fun s wr => ∃ (k q : Nat) (ds : List Int) (v : Value), s = .int .i64 (-(q : Int)) ∧ q ≤ x ∧ Hid (OfR x k q ds) ∧ Hid (wr.ownsRow (w.heap.size + 2) 3 1 v ds.length (ds.map (Value.int .i64))) ∧ Hid (Below w.heap.size w wr) ∧ Hid (Box2 wr w.heap.size (.bool false) (.slice none 0 0)) ∧ Hid (Box2 wr (w.heap.size + 1) (.bool true) v))
    (fun s _ => (intOf s).natAbs)
  case atStart => exact ⟨0, x, [], _, rfl, Nat.le_refl _, Lib.hid (OfR.start x), Lib.hid (World.ownsRow_nil _ _ _ _), HB0, Hb0, Hb1⟩
  case round =>
    obtain ⟨k, q, ds, v, rfl, hq, HR, HO, HBR, HX0, HX1⟩ := hrel
    obtain ⟨ba, bc, rfl⟩ := own_form HO.out
    have c1 := HX1.out.c1
    have f1 := HX1.out.fz 1
    rcases Nat.eq_zero_or_pos q with rfl | hq0
    · have HS := Lib.hid HR.out.stop
      have HI := Lib.hid (digits_owned HS.out.2.1 HO.out)
      have c0 := HX1.out.c0
      have f10 := HX1.out.fz 0
      have g0 := HX0.out.c0
      have g1 := HX0.out.c1
      have g2 := HX0.out.fz 0
      have g3 := HX0.out.fz 1
      have Z0 := Lib.hid ((HX0.out.set0 (.bool true)).set1 (.slice ba ds.length bc))
      have ZB := Lib.hid (((HBR.out).setCell (p := ⟨w.heap.size, 0, none⟩) (Nat.le_refl _) (.bool true)).setCell (p := ⟨w.heap.size, 1, none⟩) (Nat.le_refl _) (.slice ba ds.length bc))
      have ZI := Lib.hid (digits_owned HS.out.2.1 (ownsRow_setCell_below (ownsRow_setCell_below HO.out (a := ⟨w.heap.size, 0, none⟩) (by simp) (.bool true)) (a := ⟨w.heap.size, 1, none⟩) (by simp) (.slice ba ds.length bc)))
      go_wp2
      have z0 := Z0.out.c0
      have z1 := Z0.out.c1
      refine bodyPost_ret (v := .agg #[.bool true, .slice ba ds.length bc]) (by simp [results, Try.results30, go_sem, z0, z1]) rfl ⟨_, rfl, ⟨true, ba, _, bc, ds, rfl, ZI.out, HS.out.2.1, HS.out.2.2, by rw [HS.out.1]; rfl⟩, ZB.out⟩
    · have t0 : (-(q : Int) != 0) = true := by simp; omega
      have hlen := HR.out.len (by omega)
      have HN := HR.out.step hq0
      have hm : ((q % 10 : Nat) : Int) = (q : Int) % 10 := by omega
      rw [hm] at HN
      clear hm
      have m0 : 0 ≤ (q : Int) % 10 := by omega
      have m9 : (q : Int) % 10 ≤ 9 := by omega
      have hsz : w.heap.size + 2 ≤ wr.heap.size := by have := HX1.out.lt; omega
      rcases Int.lt_or_le 0 ((q : Int) % 10) with m1 | m1
      · have HN := Lib.hid HN
        go_wp2_with (at_builtin; refine wpList_append_own _ rfl (.tmp 17) (.tmp 19) 35 rfl (w.heap.size + 2) 3 i0 (.int .i64 0) 1 8 Try.underlying35 hi hz0 hz1 hz2 rfl (by decide) _ _ _ rfl (HO.out.alloc _) ⟨wr.heap.size, 0, none⟩ 1 1 [.int .i64 ((q : Int) % 10)] rfl rfl (cells_one _ _ _) (by intro u hu; simp at hu; subst hu; rfl) (by unfold maxLen; omega) (by omega) (by simp; omega) ?_; intro v' w1 hown1 hgrow1 _; obtain ⟨va, vc, rfl⟩ := own_form hown1; have hbx : Hid (Below (w.heap.size + 2) wr w1) := Lib.hid (((Below.refl _ wr).alloc hsz _).grown hgrow1 (by simp; omega) (fun b hb => (HO.out.lt b hb).1)); have HX0' := Lib.hid (HX0.out.keep hbx.out (by omega)); have HX1' := Lib.hid (HX1.out.keep hbx.out (by omega)); have f1' := HX1'.out.fz 1; have c1' := HX1'.out.c1; have hlt' := HX1'.out.lt; have hown1 := Lib.hid hown1; clear hgrow1)
        have HO2 := Lib.hid (hown1.out)
        rw [map_snoc] at HO2
        have hl2 : ds.length + 1 = (ds ++ [(q : Int) % 10]).length := by simp
        rw [hl2] at HO2 ⊢
        clear hl2
        go_roundw
        case rel => exact ⟨k + 1, q / 10, ds ++ [(q : Int) % 10], _, by go_num, by omega, HN, Lib.hid (ownsRow_setCell_below HO2.out (by simp) _), Lib.hid ((HBR.out.trans (hbx.out.mono (by omega))).setCell (by simp) _), Lib.hid (HX0'.out.other (by omega) _), Lib.hid (HX1'.out.set1 _)⟩
        case measure => simp [intOf]; omega
      · rw [show (q : Int) % 10 = -((q : Int) % 10) by omega] at HN
        have HN := Lib.hid HN
        go_wp2_with (at_builtin; refine wpList_append_own _ rfl (.tmp 17) (.tmp 19) 35 rfl (w.heap.size + 2) 3 i0 (.int .i64 0) 1 8 Try.underlying35 hi hz0 hz1 hz2 rfl (by decide) _ _ _ rfl (HO.out.alloc _) ⟨wr.heap.size, 0, none⟩ 1 1 [.int .i64 (-((q : Int) % 10))] rfl rfl (cells_one _ _ _) (by intro u hu; simp at hu; subst hu; rfl) (by unfold maxLen; omega) (by omega) (by simp; omega) ?_; intro v' w1 hown1 hgrow1 _; obtain ⟨va, vc, rfl⟩ := own_form hown1; have hbx : Hid (Below (w.heap.size + 2) wr w1) := Lib.hid (((Below.refl _ wr).alloc hsz _).grown hgrow1 (by simp; omega) (fun b hb => (HO.out.lt b hb).1)); have HX0' := Lib.hid (HX0.out.keep hbx.out (by omega)); have HX1' := Lib.hid (HX1.out.keep hbx.out (by omega)); have f1' := HX1'.out.fz 1; have c1' := HX1'.out.c1; have hlt' := HX1'.out.lt; have hown1 := Lib.hid hown1; clear hgrow1)
        have HO2 := Lib.hid (hown1.out)
        rw [map_snoc] at HO2
        have hl2 : ds.length + 1 = (ds ++ [-((q : Int) % 10)]).length := by simp
        rw [hl2] at HO2 ⊢
        clear hl2
        go_roundw
        case rel => exact ⟨k + 1, q / 10, ds ++ [-((q : Int) % 10)], _, by go_num, by omega, HN, Lib.hid (ownsRow_setCell_below HO2.out (by simp) _), Lib.hid ((HBR.out.trans (hbx.out.mono (by omega))).setCell (by simp) _), Lib.hid (HX0'.out.other (by omega) _), Lib.hid (HX1'.out.set1 _)⟩
        case measure => simp [intOf]; omega

end Go.Proofs.Ytdckenkomjikbaa
