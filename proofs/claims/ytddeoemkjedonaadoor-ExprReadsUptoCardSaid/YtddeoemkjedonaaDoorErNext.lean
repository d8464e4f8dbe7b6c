/- What can stand, by the reference; its next token; its marks. -/
import Derived.Test.YtddeoemkjedonaaDoorMRefScan
import Derived.Test.YtddeoemkjedonaaDoorMEbPlace
namespace Go.Proofs.YtddeoemkjedonaaDoor
open Go.RowKit Go.Shelf
set_option maxRecDepth 100000

def tokV (t : TokE) : Value := .agg #[.int .i64 t.kd, .string t.tx, .int .i64 t.iv, .float .f64 t.rl, .int .i64 t.pl, .int .i64 t.sz]
def standsB (t : TokE) : Bool := match clT t with | .no => false | _ => true
theorem stands_5 {t : TokE} (h : t.kd = 5) : standsB t = true := by unfold standsB clT; rw [if_pos h]
theorem stands_2 {t : TokE} (h : t.kd = 2) : standsB t = decide (0 ≤ t.iv) := by
  unfold standsB clT
  rw [if_neg (by omega), if_pos h]
  by_cases h2 : 0 ≤ t.iv
  · rw [if_pos h2, decide_eq_true h2]
  · rw [if_neg h2, decide_eq_false h2]
theorem stands_3 {t : TokE} (h : t.kd = 3) : standsB t = decide (t.rl < 9218868437227405312) := by
  unfold standsB clT
  rw [if_neg (by omega), if_neg (by omega), if_pos h]
  by_cases h2 : t.rl < 9218868437227405312
  · rw [if_pos h2, decide_eq_true h2]
  · rw [if_neg h2, decide_eq_false h2]
theorem stands_4 {t : TokE} (h : t.kd = 4) : standsB t = decide (t.tx.size ≤ 256) := by
  unfold standsB clT
  rw [if_neg (by omega), if_neg (by omega), if_neg (by omega), if_pos h]
  by_cases h2 : t.tx.size ≤ 256
  · rw [if_pos h2, decide_eq_true h2]
  · rw [if_neg h2, decide_eq_false h2]
theorem stands_1 {t : TokE} (h : t.kd = 1) : standsB t = nameB t.tx.data.toList := by
  unfold standsB clT
  rw [if_neg (by omega), if_neg (by omega), if_neg (by omega), if_neg (by omega), if_pos h]
  cases h2 : nameB t.tx.data.toList with
  | false => rw [if_neg (by decide)]
  | true =>
    rw [if_pos rfl]
    by_cases e1 : t.tx.data.toList = [116, 114, 117, 101]
    · rw [if_pos e1]
    rw [if_neg e1]
    by_cases e2 : t.tx.data.toList = [102, 97, 108, 115, 101]
    · rw [if_pos e2]
    rw [if_neg e2]
    by_cases e3 : wordK t.tx.data.toList = 0
    · rw [if_pos e3]
    · rw [if_neg e3]
theorem stands_0 {t : TokE} (h1 : t.kd ≠ 1) (h2 : t.kd ≠ 2) (h3 : t.kd ≠ 3) (h4 : t.kd ≠ 4) (h5 : t.kd ≠ 5) : standsB t = false := by
  unfold standsB clT
  rw [if_neg h5, if_neg h2, if_neg h3, if_neg h4, if_neg h1]
set_option maxHeartbeats 2000000 in
theorem stands_any (t : TokE) (hs : t.tx.size ≤ 140737488351232) (hr : t.rl < 18446744073709551616) (w : World) : Calls Tryd.prog 40 #[tokV t] w fun e w' => e = .returned (.bool (standsB t)) ∧ Below w.heap.size w w' := by
  have sf := store_float
  have HN := fun W => Lib.hid (named_any t.tx hs W)
  have HF := fun W => Lib.hid (finite_any t.rl hr W)
  unfold tokV
  have HB0 : ∀ (v0 : Value) T, Hid (Below w.heap.size w (w.alloc (.cells #[v0, .string t.tx, .int .i64 t.iv, .float .f64 t.rl, .int .i64 t.pl, .int .i64 t.sz] T))) := fun v0 T => Lib.hid ((Below.refl _ w).alloc (Nat.le_refl _) _)
  have hle : ∀ (v0 : Value) T, w.heap.size ≤ (w.alloc (.cells #[v0, .string t.tx, .int .i64 t.iv, .float .f64 t.rl, .int .i64 t.pl, .int .i64 t.sz] T)).heap.size := fun v0 T => (HB0 v0 T).out.size
  by_cases h1 : t.kd = 1
  · rw [stands_1 h1, h1]
    generalize nameB t.tx.data.toList = nb at HN ⊢
    clear h1
    go_enter Tryd.func40, Tryd.ntmps40
    go_wp2_with (go_at_call 50; refine (HN _).out.mono ?_; rintro e w1 ⟨rfl, hb⟩; have HB1 := Lib.hid ((HB0 _ _).out.trans (hb.mono (hle _ _))); clear hb)
    go_ret
    exact ⟨rfl, HB1.out⟩
  by_cases h2 : t.kd = 2
  · rw [stands_2 h2, h2]
    clear h1 h2 HN HF
    go_enter Tryd.func40, Tryd.ntmps40
    go_wp2_with fail
    go_ret
    exact ⟨rfl, (HB0 _ _).out⟩
  by_cases h3 : t.kd = 3
  · rw [stands_3 h3, h3]
    generalize decide (t.rl < 9218868437227405312) = d at HF ⊢
    clear h1 h2 h3 HN
    go_enter Tryd.func40, Tryd.ntmps40
    go_wp2_with (go_at_call 51; refine (HF _).out.mono ?_; rintro e w1 ⟨rfl, hb⟩; have HB1 := Lib.hid ((HB0 _ _).out.trans (hb.mono (hle _ _))); clear hb)
    go_ret
    exact ⟨rfl, HB1.out⟩
  by_cases h4 : t.kd = 4
  · rw [stands_4 h4, h4]
    have hd : decide (t.tx.size ≤ 256) = decide ((t.tx.size : Int) ≤ 256) := by by_cases h : t.tx.size ≤ 256 <;> simp [h] <;> omega
    rw [hd]
    clear h1 h2 h3 h4 HN HF hd
    go_enter Tryd.func40, Tryd.ntmps40
    go_wp2_with fail
    go_ret
    exact ⟨rfl, (HB0 _ _).out⟩
  have d1 : (t.kd == 1) = false := beq_eq_false_iff_ne.2 h1
  have d2 : (t.kd == 2) = false := beq_eq_false_iff_ne.2 h2
  have d3 : (t.kd == 3) = false := beq_eq_false_iff_ne.2 h3
  have d4 : (t.kd == 4) = false := beq_eq_false_iff_ne.2 h4
  by_cases h5 : t.kd = 5
  · rw [stands_5 h5, h5]
    rw [h5] at d1 d2 d3 d4
    clear h1 h2 h3 h4 h5 HN HF
    go_enter Tryd.func40, Tryd.ntmps40
    go_wp2_with fail
    go_ret
    exact ⟨rfl, (HB0 _ _).out⟩
  · rw [stands_0 h1 h2 h3 h4 h5]
    have d5 : (t.kd == 5) = false := beq_eq_false_iff_ne.2 h5
    clear h1 h2 h3 h4 h5 HN HF
    generalize t.kd = kd at *
    go_enter Tryd.func40, Tryd.ntmps40
    go_wp2_with fail
    go_ret
    exact ⟨rfl, (HB0 _ _).out⟩
theorem gL_stands {L : List TokE} {k : Nat} (h : k < L.length) : standsB (L.getD k default) = false ↔ gL L k = .no := by
  unfold gL standsB
  rw [if_pos h]
  cases clT (L.getD k default) <;> simp
def zTok : List Value := [.int .i64 0, .string ⟨#[]⟩, .int .i64 0, .float .f64 0, .int .i64 0, .int .i64 0]
def tkC (t : TokE) : List Value := [.int .i64 t.kd, .string t.tx, .int .i64 t.iv, .float .f64 t.rl, .int .i64 t.pl, .int .i64 t.sz]
theorem tokRes {fn : Func} {p u : Tmp} {tmps : Array Value} {W : World} {g : Nat} {cs : List Value} (hf : fn.results = #[.cell p 36, .tmp u]) (hp : tmps.getD p undef = .pointer (some ⟨g, 0, none⟩)) (h : Bx W g 36 cs) (h6 : cs.length = 6) :
    (results fn tmps).run Tryd.prog W = .ok (.tuple #[.agg cs.toArray, tmps.getD u undef]) W := by
  have hl := run_loadVar_row (P := Tryd.prog) W g 36 36 cs.toArray (0, 0) _ h Tryd.underlying36 rfl (by simp only [List.size_toArray, h6]; kernel_rfl)
  have hp' : tmps[p]?.getD undef = .pointer (some ⟨g, 0, none⟩) := by simpa using hp
  rw [results_cell_tmp hf]
  simp [hp', asAddr, hl]
theorem bx_set6 {W : World} {g : Nat} {T : TypeId} {v0 v1 v2 v3 v4 v5 a b c d e f : Value} (h : Bx W g T [v0, v1, v2, v3, v4, v5]) :
    Bx ((((((W.setCell ⟨g, 0, none⟩ a).setCell ⟨g, 1, none⟩ b).setCell ⟨g, 2, none⟩ c).setCell ⟨g, 3, none⟩ d).setCell ⟨g, 4, none⟩ e).setCell ⟨g, 5, none⟩ f) g T [a, b, c, d, e, f] :=
  (((((h.set 0 a).set 1 b).set 2 c).set 3 d).set 4 e).set 5 f
theorem bx_drew {W : World} {g : Nat} {T : TypeId} {cs : List Value} (h : Bx W g T cs) : Bx W.drew g T cs := h
theorem below_set6 {w W : World} {g B : Nat} {a b c d e f : Value} (h : Below B w W) (hg : B ≤ g) : Below B w ((((((W.setCell ⟨g, 0, none⟩ a).setCell ⟨g, 1, none⟩ b).setCell ⟨g, 2, none⟩ c).setCell ⟨g, 3, none⟩ d).setCell ⟨g, 4, none⟩ e).setCell ⟨g, 5, none⟩ f) :=
  (((((h.setCell hg _).setCell hg _).setCell hg _).setCell hg _).setCell hg _).setCell hg _
/-- the next token, told -/
def NextD (L : List TokE) (k : Nat) (w : World) (e : Ending) (w' : World) : Prop :=
  ((gL L k = .no ∧ e = .returned (.tuple #[.agg zTok.toArray, .bool false])) ∨ (gL L k ≠ .no ∧ k < L.length ∧ e = .returned (.tuple #[.agg (tkC (L.getD k default)).toArray, .bool true]))) ∧ Below w.heap.size w w'
set_option maxHeartbeats 2000000 in
theorem rnext_any (p cap k : Nat) (bad : Int) (a : Option Addr) (L : List TokE) (w : World) (h : RSt w p cap a L k bad) :
    Calls Tryd.prog 28 #[.pointer (some ⟨p, 0, none⟩)] w (NextD L k w) := by
  obtain ⟨W1, hW1⟩ : ∃ W1, W1 = w.alloc (.cells zTok.toArray 36) := ⟨_, rfl⟩
  have hb1 : Below w.heap.size w W1 := by rw [hW1]; exact (Below.refl _ w).alloc (Nat.le_refl _) _
  have hx : Bx W1 w.heap.size 36 zTok := by rw [hW1]; exact Bx.new w _ _
  have h1 := h.below hb1
  have c0 := h1.rdr.c0
  have c1 := h1.rdr.c1
  have hlt := h.rdr.lt
  have hln := h.len
  have z0 := hx.fz 0
  have z1 := hx.fz 1
  have z2 := hx.fz 2
  have z3 := hx.fz 3
  have z4 := hx.fz 4
  have z5 := hx.fz 5
  have sf := store_float
  have HX := Lib.hid hx
  have HB1 := Lib.hid hb1
  have HH := Lib.hid h1
  have HW1 : Hid (W1 = w.alloc (.cells #[.int .i64 0, .string ⟨#[]⟩, .int .i64 0, .float .f64 0, .int .i64 0, .int .i64 0] 36)) := Lib.hid hW1
  have y0 := hx.c 0 rfl
  have y1 := hx.c 1 rfl
  have y2 := hx.c 2 rfl
  have y3 := hx.c 3 rfl
  have y4 := hx.c 4 rfl
  have y5 := hx.c 5 rfl
  have hadr : w.heap.size ≠ p := by omega
  clear hW1 hb1 hx h1 h
  rcases Nat.lt_or_ge k L.length with hk | hk
  · obtain ⟨x, rfl, t0, t1, t2, t3, t4, t5⟩ := HH.out.toks k hk
    have hcl := gL_stands hk
    have HSA := fun W => Lib.hid (stands_any (L.getD k default) (HH.out.sized k) (HH.out.real k) W)
    have hd : decide (L.length ≤ k) = false := decide_eq_false (by omega)
    unfold NextD
    unfold tokV at HSA
    unfold tkC
    generalize L.getD k default = t at t0 t1 t2 t3 t4 t5 hcl HSA ⊢
    have hlow : (x.add (k * 6)).block < w.heap.size := Nat.lt_trans (HH.out.low x rfl _) hlt
    have hne : (x.add (k * 6)).block ≠ w.heap.size := by omega
    have HK := Lib.hid hk
    obtain ⟨N, hN⟩ : ∃ N, N = L.length := ⟨_, rfl⟩
    have HNN := Lib.hid hN
    cases hs : standsB t with
    | false =>
      have HG := Lib.hid (hcl.1 hs)
      rw [hs] at HSA
      rw [← hN] at hk hln c0 hd HK
      clear hcl hs hN
      go_enter Tryd.func28, Tryd.ntmps28
      go_upto_region 1 with (fail)
      rw [← HW1.out]
      go_region_held3 (fun W' => W'.cell? ⟨p, 0, none⟩ = some (.slice (some x) N cap) ∧ W'.cell? ⟨p, 1, none⟩ = some (.int .i64 k) ∧ W'.cell? (x.add (k * 6)) = some (.int .i64 t.kd) ∧ W'.cell? ⟨(x.add (k * 6)).block, (x.add (k * 6)).off + 1, none⟩ = some (.string t.tx) ∧ W'.cell? ⟨(x.add (k * 6)).block, (x.add (k * 6)).off + 2, none⟩ = some (.int .i64 t.iv) ∧ W'.cell? ⟨(x.add (k * 6)).block, (x.add (k * 6)).off + 3, none⟩ = some (.float .f64 t.rl) ∧ W'.cell? ⟨(x.add (k * 6)).block, (x.add (k * 6)).off + 4, none⟩ = some (.int .i64 t.pl) ∧ W'.cell? ⟨(x.add (k * 6)).block, (x.add (k * 6)).off + 5, none⟩ = some (.int .i64 t.sz))
        (first | (refine ⟨?_, ?_, ?_, ?_, ?_, ?_, ?_, ?_⟩ <;> assumption) | go_keep)
        (first | (go_at_call 40; refine (HSA W1.drew).out.mono ?_; rintro e w2 ⟨rfl, hb2⟩; have hb2 : Below W1.heap.size W1 w2 := (drew_below W1).trans hb2; have HB2 := Lib.hid (HB1.out.trans (hb2.mono HB1.out.size)); have HX2 := Lib.hid (HX.out.keep hb2 HX.out.lt); have HH2 := Lib.hid (HH.out.below hb2); have c0 : w2.cell? ⟨p, 0, none⟩ = some (.slice (some x) N cap) := (by rw [HNN.out]; exact HH2.out.rdr.c0); have c1 := HH2.out.rdr.c1; have hxl : (x.add (k * 6)).block < W1.heap.size := Nat.lt_trans hlow (Nat.lt_of_le_of_lt (Nat.le_refl _) HX.out.lt); have t0 := (hb2.cell hxl).trans t0; have t1 := (hb2.cell (p := ⟨(x.add (k * 6)).block, _, none⟩) hxl).trans t1; have t2 := (hb2.cell (p := ⟨(x.add (k * 6)).block, _, none⟩) hxl).trans t2; have t3 := (hb2.cell (p := ⟨(x.add (k * 6)).block, _, none⟩) hxl).trans t3; have t4 := (hb2.cell (p := ⟨(x.add (k * 6)).block, _, none⟩) hxl).trans t4; have t5 := (hb2.cell (p := ⟨(x.add (k * 6)).block, _, none⟩) hxl).trans t5; have z0 := HX2.out.fz 0; have z1 := HX2.out.fz 1; have z2 := HX2.out.fz 2; have z3 := HX2.out.fz 3; have z4 := HX2.out.fz 4; have z5 := HX2.out.fz 5; have y0 := HX2.out.c 0 rfl; have y1 := HX2.out.c 1 rfl; have y2 := HX2.out.c 2 rfl; have y3 := HX2.out.c 3 rfl; have y4 := HX2.out.c 4 rfl; have y5 := HX2.out.c 5 rfl; clear hb2))
      go_wp2
      have hq := HX2.out
      exact bodyPost_ret (tokRes rfl rfl (bx_set6 hq) rfl) rfl ⟨.inl ⟨HG.out, rfl⟩, (((((HB2.out.setCell (Nat.le_refl _) _).setCell (Nat.le_refl _) _).setCell (Nat.le_refl _) _).setCell (Nat.le_refl _) _).setCell (Nat.le_refl _) _).setCell (Nat.le_refl _) _⟩
    | true =>
      have HG := Lib.hid (fun h => absurd (hcl.2 h) (by rw [hs]; decide) : ¬ gL L k = .no)
      rw [hs] at HSA
      rw [← hN] at hk hln c0 hd HK
      clear hcl hs hN
      go_enter Tryd.func28, Tryd.ntmps28
      go_upto_region 1 with (fail)
      rw [← HW1.out]
      go_region_held3 (fun W' => W'.cell? ⟨p, 0, none⟩ = some (.slice (some x) N cap) ∧ W'.cell? ⟨p, 1, none⟩ = some (.int .i64 k) ∧ W'.cell? (x.add (k * 6)) = some (.int .i64 t.kd) ∧ W'.cell? ⟨(x.add (k * 6)).block, (x.add (k * 6)).off + 1, none⟩ = some (.string t.tx) ∧ W'.cell? ⟨(x.add (k * 6)).block, (x.add (k * 6)).off + 2, none⟩ = some (.int .i64 t.iv) ∧ W'.cell? ⟨(x.add (k * 6)).block, (x.add (k * 6)).off + 3, none⟩ = some (.float .f64 t.rl) ∧ W'.cell? ⟨(x.add (k * 6)).block, (x.add (k * 6)).off + 4, none⟩ = some (.int .i64 t.pl) ∧ W'.cell? ⟨(x.add (k * 6)).block, (x.add (k * 6)).off + 5, none⟩ = some (.int .i64 t.sz))
        (first | (refine ⟨?_, ?_, ?_, ?_, ?_, ?_, ?_, ?_⟩ <;> assumption) | go_keep)
        (first | (go_at_call 40; refine (HSA W1.drew).out.mono ?_; rintro e w2 ⟨rfl, hb2⟩; have hb2 : Below W1.heap.size W1 w2 := (drew_below W1).trans hb2; have HB2 := Lib.hid (HB1.out.trans (hb2.mono HB1.out.size)); have HX2 := Lib.hid (HX.out.keep hb2 HX.out.lt); have HH2 := Lib.hid (HH.out.below hb2); have c0 : w2.cell? ⟨p, 0, none⟩ = some (.slice (some x) N cap) := (by rw [HNN.out]; exact HH2.out.rdr.c0); have c1 := HH2.out.rdr.c1; have hxl : (x.add (k * 6)).block < W1.heap.size := Nat.lt_trans hlow (Nat.lt_of_le_of_lt (Nat.le_refl _) HX.out.lt); have t0 := (hb2.cell hxl).trans t0; have t1 := (hb2.cell (p := ⟨(x.add (k * 6)).block, _, none⟩) hxl).trans t1; have t2 := (hb2.cell (p := ⟨(x.add (k * 6)).block, _, none⟩) hxl).trans t2; have t3 := (hb2.cell (p := ⟨(x.add (k * 6)).block, _, none⟩) hxl).trans t3; have t4 := (hb2.cell (p := ⟨(x.add (k * 6)).block, _, none⟩) hxl).trans t4; have t5 := (hb2.cell (p := ⟨(x.add (k * 6)).block, _, none⟩) hxl).trans t5; have z0 := HX2.out.fz 0; have z1 := HX2.out.fz 1; have z2 := HX2.out.fz 2; have z3 := HX2.out.fz 3; have z4 := HX2.out.fz 4; have z5 := HX2.out.fz 5; have y0 := HX2.out.c 0 rfl; have y1 := HX2.out.c 1 rfl; have y2 := HX2.out.c 2 rfl; have y3 := HX2.out.c 3 rfl; have y4 := HX2.out.c 4 rfl; have y5 := HX2.out.c 5 rfl; clear hb2))
      go_upto_region 3 with (fail)
      go_region
      all_goals go_wp2
      all_goals have hq := HX2.out
      all_goals exact bodyPost_ret (tokRes rfl rfl (bx_drew (bx_set6 hq)) rfl) rfl ⟨.inr ⟨HG.out, by rw [← HNN.out]; exact HK.out, rfl⟩, (below_set6 HB2.out (Nat.le_refl _)).drew⟩
  · have hg : gL L k = .no := by unfold gL; rw [if_neg (by omega)]
    have hd : decide (L.length ≤ k) = true := decide_eq_true (by omega)
    unfold NextD
    rw [hg]
    clear hg
    go_enter Tryd.func28, Tryd.ntmps28
    go_upto_region 1 with (fail)
    rw [← HW1.out]
    go_region
    all_goals go_wp2
    all_goals exact bodyPost_ret (tokRes rfl rfl (bx_drew (bx_set6 HX.out)) rfl) rfl ⟨.inl ⟨trivial, rfl⟩, (below_set6 HB1.out (Nat.le_refl _)).drew⟩
end Go.Proofs.YtddeoemkjedonaaDoor
