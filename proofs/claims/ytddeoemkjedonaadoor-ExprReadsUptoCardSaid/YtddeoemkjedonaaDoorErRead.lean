/- Read out of its bounds; the reference's Read. -/
import Derived.Test.YtddeoemkjedonaaDoorEqRead
import Derived.Test.YtddeoemkjedonaaDoorMErSize
namespace Go.Proofs.YtddeoemkjedonaaDoor
open Go.RowKit Go.Shelf
set_option maxRecDepth 100000

def outR (n : Nat) (fi : Int) : Prop := fi < 0 ∨ (n : Int) < fi
def RArg (w : World) (e : Ending) (w' : World) : Prop := e = .returned (.tuple #[.agg #[.slice none 0 0], .int .i64 0, .int .i64 2]) ∧ Below w.heap.size w w'
set_option maxHeartbeats 2000000 in
theorem read_arg (a : Option Addr) (cap n : Nat) (fi : Int) (w : World) (h : outR n fi) : Calls Tryd.prog 5 #[.slice a n cap, .int .i64 fi] w (RArg w) := by
  obtain ⟨W0, hW0, x2, x3, x4, hb0, hs0⟩ := new3 w 27 3 28 [.slice none 0 0] [.int .i64 0] [.int .i64 0]
  have HW0 := Lib.hid hW0
  have HX2 := Lib.hid x2
  have HX3 := Lib.hid x3
  have HX4 := Lib.hid x4
  have HB0 := Lib.hid hb0
  have b2 := x2.c 0 rfl
  have b3 := x3.c 0 rfl
  have b4 := x4.c 0 rfl
  have e2 := x2.fz 0
  have e3 := x3.fz 0
  have e4 := x4.fz 0
  have Y2 : Hid (Bx (((W0.setCell ⟨w.heap.size, 0, none⟩ (.slice none 0 0)).setCell ⟨w.heap.size + 1, 0, none⟩ (.int .i64 0)).setCell ⟨w.heap.size + 1 + 1, 0, none⟩ (.int .i64 2)) w.heap.size 27 [.slice none 0 0]) := Lib.hid (((x2.set 0 _).other (by omega) _ _).other (by omega) _ _)
  have Y3 : Hid (Bx (((W0.setCell ⟨w.heap.size, 0, none⟩ (.slice none 0 0)).setCell ⟨w.heap.size + 1, 0, none⟩ (.int .i64 0)).setCell ⟨w.heap.size + 1 + 1, 0, none⟩ (.int .i64 2)) (w.heap.size + 1) 3 [.int .i64 0]) := Lib.hid (((x3.other (by omega) _ _).set 0 _).other (by omega) _ _)
  have Y4 : Hid (Bx (((W0.setCell ⟨w.heap.size, 0, none⟩ (.slice none 0 0)).setCell ⟨w.heap.size + 1, 0, none⟩ (.int .i64 0)).setCell ⟨w.heap.size + 1 + 1, 0, none⟩ (.int .i64 2)) (w.heap.size + 1 + 1) 28 [.int .i64 2]) := Lib.hid (((x4.other (by omega) _ _).other (by omega) _ _).set 0 _)
  have YB : Hid (Below w.heap.size w (((W0.setCell ⟨w.heap.size, 0, none⟩ (.slice none 0 0)).setCell ⟨w.heap.size + 1, 0, none⟩ (.int .i64 0)).setCell ⟨w.heap.size + 1 + 1, 0, none⟩ (.int .i64 2))) := Lib.hid (((hb0.setCell (Nat.le_refl _) _).setCell (by show w.heap.size ≤ w.heap.size + 1; omega) _).setCell (by show w.heap.size ≤ w.heap.size + 1 + 1; omega) _)
  clear hW0 x2 x3 x4 hb0 hs0
  rcases h with h | h
  · have d1 : decide (fi < 0) = true := decide_eq_true h
    go_enter_defers Tryd.func5, Tryd.ntmps5
    go_upto_region 1 with (fail)
    rw [← HW0.out]
    go_wp2
    exact ⟨_, qreadRes rfl rfl rfl rfl Y2.out Y3.out Y4.out, rfl, YB.out⟩
  · have d1 : decide (fi < 0) = false := decide_eq_false (by omega)
    have d2 : decide ((n : Int) < fi) = true := decide_eq_true h
    go_enter_defers Tryd.func5, Tryd.ntmps5
    go_upto_region 1 with (fail)
    rw [← HW0.out]
    go_wp2
    exact ⟨_, qreadRes rfl rfl rfl rfl Y2.out Y3.out Y4.out, rfl, YB.out⟩
theorem rresults_ctt {fn : Func} {p q r : Tmp} {t1 : TypeId} (h : fn.results = #[.cell p t1, .tmp q, .tmp r]) (tmps : Array Value) (P : Program) (w : World) :
    (results fn tmps).run P w = ((asAddr (tmps.getD p undef)).run P w).andThen fun a w₁ => ((loadVar t1 a).run P w₁).andThen fun v w₂ => .ok (.tuple #[v, tmps.getD q undef, tmps.getD r undef]) w₂ := by
  simp only [results, h]
  simp [Sem.run_bind, Result.andThen]
theorem rreadRes {fn : Func} {p q r : Tmp} {tmps : Array Value} {W : World} {b1 : Nat} {v : Value} {x y : Int} (hf : fn.results = #[.cell p 27, .tmp q, .tmp r])
    (h1 : tmps.getD p undef = .pointer (some ⟨b1, 0, none⟩)) (h2 : tmps.getD q undef = .int .i64 x) (h3 : tmps.getD r undef = .int .i64 y) (x1 : Bx W b1 27 [v]) :
    (results fn tmps).run Tryd.prog W = .ok (.tuple #[.agg #[v], .int .i64 x, .int .i64 y]) W := by
  have c1 := x1.c 0 rfl
  rw [rresults_ctt hf, h1, h2, h3]
  simp [asAddr, go_sem, c1, Result.andThen]
set_option maxHeartbeats 2000000 in
theorem rread_arg (a : Option Addr) (cap n : Nat) (fi : Int) (w : World) (h : outR n fi) : Calls Tryd.prog 6 #[.slice a n cap, .int .i64 fi] w (RArg w) := by
  obtain ⟨W0, hW0, hx0, hb0⟩ : ∃ W0, W0 = w.alloc (.cells #[.slice none 0 0] 27) ∧ Bx W0 w.heap.size 27 [.slice none 0 0] ∧ Below w.heap.size w W0 := ⟨_, rfl, Bx.new w 27 [.slice none 0 0], (Below.refl _ w).alloc (Nat.le_refl _) _⟩
  have HW0 := Lib.hid hW0
  have HX0 := Lib.hid hx0
  have HB0 := Lib.hid hb0
  have c0 := hx0.c 0 rfl
  have f0 := hx0.fz 0
  clear hW0 hx0 hb0
  rcases h with h | h
  · have d1 : decide (fi < 0) = true := decide_eq_true h
    go_enter Tryd.func6, Tryd.ntmps6
    go_upto_region 1 with (fail)
    rw [← HW0.out]
    go_wp2
    exact bodyPost_ret (rreadRes rfl rfl rfl rfl (HX0.out.set 0 _)) rfl ⟨rfl, HB0.out.setCell (Nat.le_refl _) _⟩
  · have d1 : decide (fi < 0) = false := decide_eq_false (by omega)
    have d2 : decide ((n : Int) < fi) = true := decide_eq_true h
    go_enter Tryd.func6, Tryd.ntmps6
    go_upto_region 1 with (fail)
    rw [← HW0.out]
    go_wp2
    exact bodyPost_ret (rreadRes rfl rfl rfl rfl (HX0.out.set 0 _)) rfl ⟨rfl, HB0.out.setCell (Nat.le_refl _) _⟩
set_option maxHeartbeats 4000000 in
theorem rread_any (a : Option Addr) (cap k : Nat) (L : List TokE) (w : World) (hk : k ≤ L.length) (hT : Toks w a L) (low : ∀ x, a = some x → ∀ n, (x.add n).block < w.heap.size) (hlen : L.length ≤ 1000000) (hR : ∀ i, (L.getD i default).rl < 18446744073709551616) (hS : ∀ i, (L.getD i default).tx.size ≤ 140737488351232) :
    Calls Tryd.prog 6 #[.slice a L.length cap, .int .i64 k] w (ReadD L k w) := by
  obtain ⟨W0, hW0, hx0, hb0⟩ : ∃ W0, W0 = w.alloc (.cells #[.slice none 0 0] 27) ∧ Bx W0 w.heap.size 27 [.slice none 0 0] ∧ Below w.heap.size w W0 := ⟨_, rfl, Bx.new w 27 [.slice none 0 0], (Below.refl _ w).alloc (Nat.le_refl _) _⟩
  have hz0 : W0.heap.size = w.heap.size + 1 := by rw [hW0]; simp
  obtain ⟨W3, hW3⟩ : ∃ W3, W3 = W0.alloc (.cells #[.slice a L.length cap, .int .i64 k, .int .i64 (-1)] 46) := ⟨_, rfl⟩
  have hb3 : Below W0.heap.size W0 W3 := by rw [hW3]; exact (Below.refl _ W0).alloc (Nat.le_refl _) _
  have hst : RSt W3 W0.heap.size cap a L k (-1) := by
    refine ⟨by rw [hW3]; exact heap_alloc_new _ _, rtoks_blk hT (fun x hx n => ?_), fun x hx n => by have := low x hx n; omega, by omega, hk, hS, hR⟩
    have hl := low x hx n
    exact (hb3.block _ (by omega)).trans (hb0.block _ hl)
  have HLV := Lib.hid (rlevel_any W0.heap.size cap k 1 a L (by omega) W3 hst (by omega) (by omega))
  have HW0 := Lib.hid hW0
  have HW3 := Lib.hid hW3
  have HX3 := Lib.hid (hx0.keep hb3 (by omega))
  have HB3 := Lib.hid (hb0.trans (hb3.mono (by omega)))
  have hne : w.heap.size ≠ W0.heap.size := by omega
  have hzz : w.heap.size ≤ W0.heap.size := by omega
  clear hT low hR hS hW0 hx0 hb0 hz0 hW3 hb3 hst
  have d1 : decide ((L.length : Int) < (k : Int)) = false := decide_eq_false (by omega)
  go_enter Tryd.func6, Tryd.ntmps6
  go_upto_region 1 with (fail)
  rw [← HW0.out]
  go_upto_region 4 with (fail)
  rw [← HW3.out]
  generalize hp : W0.heap.size = p at *
  go_upto_region 5 with (go_at_call 11; refine HLV.out.mono ?_; rintro e w5 ⟨he, hb, ho⟩; have HB5 := Lib.hid (HB3.out.trans (hb.mono hzz)); have HX5 := Lib.hid (HX3.out.keep hb (by omega)); clear hb ho; rcases he with ⟨q, k', hq, rfl, hst⟩ | ⟨t, q, qa, hq, hcq, rfl, hst, htr⟩)
  · have c2 := hst.rdr.c2
    have fx := HX5.out.fz 0
    have x0 := HX5.out.c 0 rfl
    have HPR : Hid (RdR L k none (q : Nat) 50) := Lib.hid (.inl ⟨q, hq, rfl, rfl, rfl⟩)
    clear hst hq hp
    go_upto_region 6 with (fail)
    go_region
    all_goals go_wp2
    all_goals exact bodyPost_ret (rreadRes rfl rfl rfl rfl (by first | exact HX5.out.set 0 _ | exact bx_drew (HX5.out.set 0 _))) rfl ⟨.inl ⟨_, _, HPR.out, rfl⟩, by first | exact (HB5.out.setCell (Nat.le_refl _) _).drew | exact (HB5.out.drew).setCell (Nat.le_refl _) _⟩
  · have hqL := hq.ok_le (by omega) hk
    have hcp := cnt_pos t
    have HLM := Lib.hid (limits_any t _ qa w5 htr (by omega))
    have HTR := Lib.hid htr
    have HQ := Lib.hid hq
    have HST := Lib.hid hst
    have fx := HX5.out.fz 0
    have x0 := HX5.out.c 0 rfl
    have c1 := hst.rdr.c1
    by_cases hf : faultT t = 0
    · have HF := Lib.hid hf
      rw [hf] at HLM
      have HLA := Lib.hid (laid_any t _ qa w5.heap.size [] (.slice none 0 0) w5 w5.drew htr rfl (drew_below w5) (World.ownsRow_nil _ _ _ _) (by show 0 + cnt t ≤ 1000000000; omega))
      have hzw : w.heap.size < w5.heap.size := HX5.out.lt
      have hpw : p < w5.heap.size := hst.rdr.lt
      clear hq hst htr hf hp
      go_upto_region 10 with (go_at_call 12; refine HLM.out.mono ?_; rintro e w6 ⟨rfl, rfl⟩)
      go_region_held3 (fun W => W.cell? ⟨p, 1, none⟩ = some (.int .i64 q))
        (first | assumption | (repeat (first | assumption | (refine cell_set_far hne ?_))) | go_keep)
        (first | (go_at_call 13; refine HLA.out.mono ?_; rintro e w7 ⟨g, c, rfl, hrow, hgg, hs7, hf7, hb7⟩; obtain ⟨g', c', he', hg1, hg2, hnd⟩ := nodes_own (ns := lay 0 t) (by rw [lay_len]; exact (Nat.zero_add _).symm) (by show 0 < 0 + cnt t; omega) hrow; injection he' with e1 e2 e3; injection e1 with e1; injection e1 with e1; subst e1; subst e3; have HND := Lib.hid hnd; have HG := Lib.hid (And.intro hg1 hg2); have hb7' : Below w5.heap.size w5 w7 := (drew_below w5).trans hb7; have HX7 := Lib.hid (HX5.out.keep hb7' hzw); have HB7 := Lib.hid (HB5.out.trans (hb7'.mono (Nat.le_of_lt hzw))); have f7 := HX7.out.fz 0; have c7 := HX7.out.c 0 rfl; have c1' : w7.cell? ⟨p, 1, none⟩ = some (.int .i64 q) := ((HST.out.below hb7').rdr.c1); clear hrow hgg hs7 hf7 hb7 hb7' hnd hg1 hg2))
      have hG := HG.out
      have XN : NodesAt (w7.setCell ⟨w.heap.size, 0, none⟩ (.slice (some ⟨g, 0, none⟩) (cnt t) c)) g (lay 0 t) := fun i j v hi hj => cell_set_far (by omega) (HND.out i j v hi hj)
      have HXN := Lib.hid XN
      rename_i hHeld
      clear hHeld XN
      go_wp2
      exact bodyPost_ret (rreadRes rfl rfl rfl rfl (HX7.out.set 0 _)) rfl ⟨.inr ⟨t, g, c, (q : Nat), .inr (.inr ⟨t, q, HQ.out, HF.out, rfl, rfl, rfl⟩), rfl, by omega, by simp; omega, HXN.out⟩, HB7.out.setCell (Nat.le_refl _) _⟩
    · have HF := Lib.hid hf
      have df : (faultT t == 0) = false := beq_eq_false_iff_ne.2 hf
      generalize hfl : faultT t = fl at HLM df
      have HFL := Lib.hid hfl
      clear hq hst htr hf hfl hp
      go_wp2_with (go_at_call 12; refine HLM.out.mono ?_; rintro e w6 ⟨rfl, rfl⟩)
      exact bodyPost_ret (rreadRes rfl rfl rfl rfl (HX5.out.set 0 _)) rfl ⟨.inl ⟨_, _, .inr (.inl ⟨t, q, HQ.out, HF.out, rfl, rfl, HFL.out.symm⟩), rfl⟩, HB5.out.setCell (Nat.le_refl _) _⟩
end Go.Proofs.YtddeoemkjedonaaDoor
