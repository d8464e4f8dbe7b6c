/- Parse's deferred function: what is given up is told. -/
import Derived.Test.YtddeoemkjedonaaGreatDoorMEbOut
import Derived.Recover
namespace Go.Proofs.YtddeoemkjedonaaGreatDoor
open Go.RowKit Go.Shelf
set_option maxRecDepth 100000

def placeOf (L : List TokE) (n q : Nat) : Int := if q = L.length then n else (L.getD q default).pl
theorem begin_any (L : List TokE) (a : Option Addr) (cap n q : Nat) (w : World) (hq : q ≤ L.length) (hT : Toks w a L) (hl : L.length ≤ 140737488355328) : Calls Tryz.prog 11 #[.slice a L.length cap, .int .i64 q, .int .i64 n] w fun e w' => e = .returned (.int .i64 (placeOf L n q)) ∧ w = w' := by
  unfold placeOf
  by_cases h : q = L.length
  · rw [if_pos h, h]
    generalize L.length = N
    go_enter Tryz.func11, Tryz.ntmps11
    go_wp2
    go_ret
    exact ⟨rfl, rfl⟩
  · rw [if_neg h]
    obtain ⟨x, rfl, h0, h1, h2, h3, h4, h5⟩ := hT q (by omega)
    have d1 : ((q : Int) == (L.length : Int)) = false := beq_eq_false_iff_ne.2 (by omega)
    have hlt : q < L.length := by omega
    clear hT h
    generalize L.length = N at *
    go_enter Tryz.func11, Tryz.ntmps11
    go_wp2
    go_ret
    exact ⟨rfl, rfl⟩
theorem cell_set_far {W : World} {b c : Nat} {i j : Nat} {v : Value} {x : Option Value} (h : b ≠ c) (h2 : W.cell? ⟨c, j, none⟩ = x) : (W.setCell ⟨b, i, none⟩ v).cell? ⟨c, j, none⟩ = x :=
  (World.cell?_setCell_other _ _ _ _ (fun e => h (congrArg Addr.block e))).trans h2
theorem cell_set_fard {W : World} {b c : Nat} {i j : Nat} {v : Value} {x : Option Value} (h : b ≠ c) (h2 : W.cell? ⟨c, j, none⟩ = x) : (W.setCell ⟨b, i, none⟩ v).drew.cell? ⟨c, j, none⟩ = x := cell_set_far h h2
/-- the named results are set -/
def ShutP (B pe pa pf : Nat) (at_ fl : Int) (w w' : World) : Prop :=
  Bx w' pe 26 [.slice none 0 0] ∧ Bx w' pa 3 [.int .i64 at_] ∧ Bx w' pf 27 [.int .i64 fl] ∧ Below B w w'
set_option maxHeartbeats 2000000 in
theorem shut_panic (B pl pt pe pa pf : Nat) (L : List TokE) (a b : Option Addr) (cap n capn q : Nat) (fl : Int) (ve va vf : Value) (w : World) (hq : q ≤ L.length) (hT : Toks w a L) (hl : L.length ≤ 140737488355328)
    (c1 : w.cell? ⟨pl, 0, none⟩ = some (.slice a L.length cap)) (c2 : w.cell? ⟨pt, 0, none⟩ = some (.slice b n capn)) (hxe : Bx w pe 26 [ve]) (hxa : Bx w pa 3 [va]) (hxf : Bx w pf 27 [vf])
    (hea : pe ≠ pa) (hef : pe ≠ pf) (haf : pa ≠ pf) (hle : pe ≠ pl) (hla : pa ≠ pl) (hlf : pf ≠ pl) (hte : pe ≠ pt) (hta : pa ≠ pt) (htf : pf ≠ pt) (hBe : B ≤ pe) (hBa : B ≤ pa) (hBf : B ≤ pf) :
    CallsD Tryz.prog 10 #[.pointer (some ⟨pl, 0, none⟩), .pointer (some ⟨pt, 0, none⟩), .pointer (some ⟨pe, 0, none⟩), .pointer (some ⟨pa, 0, none⟩), .pointer (some ⟨pf, 0, none⟩)] (.panicking [{ v := .iface 37 (.agg #[.int .i64 q, .int .i64 fl]), recovered := false }]) w fun e u' w' =>
      e = .returned (.tuple #[]) ∧ u' = .panicking [{ v := .iface 37 (.agg #[.int .i64 q, .int .i64 fl]), recovered := true }] ∧ ShutP B pe pa pf (placeOf L n q) fl w w' := by
  refine callsD_of_wpS Tryz.func10 rfl fun c₀ cs hu => ?_
  apply wpS_seq
  apply wpS_region
  simp [wpOpsS, go_sem, recoverD, hu, Tryz.ntmps10, Exit.thenS]
  refine wpS_of_wp (Code.wp_mono (Q := fun e a' w' => (e = .normal ∨ e = .ret) ∧ a'.defers = [] ∧ ShutP B pe pa pf (placeOf L n q) fl w w') ?_ ?_)
  · rintro e a' w' ⟨he, hd, hs⟩
    rcases he with rfl | rfl <;> simp_all [bodyPostS, results, Tryz.results10, Exit.thenS]
  have HB := Lib.hid (fun W hW => begin_any L a cap n q W hq hW hl)
  have HT := Lib.hid hT
  clear hT
  generalize L.length = N at c1 HB
  refine Eq.mpr (congrArg (fun t : Array Value => Code.wp Tryz.prog _ _ ⟨t, []⟩ w) (show _ = (#[.pointer (some ⟨pl, 0, none⟩), .pointer (some ⟨pt, 0, none⟩), .pointer (some ⟨pe, 0, none⟩), .pointer (some ⟨pa, 0, none⟩), .pointer (some ⟨pf, 0, none⟩), .iface 37 (.agg #[.int .i64 q, .int .i64 fl]), undef, .iface 37 (.agg #[.int .i64 q, .int .i64 fl]), undef, undef, undef, undef, undef, undef, undef, undef, undef, undef, undef, undef, undef] : Array Value) from rfl)) ?_
  have hass : ∀ (v : Value) (W : World), (Instr.typeAssert (.iface 37 v) 20 37 false).run Tryz.prog W = .ok v W := fun v W => rfl
  go_wp2_with (fail)
  obtain ⟨W1, hW1⟩ : ∃ W1, W1 = w.alloc (.cells #[.int .i64 q, .int .i64 fl] 37) := ⟨_, rfl⟩
  have hb1 : Below w.heap.size w W1 := by rw [hW1]; exact (Below.refl _ w).alloc (Nat.le_refl _) _
  have hg : Bx W1 w.heap.size 37 [.int .i64 q, .int .i64 fl] := by rw [hW1]; exact Bx.new w _ _
  rw [← hW1]
  have g0 := hg.c 0 rfl
  have g1 := hg.c 1 rfl
  have l1 : W1.cell? ⟨pl, 0, none⟩ = some (.slice a N cap) := (hb1.cell (World.block_lt_of_cell? w _ c1)).trans c1
  have l2 : W1.cell? ⟨pt, 0, none⟩ = some (.slice b n capn) := (hb1.cell (World.block_lt_of_cell? w _ c2)).trans c2
  have he1 := hxe.keep hb1 hxe.lt
  have ha1 := hxa.keep hb1 hxa.lt
  have hf1 := hxf.keep hb1 hxf.lt
  have e0 := he1.c 0 rfl
  have a0 := ha1.c 0 rfl
  have f0 := hf1.c 0 rfl
  have ez := he1.fz 0
  have az := ha1.fz 0
  have fz := hf1.fz 0
  have HE := Lib.hid he1
  have HA := Lib.hid ha1
  have HF := Lib.hid hf1
  have HB1 := Lib.hid hb1
  have lte := hxe.lt
  have lta := hxa.lt
  have ltf := hxf.lt
  have HTW : Hid (∀ W, (∀ b : Nat, b < w.heap.size → W.heap[b]? = w.heap[b]?) → Calls Tryz.prog 11 #[.slice a N cap, .int .i64 q, .int .i64 n] W fun e w' => e = .returned (.int .i64 (placeOf L n q)) ∧ W = w') := Lib.hid fun W hW => HB.out W (fun i hi => by
    obtain ⟨x, hx, h0, h1, h2, h3, h4, h5⟩ := HT.out i hi
    have hl : (x.add (i * 6)).block < w.heap.size := World.block_lt_of_cell? w _ h0
    exact ⟨x, hx, (World.cell?_of_block (hW _ hl)).trans h0, (World.cell?_of_block (a := ⟨(x.add (i * 6)).block, _, none⟩) (hW _ hl)).trans h1, (World.cell?_of_block (a := ⟨(x.add (i * 6)).block, _, none⟩) (hW _ hl)).trans h2, (World.cell?_of_block (a := ⟨(x.add (i * 6)).block, _, none⟩) (hW _ hl)).trans h3, (World.cell?_of_block (a := ⟨(x.add (i * 6)).block, _, none⟩) (hW _ hl)).trans h4, (World.cell?_of_block (a := ⟨(x.add (i * 6)).block, _, none⟩) (hW _ hl)).trans h5⟩)
  clear hxe hxa hxf he1 ha1 hf1 hg hW1 c1 c2 hb1 HB
  go_region_held3 (fun W' => W'.cell? ⟨pl, 0, none⟩ = some (.slice a N cap) ∧ W'.cell? ⟨pt, 0, none⟩ = some (.slice b n capn) ∧ W'.cell? ⟨w.heap.size, 0, none⟩ = some (.int .i64 q) ∧ W'.cell? ⟨w.heap.size, 1, none⟩ = some (.int .i64 fl))
    (first | (refine ⟨?_, ?_, ?_, ?_⟩ <;> (repeat (first | assumption | (refine cell_set_far (by omega) ?_) | (refine cell_set_fard (by omega) ?_)))) | go_keep)
    (first | (go_at_call 11; refine (HTW.out W1.drew (fun b hb => HB1.out.block b hb)).mono ?_; rintro e w' ⟨rfl, rfl⟩))
  have X1 : Bx ((W1.setCell ⟨pe, 0, none⟩ (.slice none 0 0)).setCell ⟨pa, 0, none⟩ (.int .i64 (placeOf L n q))) pe 26 [.slice none 0 0] := (HE.out.set 0 _).other hea _ _
  have X2 : Bx ((W1.setCell ⟨pe, 0, none⟩ (.slice none 0 0)).setCell ⟨pa, 0, none⟩ (.int .i64 (placeOf L n q))) pa 3 [.int .i64 (placeOf L n q)] := (HA.out.other (Ne.symm hea) _ _).set 0 _
  have X3 : Bx ((W1.setCell ⟨pe, 0, none⟩ (.slice none 0 0)).setCell ⟨pa, 0, none⟩ (.int .i64 (placeOf L n q))) pf 27 [vf] := (HF.out.other (Ne.symm hef) _ _).other (Ne.symm haf) _ _
  exact ⟨.inl rfl, rfl, X1.other hef _ _, X2.other haf _ _, X3.set 0 _, ((((HB1.out.mono (by omega)).setCell hBe _).setCell hBa _).setCell hBf _).drew⟩
end Go.Proofs.YtddeoemkjedonaaGreatDoor
