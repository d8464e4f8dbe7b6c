/- Read. -/
import Derived.Test.YtddeoemkjedonaaDoorEbMay
import Derived.Test.YtddeoemkjedonaaDoorEpShut
import Derived.Test.YtddeoemkjedonaaDoorExIn
import Derived.Deep.RegionHeld3
import Derived.Recover
namespace Go.Proofs.YtddeoemkjedonaaDoor
open Go.RowKit Go.Shelf
set_option maxRecDepth 100000

set_option maxHeartbeats 2000000 in
theorem qshut_idle (args : Array Value) (hz : args.size = 3) (w : World) : CallsD Tryd.prog 8 args .returning w fun e u' w' => e = .returned (.tuple #[]) ∧ u' = .returning ∧ w' = w := by
  refine callsD_of_wpS Tryd.func8 rfl fun c₀ cs hu => ?_
  obtain ⟨v0, v1, v2, rfl⟩ : ∃ v0 v1 v2, args = #[v0, v1, v2] := by
    obtain ⟨l⟩ := args
    match l, hz with
    | [a, b, c], _ => exact ⟨a, b, c, rfl⟩
  apply wpS_seq
  apply wpS_region
  simp [wpOpsS, go_sem, recoverD, hu, Tryd.ntmps8, Exit.thenS]
  refine wpS_of_wp (Code.wp_mono (Q := fun e a' w' => (e = .normal ∨ e = .ret) ∧ a'.defers = [] ∧ w' = w) ?_ ?_)
  · rintro e a' w' ⟨he, hd, hs⟩
    cases c₀
    rcases he with rfl | rfl <;> simp_all [bodyPostS, results, Tryd.results8, Exit.thenS]
  refine Eq.mpr (congrArg (fun t : Array Value => Code.wp Tryd.prog _ _ ⟨t, []⟩ w) (show _ = (#[v0, v1, v2, .nilIface, undef, .nilIface, undef, undef, undef, undef, undef, undef, undef, undef, undef] : Array Value) from rfl)) ?_
  go_wp2
set_option maxHeartbeats 2000000 in
theorem qshut_panic (B pe pa pf q : Nat) (fl : Int) (ve va vf : Value) (w : World) (hxe : Bx w pe 27 [ve]) (hxa : Bx w pa 3 [va]) (hxf : Bx w pf 28 [vf])
    (hea : pe ≠ pa) (hef : pe ≠ pf) (haf : pa ≠ pf) (hBe : B ≤ pe) (hBa : B ≤ pa) (hBf : B ≤ pf) :
    CallsD Tryd.prog 8 #[.pointer (some ⟨pe, 0, none⟩), .pointer (some ⟨pa, 0, none⟩), .pointer (some ⟨pf, 0, none⟩)] (.panicking [{ v := .iface 39 (.agg #[.int .i64 q, .int .i64 fl]), recovered := false }]) w fun e u' w' =>
      e = .returned (.tuple #[]) ∧ u' = .panicking [{ v := .iface 39 (.agg #[.int .i64 q, .int .i64 fl]), recovered := true }] ∧ ShutP B pe pa pf q fl w w' := by
  refine callsD_of_wpS Tryd.func8 rfl fun c₀ cs hu => ?_
  apply wpS_seq
  apply wpS_region
  simp [wpOpsS, go_sem, recoverD, hu, Tryd.ntmps8, Exit.thenS]
  refine wpS_of_wp (Code.wp_mono (Q := fun e a' w' => (e = .normal ∨ e = .ret) ∧ a'.defers = [] ∧ ShutP B pe pa pf q fl w w') ?_ ?_)
  · rintro e a' w' ⟨he, hd, hs⟩
    rcases he with rfl | rfl <;> simp_all [bodyPostS, results, Tryd.results8, Exit.thenS]
  refine Eq.mpr (congrArg (fun t : Array Value => Code.wp Tryd.prog _ _ ⟨t, []⟩ w) (show _ = (#[.pointer (some ⟨pe, 0, none⟩), .pointer (some ⟨pa, 0, none⟩), .pointer (some ⟨pf, 0, none⟩), .iface 39 (.agg #[.int .i64 q, .int .i64 fl]), undef, .iface 39 (.agg #[.int .i64 q, .int .i64 fl]), undef, undef, undef, undef, undef, undef, undef, undef, undef] : Array Value) from rfl)) ?_
  have hass : ∀ (v : Value) (W : World), (Instr.typeAssert (.iface 39 v) 20 39 false).run Tryd.prog W = .ok v W := fun v W => rfl
  go_wp2_with (fail)
  obtain ⟨W1, hW1⟩ : ∃ W1, W1 = w.alloc (.cells #[.int .i64 q, .int .i64 fl] 39) := ⟨_, rfl⟩
  have hb1 : Below w.heap.size w W1 := by rw [hW1]; exact (Below.refl _ w).alloc (Nat.le_refl _) _
  have hg : Bx W1 w.heap.size 39 [.int .i64 q, .int .i64 fl] := by rw [hW1]; exact Bx.new w _ _
  rw [← hW1]
  have g0 := hg.c 0 rfl
  have g1 := hg.c 1 rfl
  have he1 := hxe.keep hb1 hxe.lt
  have ha1 := hxa.keep hb1 hxa.lt
  have hf1 := hxf.keep hb1 hxf.lt
  have e0 := he1.c 0 rfl
  have a0 := ha1.c 0 rfl
  have f0 := hf1.c 0 rfl
  have ez := he1.fz 0
  have az := ha1.fz 0
  have fz := hf1.fz 0
  have HE := Lib.hid he1
  have HA := Lib.hid ha1
  have HF := Lib.hid hf1
  have HB1 := Lib.hid hb1
  have lte := hxe.lt
  have lta := hxa.lt
  have ltf := hxf.lt
  clear hxe hxa hxf he1 ha1 hf1 hg hW1 hb1
  go_region
  have X1 : Bx ((W1.setCell ⟨pe, 0, none⟩ (.slice none 0 0)).setCell ⟨pa, 0, none⟩ (.int .i64 q)) pe 27 [.slice none 0 0] := (HE.out.set 0 _).other hea _ _
  have X2 : Bx ((W1.setCell ⟨pe, 0, none⟩ (.slice none 0 0)).setCell ⟨pa, 0, none⟩ (.int .i64 q)) pa 3 [.int .i64 q] := (HA.out.other (Ne.symm hea) _ _).set 0 _
  have X3 : Bx ((W1.setCell ⟨pe, 0, none⟩ (.slice none 0 0)).setCell ⟨pa, 0, none⟩ (.int .i64 q)) pf 28 [vf] := (HF.out.other (Ne.symm hef) _ _).other (Ne.symm haf) _ _
  exact ⟨.inl rfl, rfl, X1.other hef _ _, X2.other haf _ _, X3.set 0 _, ((((HB1.out.mono (by omega)).setCell hBe _).setCell hBa _).setCell hBf _).drew⟩
/-- what Read tells of what was read from a place on -/
def RdR (L : List TokE) (k : Nat) (o : Option Ex) (at_ f : Int) : Prop :=
  (∃ q, Rd (gL L) (.lvl 1) k (.bad q) ∧ o = none ∧ at_ = (q : Nat) ∧ f = 50) ∨
  (∃ t q, Rd (gL L) (.lvl 1) k (.ok t q) ∧ faultT t ≠ 0 ∧ o = none ∧ at_ = (k : Nat) ∧ f = faultT t) ∨
  (∃ t q, Rd (gL L) (.lvl 1) k (.ok t q) ∧ faultT t = 0 ∧ o = some t ∧ at_ = (q : Nat) ∧ f = 0)
def ReadD (L : List TokE) (k : Nat) (w : World) (e : Ending) (w' : World) : Prop :=
  ((∃ at_ f : Int, RdR L k none at_ f ∧ e = .returned (.tuple #[.agg #[.slice none 0 0], .int .i64 at_, .int .i64 f])) ∨
   (∃ t g c, ∃ at_ : Int, RdR L k (some t) at_ 0 ∧ e = .returned (.tuple #[.agg #[.slice (some ⟨g, 0, none⟩) (cnt t) c], .int .i64 at_, .int .i64 0]) ∧ w.heap.size ≤ g ∧ g < w'.heap.size ∧ NodesAt w' g (lay 0 t))) ∧ Below w.heap.size w w'
theorem new3 (w : World) (T1 T2 T3 : TypeId) (c1 c2 c3 : List Value) : ∃ W, W = ((w.alloc (.cells c1.toArray T1)).alloc (.cells c2.toArray T2)).alloc (.cells c3.toArray T3) ∧
    Bx W w.heap.size T1 c1 ∧ Bx W (w.heap.size + 1) T2 c2 ∧ Bx W (w.heap.size + 1 + 1) T3 c3 ∧ Below w.heap.size w W ∧ W.heap.size = w.heap.size + 3 := by
  have s1 : (w.alloc (.cells c1.toArray T1)).heap.size = w.heap.size + 1 := by simp
  have s2 : ((w.alloc (.cells c1.toArray T1)).alloc (.cells c2.toArray T2)).heap.size = w.heap.size + 1 + 1 := by simp
  have x1 := Bx.new w T1 c1
  have x2 := Bx.new (w.alloc (.cells c1.toArray T1)) T2 c2
  have x3 := Bx.new ((w.alloc (.cells c1.toArray T1)).alloc (.cells c2.toArray T2)) T3 c3
  rw [s1] at x2
  rw [s2] at x3
  have b2 : Below (w.heap.size + 1) (w.alloc (.cells c1.toArray T1)) ((w.alloc (.cells c1.toArray T1)).alloc (.cells c2.toArray T2)) := (Below.refl _ _).alloc (by omega) _
  have b3 : Below (w.heap.size + 1 + 1) ((w.alloc (.cells c1.toArray T1)).alloc (.cells c2.toArray T2)) (((w.alloc (.cells c1.toArray T1)).alloc (.cells c2.toArray T2)).alloc (.cells c3.toArray T3)) := (Below.refl _ _).alloc (by omega) _
  refine ⟨_, rfl, (x1.keep b2 (by omega)).keep b3 (by omega), x2.keep b3 (by omega), x3, ?_, by simp⟩
  exact (((Below.refl _ w).alloc (Nat.le_refl _) _).trans (b2.mono (by omega))).trans (b3.mono (by omega))
theorem rtoks_blk {w w' : World} {a : Option Addr} {L : List TokE} (h : Toks w a L) (hb : ∀ x, a = some x → ∀ n, w'.heap[(x.add n).block]? = w.heap[(x.add n).block]?) : Toks w' a L := fun i hi => by
  obtain ⟨x, hx, h0, h1, h2, h3, h4, h5⟩ := h i hi
  have hl := hb x hx (i * 6)
  exact ⟨x, hx, (World.cell?_of_block hl).trans h0, (World.cell?_of_block (a := ⟨(x.add (i * 6)).block, _, none⟩) hl).trans h1, (World.cell?_of_block (a := ⟨(x.add (i * 6)).block, _, none⟩) hl).trans h2, (World.cell?_of_block (a := ⟨(x.add (i * 6)).block, _, none⟩) hl).trans h3, (World.cell?_of_block (a := ⟨(x.add (i * 6)).block, _, none⟩) hl).trans h4, (World.cell?_of_block (a := ⟨(x.add (i * 6)).block, _, none⟩) hl).trans h5⟩
theorem qresults_cells3 {fn : Func} {p q r : Tmp} {t1 t2 t3 : TypeId} (h : fn.results = #[.cell p t1, .cell q t2, .cell r t3]) (tmps : Array Value) (P : Program) (w : World) :
    (results fn tmps).run P w =
      ((asAddr (tmps.getD p undef)).run P w).andThen fun a w₁ => ((loadVar t1 a).run P w₁).andThen fun v w₂ =>
      ((asAddr (tmps.getD q undef)).run P w₂).andThen fun a w₃ => ((loadVar t2 a).run P w₃).andThen fun v2 w₄ =>
      ((asAddr (tmps.getD r undef)).run P w₄).andThen fun a w₅ => ((loadVar t3 a).run P w₅).andThen fun v3 w₆ => .ok (.tuple #[v, v2, v3]) w₆ := by
  simp only [results, h]
  simp [Sem.run_bind, Result.andThen]
theorem qreadRes {fn : Func} {p q r : Tmp} {tmps : Array Value} {W : World} {b1 b2 b3 : Nat} {v : Value} {x y : Int} (hf : fn.results = #[.cell p 27, .cell q 3, .cell r 28])
    (h1 : tmps.getD p undef = .pointer (some ⟨b1, 0, none⟩)) (h2 : tmps.getD q undef = .pointer (some ⟨b2, 0, none⟩)) (h3 : tmps.getD r undef = .pointer (some ⟨b3, 0, none⟩))
    (x1 : Bx W b1 27 [v]) (x2 : Bx W b2 3 [.int .i64 x]) (x3 : Bx W b3 28 [.int .i64 y]) :
    (results fn tmps).run Tryd.prog W = .ok (.tuple #[.agg #[v], .int .i64 x, .int .i64 y]) W := by
  have c1 := x1.c 0 rfl
  have c2 := x2.c 0 rfl
  have c3 := x3.c 0 rfl
  rw [qresults_cells3 hf, h1, h2, h3]
  simp [asAddr, go_sem, c1, c2, c3, Result.andThen]
/-- behind a panic: the deferred function tells what is given up -/
theorem rdoor_panic (L : List TokE) (k pe pa pf q : Nat) (fl : Int) (ve va vf : Value) (w W : World) (tmps : Array Value) (hp : RdR L k none (q : Nat) fl)
    (h2 : tmps.getD 4 undef = .pointer (some ⟨pe, 0, none⟩)) (h3 : tmps.getD 5 undef = .pointer (some ⟨pa, 0, none⟩)) (h4 : tmps.getD 6 undef = .pointer (some ⟨pf, 0, none⟩))
    (xe : Bx W pe 27 [ve]) (xa : Bx W pa 3 [va]) (xf : Bx W pf 28 [vf]) (hB : Below w.heap.size w W)
    (hea : pe ≠ pa) (hef : pe ≠ pf) (haf : pa ≠ pf) (hBe : w.heap.size ≤ pe) (hBa : w.heap.size ≤ pa) (hBf : w.heap.size ≤ pf) :
    Leaves Tryd.prog Tryd.f5 tmps (ReadD L k w) [{ target := .fn (.func 8) #[.pointer (some ⟨pe, 0, none⟩), .pointer (some ⟨pa, 0, none⟩), .pointer (some ⟨pf, 0, none⟩)], args := #[] }]
      (.panicking [{ v := .iface 39 (.agg #[.int .i64 q, .int .i64 fl]), recovered := false }]) W := by
  refine leaves_cons (f := 8) (args := #[.pointer (some ⟨pe, 0, none⟩), .pointer (some ⟨pa, 0, none⟩), .pointer (some ⟨pf, 0, none⟩)]) (by simp) (by simp [go_sem]) ?_
  refine (qshut_panic w.heap.size pe pa pf q fl ve va vf W xe xa xf hea hef haf hBe hBa hBf).mono ?_
  rintro e u' w' ⟨rfl, rfl, s1, s2, s3, s4⟩
  exact ⟨_, qreadRes rfl h2 h3 h4 s1 s2 s3, .inl ⟨_, _, hp, rfl⟩, hB.trans s4⟩
set_option maxHeartbeats 4000000 in
theorem read_any (a : Option Addr) (cap k : Nat) (L : List TokE) (w : World) (hk : k ≤ L.length) (hT : Toks w a L) (low : ∀ x, a = some x → ∀ n, (x.add n).block < w.heap.size) (hlen : L.length ≤ 1000000) (hR : ∀ i, (L.getD i default).rl < 18446744073709551616) (hTab : Tab w) (hgs : 0 < w.heap.size) :
    Calls Tryd.prog 5 #[.slice a L.length cap, .int .i64 k] w (ReadD L k w) := by
  have hmf : ∀ (fn : Fn) (first cap : Array Value) (w : World), (Instr.makeFunc fn first cap).run Tryd.prog w = .ok (.func fn first cap) w := fun _ _ _ _ => rfl
  obtain ⟨W0, hW0, x2, x3, x4, hb0, hs0⟩ := new3 w 27 3 28 [.slice none 0 0] [.int .i64 0] [.int .i64 0]
  obtain ⟨W4, hW4⟩ : ∃ W4, W4 = W0.alloc (.cells #[.slice a L.length cap, .int .i64 k, .slice none 0 0] 41) := ⟨_, rfl⟩
  have hb4 : Below W0.heap.size W0 W4 := by rw [hW4]; exact (Below.refl _ W0).alloc (Nat.le_refl _) _
  have hst : St W4 W0.heap.size cap a L k (.slice none 0 0) [] := by
    refine ⟨by rw [hW4]; exact heap_alloc_new _ _, rtoks_blk hT (fun x hx n => ?_), fun x hx n => by have := low x hx n; omega, World.ownsRow_nil _ _ _ _, by omega, hk, hTab.of_block ?_, by omega⟩
    · have hl := low x hx n
      exact (hb4.block _ (by omega)).trans (hb0.block _ hl)
    · exact (hb4.block _ (by omega)).trans (hb0.block _ hgs)
  have HLV := Lib.hid (level_any W0.heap.size cap k 1 a L (by omega) hR (.slice none 0 0) [] W4 (Nat.zero_le _) hst (by omega) (by omega))
  have HW0 := Lib.hid hW0
  have HW4 := Lib.hid hW4
  have HS0 := Lib.hid hs0
  -- what is known in any world behind
  have HW : Hid (∀ W, Below W0.heap.size W4 W → Bx W w.heap.size 27 [.slice none 0 0] ∧ Bx W (w.heap.size + 1) 3 [.int .i64 0] ∧ Bx W (w.heap.size + 1 + 1) 28 [.int .i64 0] ∧ Below w.heap.size w W) := Lib.hid (fun W hW => by
    have hb := hb4.trans hW
    exact ⟨x2.keep hb (by omega), x3.keep hb (by omega), x4.keep hb (by omega), hb0.trans (hb.mono (by omega))⟩)
  have HD : Hid (∀ (W : World) (q : Nat) (fl : Int) (tmps : Array Value), Below W0.heap.size W4 W → RdR L k none (q : Nat) fl → tmps.getD 4 undef = .pointer (some ⟨w.heap.size, 0, none⟩) → tmps.getD 5 undef = .pointer (some ⟨w.heap.size + 1, 0, none⟩) → tmps.getD 6 undef = .pointer (some ⟨w.heap.size + 1 + 1, 0, none⟩) →
    Leaves Tryd.prog Tryd.f5 tmps (ReadD L k w) [{ target := .fn (.func 8) #[.pointer (some ⟨w.heap.size, 0, none⟩), .pointer (some ⟨w.heap.size + 1, 0, none⟩), .pointer (some ⟨w.heap.size + 1 + 1, 0, none⟩)], args := #[] }]
      (.panicking [{ v := .iface 39 (.agg #[.int .i64 q, .int .i64 fl]), recovered := false }]) W) := Lib.hid (fun W q fl tmps hW hp h2 h3 h4 => by
    obtain ⟨k2, k3, k4, k7⟩ := HW.out W hW
    exact rdoor_panic L k w.heap.size (w.heap.size + 1) (w.heap.size + 1 + 1) q fl _ _ _ w W tmps hp h2 h3 h4 k2 k3 k4 k7 (by omega) (by omega) (by omega) (by omega) (by omega) (by omega))
  clear hT low hR hTab hgs hW0 x2 x3 x4 hb0 hs0 hb4 hst hW4
  have d1 : decide ((L.length : Int) < (k : Int)) = false := decide_eq_false (by omega)
  go_enter_defers Tryd.func5, Tryd.ntmps5
  go_upto_region 1 with (fail)
  rw [← HW0.out]
  go_upto_region 5 with (fail)
  rw [← HW4.out]
  generalize hp : W0.heap.size = p at *
  go_upto_region 6 with (go_at_call 9; refine HLV.out.mono ?_; rintro e w5 ⟨he, hb⟩; have HB5 := Lib.hid hb; clear hb; rcases he with ⟨q, hq, rfl⟩ | ⟨t, q, nv', hq, hcq, rfl, hst⟩ <;> simp only [gaveUp])
  · exact HD.out w5 q 50 _ HB5.out (.inl ⟨q, hq, rfl, rfl, rfl⟩) rfl rfl rfl
  have hqL := hq.ok_le (by omega) hk
  have hcp := cnt_pos t
  have hstn := hst
  rw [show ([] : List Nd) ++ lay ([] : List Nd).length t = lay 0 t from rfl] at hstn
  obtain ⟨g, gc, rfl, hg1, hg2, hnodes⟩ := hstn.nodes (by rw [lay_len]; omega)
  rw [lay_len] at hstn
  have HWH := Lib.hid (ewhole_any p cap q g gc k a L t w5.drew (hq.wf (by omega)) (by omega) (hstn.below (drew_below w5)) (hnodes.keep (drew_below w5) hg2) hg2)
  have HST := Lib.hid (hstn.below (drew_below w5))
  have HQ := Lib.hid hq
  have HG := Lib.hid (And.intro hg1 hg2)
  have HN := Lib.hid (hnodes.keep (drew_below w5) hg2)
  have HB6 : Hid (Below p W4 w5.drew) := Lib.hid HB5.out.drew
  have hpz : p < w5.drew.heap.size := hstn.rdr.lt
  have c1 := hstn.rdr.c1
  clear hst hstn hq hnodes hg1 hg2 hp
  by_cases hf : faultT t = 0
  · have HF := Lib.hid hf
    have HWG : Hid (Calls Tryd.prog 10 #[.pointer (some ⟨p, 0, none⟩), .int .i64 k] w5.drew fun e w' => e = .returned (.agg #[.slice (some ⟨g, 0, none⟩) (cnt t) gc]) ∧ Below w5.drew.heap.size w5.drew w') := Lib.hid (HWH.out.mono (fun e w' h => by
      obtain ⟨hc, hb⟩ := h
      rcases hc with ⟨h0, _⟩ | ⟨_, he⟩
      · exact absurd HF.out h0
      · exact ⟨he, hb⟩))
    clear hf HWH
    have q1 : w.heap.size ≠ p := by have := HS0.out; omega
    have q2 : w.heap.size + 1 ≠ p := by have := HS0.out; omega
    have q3 : w.heap.size + 1 + 1 ≠ p := by have := HS0.out; omega
    go_region_held3 (fun W => W.cell? ⟨p, 1, none⟩ = some (.int .i64 q))
      (first | assumption | (repeat (first | assumption | (refine cell_set_far q1 ?_) | (refine cell_set_far q2 ?_) | (refine cell_set_far q3 ?_))) | go_keep)
      (first | (go_at_call 10; refine HWG.out.mono ?_; rintro e w6 ⟨rfl, hb6⟩; have c1' := (HST.out.below hb6).rdr.c1; have HB7 := Lib.hid (HB6.out.trans (hb6.mono (Nat.le_of_lt hpz))); have HN7 := Lib.hid (HN.out.keep hb6 HG.out.2); have HS7 := Lib.hid hb6.size; have hk7 := HW.out w6 HB7.out; have b2 := hk7.1.c 0 rfl; have b3 := hk7.2.1.c 0 rfl; have b4 := hk7.2.2.1.c 0 rfl; have e2 := hk7.1.fz 0; have e3 := hk7.2.1.fz 0; have e4 := hk7.2.2.1.fz 0; have HK7 := Lib.hid hk7; clear hb6 hk7))
    have hK7 := HK7.out
    have hg7 := HG.out
    have hs7 : w5.heap.size ≤ w6.heap.size := HS7.out
    have hs0 := HS0.out
    have X2 : Bx (((w6.setCell ⟨w.heap.size, 0, none⟩ (.slice (some ⟨g, 0, none⟩) (cnt t) gc)).setCell ⟨w.heap.size + 1, 0, none⟩ (.int .i64 (q : Nat))).setCell ⟨w.heap.size + 1 + 1, 0, none⟩ (.int .i64 0)) w.heap.size 27 [.slice (some ⟨g, 0, none⟩) (cnt t) gc] := ((hK7.1.set 0 _).other (by omega) _ _).other (by omega) _ _
    have X3 : Bx (((w6.setCell ⟨w.heap.size, 0, none⟩ (.slice (some ⟨g, 0, none⟩) (cnt t) gc)).setCell ⟨w.heap.size + 1, 0, none⟩ (.int .i64 (q : Nat))).setCell ⟨w.heap.size + 1 + 1, 0, none⟩ (.int .i64 0)) (w.heap.size + 1) 3 [.int .i64 (q : Nat)] := ((hK7.2.1.other (by omega) _ _).set 0 _).other (by omega) _ _
    have X4 : Bx (((w6.setCell ⟨w.heap.size, 0, none⟩ (.slice (some ⟨g, 0, none⟩) (cnt t) gc)).setCell ⟨w.heap.size + 1, 0, none⟩ (.int .i64 (q : Nat))).setCell ⟨w.heap.size + 1 + 1, 0, none⟩ (.int .i64 0)) (w.heap.size + 1 + 1) 28 [.int .i64 0] := ((hK7.2.2.1.other (by omega) _ _).other (by omega) _ _).set 0 _
    have XN : NodesAt (((w6.setCell ⟨w.heap.size, 0, none⟩ (.slice (some ⟨g, 0, none⟩) (cnt t) gc)).setCell ⟨w.heap.size + 1, 0, none⟩ (.int .i64 (q : Nat))).setCell ⟨w.heap.size + 1 + 1, 0, none⟩ (.int .i64 0)) g (lay 0 t) := fun i j v hi hj => cell_set_far (by omega) (cell_set_far (by omega) (cell_set_far (by omega) (HN7.out i j v hi hj)))
    have XB : Below w.heap.size w (((w6.setCell ⟨w.heap.size, 0, none⟩ (.slice (some ⟨g, 0, none⟩) (cnt t) gc)).setCell ⟨w.heap.size + 1, 0, none⟩ (.int .i64 (q : Nat))).setCell ⟨w.heap.size + 1 + 1, 0, none⟩ (.int .i64 0)) := ((hK7.2.2.2.setCell (Nat.le_refl _) _).setCell (by show w.heap.size ≤ w.heap.size + 1; omega) _).setCell (by show w.heap.size ≤ w.heap.size + 1 + 1; omega) _
    have H2 := Lib.hid X2
    have H3 := Lib.hid X3
    have H4 := Lib.hid X4
    have HXN := Lib.hid XN
    have HXB := Lib.hid XB
    rename_i hHeld
    clear hHeld X2 X3 X4 XN XB hK7 b2 b3 b4 e2 e3 e4 c1'
    go_wp2
    refine leaves_cons (f := 8) (args := #[.pointer (some ⟨w.heap.size, 0, none⟩), .pointer (some ⟨w.heap.size + 1, 0, none⟩), .pointer (some ⟨w.heap.size + 1 + 1, 0, none⟩)]) (by simp) (by simp [go_sem]) ?_
    refine (qshut_idle _ rfl _).mono ?_
    rintro e u' w' ⟨rfl, rfl, rfl⟩
    exact ⟨_, qreadRes rfl rfl rfl rfl H2.out H3.out H4.out, .inr ⟨t, g, gc, (q : Nat), .inr (.inr ⟨t, q, HQ.out, HF.out, rfl, rfl, rfl⟩), rfl, by omega, by simp; omega, HXN.out⟩, HXB.out⟩
  · have HF := Lib.hid hf
    have HWG : Hid (Calls Tryd.prog 10 #[.pointer (some ⟨p, 0, none⟩), .int .i64 k] w5.drew fun e w' => e = gaveUp k (faultT t) ∧ Below w5.drew.heap.size w5.drew w') := Lib.hid (HWH.out.mono (fun e w' h => by
      obtain ⟨hc, hb⟩ := h
      rcases hc with ⟨_, he⟩ | ⟨h0, _⟩
      · exact ⟨he, hb⟩
      · exact absurd h0 HF.out))
    generalize hfl : faultT t = fl at HWG
    have HFL := Lib.hid hfl
    clear hf HWH hfl
    refine wp_region_any (by kernel_rfl) ?_
    refine wpAny_ready (rs := [0, 2]) (by kernel_rfl) (by simp) ?_
    refine AllReady.cons rfl (fun K hK => ?_) ?_
    · (go_simp; refine hK _ _ ?_; clear hK K)
      refine wpAny_ready (rs := [1, 2]) (by kernel_rfl) (by simp) ?_
      refine AllReady.cons rfl (fun K hK => ?_) ?_
      · (go_simp; refine HWG.out.mono ?_; rintro e w6 ⟨rfl, hb6⟩; exact HD.out w6 k fl _ (HB6.out.trans (hb6.mono (Nat.le_of_lt hpz))) (.inr (.inl ⟨t, q, HQ.out, HF.out, rfl, rfl, HFL.out.symm⟩)) rfl rfl rfl)
      refine AllReady.cons rfl (fun K hK => ?_) ?_
      · (go_simp; refine hK _ _ ?_; clear hK K)
        refine wpAny_ready (rs := [1, 3]) (by kernel_rfl) (by simp) ?_
        refine AllReady.cons rfl (fun K hK => ?_) ?_
        · (go_simp; refine HWG.out.mono ?_; rintro e w6 ⟨rfl, hb6⟩; exact HD.out w6 k fl _ (HB6.out.trans (hb6.mono (Nat.le_of_lt hpz))) (.inr (.inl ⟨t, q, HQ.out, HF.out, rfl, rfl, HFL.out.symm⟩)) rfl rfl rfl)
        refine AllReady.cons rfl (fun K hK => ?_) ?_
        · (go_simp; refine hK _ _ ?_; clear hK K)
          refine wpAny_ready (rs := [1]) (by kernel_rfl) (by simp) ?_
          refine AllReady.cons rfl (fun K hK => ?_) ?_
          · (go_simp; refine HWG.out.mono ?_; rintro e w6 ⟨rfl, hb6⟩; exact HD.out w6 k fl _ (HB6.out.trans (hb6.mono (Nat.le_of_lt hpz))) (.inr (.inl ⟨t, q, HQ.out, HF.out, rfl, rfl, HFL.out.symm⟩)) rfl rfl rfl)
          exact AllReady.nil
        exact AllReady.nil
      exact AllReady.nil
    refine AllReady.cons rfl (fun K hK => ?_) ?_
    · (go_simp; refine hK _ _ ?_; clear hK K)
      refine wpAny_ready (rs := [0, 3]) (by kernel_rfl) (by simp) ?_
      refine AllReady.cons rfl (fun K hK => ?_) ?_
      · (go_simp; refine hK _ _ ?_; clear hK K)
        refine wpAny_ready (rs := [1, 3]) (by kernel_rfl) (by simp) ?_
        refine AllReady.cons rfl (fun K hK => ?_) ?_
        · (go_simp; refine HWG.out.mono ?_; rintro e w6 ⟨rfl, hb6⟩; exact HD.out w6 k fl _ (HB6.out.trans (hb6.mono (Nat.le_of_lt hpz))) (.inr (.inl ⟨t, q, HQ.out, HF.out, rfl, rfl, HFL.out.symm⟩)) rfl rfl rfl)
        refine AllReady.cons rfl (fun K hK => ?_) ?_
        · (go_simp; refine hK _ _ ?_; clear hK K)
          refine wpAny_ready (rs := [1]) (by kernel_rfl) (by simp) ?_
          refine AllReady.cons rfl (fun K hK => ?_) ?_
          · (go_simp; refine HWG.out.mono ?_; rintro e w6 ⟨rfl, hb6⟩; exact HD.out w6 k fl _ (HB6.out.trans (hb6.mono (Nat.le_of_lt hpz))) (.inr (.inl ⟨t, q, HQ.out, HF.out, rfl, rfl, HFL.out.symm⟩)) rfl rfl rfl)
          exact AllReady.nil
        exact AllReady.nil
      refine AllReady.cons rfl (fun K hK => ?_) ?_
      · (go_simp; refine hK _ _ ?_; clear hK K)
        refine wpAny_ready (rs := [0]) (by kernel_rfl) (by simp) ?_
        refine AllReady.cons rfl (fun K hK => ?_) ?_
        · (go_simp; refine hK _ _ ?_; clear hK K)
          refine wpAny_ready (rs := [1]) (by kernel_rfl) (by simp) ?_
          refine AllReady.cons rfl (fun K hK => ?_) ?_
          · (go_simp; refine HWG.out.mono ?_; rintro e w6 ⟨rfl, hb6⟩; exact HD.out w6 k fl _ (HB6.out.trans (hb6.mono (Nat.le_of_lt hpz))) (.inr (.inl ⟨t, q, HQ.out, HF.out, rfl, rfl, HFL.out.symm⟩)) rfl rfl rfl)
          exact AllReady.nil
        exact AllReady.nil
      exact AllReady.nil
    exact AllReady.nil
end Go.Proofs.YtddeoemkjedonaaDoor
