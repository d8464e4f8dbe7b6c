/- Parse. -/
import Derived.Test.YtddeoemkjedonaaGreatDoorEpShut
import Derived.Test.YtddeoemkjedonaaGreatDoorMEpScan
import Derived.Deep.RegionHeld3
namespace Go.Proofs.YtddeoemkjedonaaGreatDoor
open Go.RowKit Go.Shelf
set_option maxRecDepth 100000

set_option maxHeartbeats 2000000 in
theorem shut_idle (args : Array Value) (hz : args.size = 5) (w : World) : CallsD Tryz.prog 10 args .returning w fun e u' w' => e = .returned (.tuple #[]) ∧ u' = .returning ∧ w' = w := by
  refine callsD_of_wpS Tryz.func10 rfl fun c₀ cs hu => ?_
  obtain ⟨v0, v1, v2, v3, v4, rfl⟩ : ∃ v0 v1 v2 v3 v4, args = #[v0, v1, v2, v3, v4] := by
    obtain ⟨l⟩ := args
    match l, hz with
    | [a, b, c, d, e], _ => exact ⟨a, b, c, d, e, rfl⟩
  apply wpS_seq
  apply wpS_region
  simp [wpOpsS, go_sem, recoverD, hu, Tryz.ntmps10, Exit.thenS]
  refine wpS_of_wp (Code.wp_mono (Q := fun e a' w' => (e = .normal ∨ e = .ret) ∧ a'.defers = [] ∧ w' = w) ?_ ?_)
  · rintro e a' w' ⟨he, hd, hs⟩
    cases c₀
    rcases he with rfl | rfl <;> simp_all [bodyPostS, results, Tryz.results10, Exit.thenS]
  refine Eq.mpr (congrArg (fun t : Array Value => Code.wp Tryz.prog _ _ ⟨t, []⟩ w) (show _ = (#[v0, v1, v2, v3, v4, .nilIface, undef, .nilIface, undef, undef, undef, undef, undef, undef, undef, undef, undef, undef, undef, undef, undef] : Array Value) from rfl)) ?_
  go_wp2
/-- what Parse and Read tell of what was read -/
def ParR (L : List TokE) (n : Nat) (o : Option Ex) (at_ f : Int) : Prop :=
  (∃ q, Rd (gL L) (.lvl 1) 0 (.bad q) ∧ o = none ∧ at_ = placeOf L n q ∧ f = 50) ∨
  (∃ t q, Rd (gL L) (.lvl 1) 0 (.ok t q) ∧ q < L.length ∧ o = none ∧ at_ = placeOf L n q ∧ f = 50) ∨
  (∃ t, Rd (gL L) (.lvl 1) 0 (.ok t L.length) ∧ faultT t ≠ 0 ∧ o = none ∧ at_ = placeOf L n 0 ∧ f = faultT t) ∨
  (∃ t, Rd (gL L) (.lvl 1) 0 (.ok t L.length) ∧ faultT t = 0 ∧ o = some t ∧ at_ = 0 ∧ f = 0)
def ParseD (l : List UInt8) (n : Nat) (w : World) (e : Ending) (w' : World) : Prop :=
  ((∃ at_ f : Int, (((allR l).2.2 ≠ 0 ∧ at_ = ((allR l).2.1 : Nat) ∧ f = ((allR l).2.2 : Nat)) ∨ ((allR l).2.2 = 0 ∧ ParR (toksL l) n none at_ f)) ∧ e = .returned (.tuple #[.agg #[.slice none 0 0], .int .i64 at_, .int .i64 f])) ∨
   (∃ t g c, (allR l).2.2 = 0 ∧ ParR (toksL l) n (some t) 0 0 ∧ e = .returned (.tuple #[.agg #[.slice (some ⟨g, 0, none⟩) (cnt t) c], .int .i64 0, .int .i64 0]) ∧ w.heap.size ≤ g ∧ g < w'.heap.size ∧ NodesAt w' g (lay 0 t))) ∧ Below w.heap.size w w'
theorem new4 (w : World) (T1 T2 T3 T4 : TypeId) (c1 c2 c3 c4 : List Value) : ∃ W, W = (((w.alloc (.cells c1.toArray T1)).alloc (.cells c2.toArray T2)).alloc (.cells c3.toArray T3)).alloc (.cells c4.toArray T4) ∧
    Bx W w.heap.size T1 c1 ∧ Bx W (w.heap.size + 1) T2 c2 ∧ Bx W (w.heap.size + 1 + 1) T3 c3 ∧ Bx W (w.heap.size + 1 + 1 + 1) T4 c4 ∧ Below w.heap.size w W ∧ W.heap.size = w.heap.size + 4 := by
  have s1 : (w.alloc (.cells c1.toArray T1)).heap.size = w.heap.size + 1 := by simp
  have s2 : ((w.alloc (.cells c1.toArray T1)).alloc (.cells c2.toArray T2)).heap.size = w.heap.size + 1 + 1 := by simp
  have s3 : (((w.alloc (.cells c1.toArray T1)).alloc (.cells c2.toArray T2)).alloc (.cells c3.toArray T3)).heap.size = w.heap.size + 1 + 1 + 1 := by simp
  have x1 := Bx.new w T1 c1
  have x2 := Bx.new (w.alloc (.cells c1.toArray T1)) T2 c2
  have x3 := Bx.new ((w.alloc (.cells c1.toArray T1)).alloc (.cells c2.toArray T2)) T3 c3
  have x4 := Bx.new (((w.alloc (.cells c1.toArray T1)).alloc (.cells c2.toArray T2)).alloc (.cells c3.toArray T3)) T4 c4
  rw [s1] at x2
  rw [s2] at x3
  rw [s3] at x4
  have b2 : Below (w.heap.size + 1) (w.alloc (.cells c1.toArray T1)) ((w.alloc (.cells c1.toArray T1)).alloc (.cells c2.toArray T2)) := (Below.refl _ _).alloc (by omega) _
  have b3 : Below (w.heap.size + 1 + 1) ((w.alloc (.cells c1.toArray T1)).alloc (.cells c2.toArray T2)) (((w.alloc (.cells c1.toArray T1)).alloc (.cells c2.toArray T2)).alloc (.cells c3.toArray T3)) := (Below.refl _ _).alloc (by omega) _
  have b4 : Below (w.heap.size + 1 + 1 + 1) (((w.alloc (.cells c1.toArray T1)).alloc (.cells c2.toArray T2)).alloc (.cells c3.toArray T3)) ((((w.alloc (.cells c1.toArray T1)).alloc (.cells c2.toArray T2)).alloc (.cells c3.toArray T3)).alloc (.cells c4.toArray T4)) := (Below.refl _ _).alloc (by omega) _
  refine ⟨_, rfl, ((x1.keep b2 (by omega)).keep b3 (by omega)).keep b4 (by omega), (x2.keep b3 (by omega)).keep b4 (by omega), x3.keep b4 (by omega), x4, ?_, by simp⟩
  exact (((Below.refl _ w).alloc (Nat.le_refl _) _).trans (b2.mono (by omega))).trans ((b3.mono (by omega)).trans (b4.mono (by omega)))
theorem results_cells3 {fn : Func} {p q r : Tmp} {t1 t2 t3 : TypeId} (h : fn.results = #[.cell p t1, .cell q t2, .cell r t3]) (tmps : Array Value) (P : Program) (w : World) :
    (results fn tmps).run P w =
      ((asAddr (tmps.getD p undef)).run P w).andThen fun a w₁ => ((loadVar t1 a).run P w₁).andThen fun v w₂ =>
      ((asAddr (tmps.getD q undef)).run P w₂).andThen fun a w₃ => ((loadVar t2 a).run P w₃).andThen fun v2 w₄ =>
      ((asAddr (tmps.getD r undef)).run P w₄).andThen fun a w₅ => ((loadVar t3 a).run P w₅).andThen fun v3 w₆ => .ok (.tuple #[v, v2, v3]) w₆ := by
  simp only [results, h]
  simp [Sem.run_bind, Result.andThen]
theorem parseRes {fn : Func} {p q r : Tmp} {tmps : Array Value} {W : World} {b1 b2 b3 : Nat} {v : Value} {x y : Int} (hf : fn.results = #[.cell p 26, .cell q 3, .cell r 27])
    (h1 : tmps.getD p undef = .pointer (some ⟨b1, 0, none⟩)) (h2 : tmps.getD q undef = .pointer (some ⟨b2, 0, none⟩)) (h3 : tmps.getD r undef = .pointer (some ⟨b3, 0, none⟩))
    (x1 : Bx W b1 26 [v]) (x2 : Bx W b2 3 [.int .i64 x]) (x3 : Bx W b3 27 [.int .i64 y]) :
    (results fn tmps).run Tryz.prog W = .ok (.tuple #[.agg #[v], .int .i64 x, .int .i64 y]) W := by
  have c1 := x1.c 0 rfl
  have c2 := x2.c 0 rfl
  have c3 := x3.c 0 rfl
  rw [results_cells3 hf, h1, h2, h3]
  simp [asAddr, go_sem, c1, c2, c3, Result.andThen]
/-- behind a panic: the deferred function tells what is given up -/
theorem door_panic (l : List UInt8) (n capn capL pl pt pe pa pf q : Nat) (b av : Option Addr) (fl : Int) (ve va vf : Value) (w W : World) (tmps : Array Value) (hz : (allR l).2.2 = 0) (hq : q ≤ (toksL l).length) (hp : ParR (toksL l) n none (placeOf (toksL l) n q) fl)
    (h2 : tmps.getD 2 undef = .pointer (some ⟨pe, 0, none⟩)) (h3 : tmps.getD 3 undef = .pointer (some ⟨pa, 0, none⟩)) (h4 : tmps.getD 4 undef = .pointer (some ⟨pf, 0, none⟩))
    (xl : Bx W pl 33 [.slice av (toksL l).length capL]) (xt : Bx W pt 22 [.slice b n capn]) (xe : Bx W pe 26 [ve]) (xa : Bx W pa 3 [va]) (xf : Bx W pf 27 [vf]) (hT : Toks W av (toksL l)) (hB : Below w.heap.size w W)
    (hea : pe ≠ pa) (hef : pe ≠ pf) (haf : pa ≠ pf) (hle : pe ≠ pl) (hla : pa ≠ pl) (hlf : pf ≠ pl) (hte : pe ≠ pt) (hta : pa ≠ pt) (htf : pf ≠ pt) (hBe : w.heap.size ≤ pe) (hBa : w.heap.size ≤ pa) (hBf : w.heap.size ≤ pf) :
    Leaves Tryz.prog Tryz.f5 tmps (ParseD l n w) [{ target := .fn (.func 10) #[.pointer (some ⟨pl, 0, none⟩), .pointer (some ⟨pt, 0, none⟩), .pointer (some ⟨pe, 0, none⟩), .pointer (some ⟨pa, 0, none⟩), .pointer (some ⟨pf, 0, none⟩)], args := #[] }]
      (.panicking [{ v := .iface 37 (.agg #[.int .i64 q, .int .i64 fl]), recovered := false }]) W := by
  refine leaves_cons (f := 10) (args := #[.pointer (some ⟨pl, 0, none⟩), .pointer (some ⟨pt, 0, none⟩), .pointer (some ⟨pe, 0, none⟩), .pointer (some ⟨pa, 0, none⟩), .pointer (some ⟨pf, 0, none⟩)]) (by simp) (by simp [go_sem]) ?_
  refine (shut_panic w.heap.size pl pt pe pa pf (toksL l) av b capL n capn q fl ve va vf W hq hT (by have := toksL_few l; omega) (xl.c 0 rfl) (xt.c 0 rfl) xe xa xf hea hef haf hle hla hlf hte hta htf hBe hBa hBf).mono ?_
  rintro e u' w' ⟨rfl, rfl, s1, s2, s3, s4⟩
  exact ⟨_, parseRes rfl h2 h3 h4 s1 s2 s3, .inl ⟨_, _, .inr ⟨hz, hp⟩, rfl⟩, hB.trans s4⟩
theorem toks_blk {w w' : World} {a : Option Addr} {L : List TokE} (h : Toks w a L) (hb : ∀ x, a = some x → ∀ n, w'.heap[(x.add n).block]? = w.heap[(x.add n).block]?) : Toks w' a L := fun i hi => by
  obtain ⟨x, hx, h0, h1, h2, h3, h4, h5⟩ := h i hi
  have hl := hb x hx (i * 6)
  exact ⟨x, hx, (World.cell?_of_block hl).trans h0, (World.cell?_of_block (a := ⟨(x.add (i * 6)).block, _, none⟩) hl).trans h1, (World.cell?_of_block (a := ⟨(x.add (i * 6)).block, _, none⟩) hl).trans h2, (World.cell?_of_block (a := ⟨(x.add (i * 6)).block, _, none⟩) hl).trans h3, (World.cell?_of_block (a := ⟨(x.add (i * 6)).block, _, none⟩) hl).trans h4, (World.cell?_of_block (a := ⟨(x.add (i * 6)).block, _, none⟩) hl).trans h5⟩
set_option maxHeartbeats 4000000 in
theorem parse_any (a : Option Addr) (n cap : Nat) (l : List UInt8) (w : World) (hT : Txt w a n cap l) (hG : Glob w) (hTab : Tab w) (hgs : 0 < w.heap.size) :
    Calls Tryz.prog 5 #[.slice a n cap] w (ParseD l n w) := by
  have hmf : ∀ (fn : Fn) (first cap : Array Value) (w : World), (Instr.makeFunc fn first cap).run Tryz.prog w = .ok (.func fn first cap) w := fun _ _ _ _ => rfl
  obtain ⟨W0, hW0, x1, x2, x3, x4, hb0, hs0⟩ := new4 w 22 26 3 27 [.slice a n cap] [.slice none 0 0] [.int .i64 0] [.int .i64 0]
  have HS := Lib.hid (escan_any a n cap l W0 (hT.below hb0 (Nat.le_refl _)) (hG.below hb0 (Nat.le_refl _)))
  have HTab := Lib.hid (hTab.of_block (hb0.block _ hgs))
  have HW0 := Lib.hid hW0
  have HX1 := Lib.hid x1
  have HX2 := Lib.hid x2
  have HX3 := Lib.hid x3
  have HX4 := Lib.hid x4
  have HB0 := Lib.hid hb0
  clear hW0 x1 x2 x3 x4 hb0 hT hG hTab
  go_enter_defers Tryz.func5, Tryz.ntmps5
  go_upto_region 2 with (fail)
  rw [← HW0.out]
  refine HS.out.mono ?_
  rintro e w1 ⟨hsc, hb1⟩
  have hz1 := hb1.size
  have hy : ∀ v : Value, Bx (w1.alloc (.cells #[v] 33)) w.heap.size 22 [.slice a n cap] ∧ Bx (w1.alloc (.cells #[v] 33)) (w.heap.size + 1) 26 [.slice none 0 0] ∧ Bx (w1.alloc (.cells #[v] 33)) (w.heap.size + 1 + 1) 3 [.int .i64 0] ∧
      Bx (w1.alloc (.cells #[v] 33)) (w.heap.size + 1 + 1 + 1) 27 [.int .i64 0] ∧ Bx (w1.alloc (.cells #[v] 33)) w1.heap.size 33 [v] ∧ Below w.heap.size w (w1.alloc (.cells #[v] 33)) ∧ Tab (w1.alloc (.cells #[v] 33)) := fun v => by
    have hb2 : Below w1.heap.size w1 (w1.alloc (.cells #[v] 33)) := (Below.refl _ w1).alloc (Nat.le_refl _) _
    have hb12 := hb1.trans (hb2.mono hz1)
    exact ⟨HX1.out.keep hb12 HX1.out.lt, HX2.out.keep hb12 HX2.out.lt, HX3.out.keep hb12 HX3.out.lt, HX4.out.keep hb12 HX4.out.lt, Bx.new w1 33 [v], HB0.out.trans (hb12.mono HB0.out.size), HTab.out.of_block (hb12.block _ (by omega))⟩
  have HZ : Hid (w1.heap.size ≥ w.heap.size + 4) := Lib.hid (by omega)
  rcases hsc with ⟨he, v, rfl, ho⟩ | ⟨he, rfl⟩
  · obtain ⟨av, vc, rfl, htoks, hblk⟩ := toks_own rfl ho
    obtain ⟨y1, y2, y3, y4, y5, hb2, hTab2⟩ := hy (.slice av (toksL l).length vc)
    have HE0 := Lib.hid he
    have HTK := Lib.hid htoks
    have HBK := Lib.hid hblk
    have hlen := toksL_few l
    have HRL := Lib.hid (toksL_real l)
    generalize hL : toksL l = L at *
    have HLL := Lib.hid hL
    have c2 := y2.c 0 rfl
    have c3 := y3.c 0 rfl
    have c4 := y4.c 0 rfl
    have f2 := y2.fz 0
    have f3 := y3.fz 0
    have f4 := y4.fz 0
    have HY1 := Lib.hid y1
    have HY2 := Lib.hid y2
    have HY3 := Lib.hid y3
    have HY4 := Lib.hid y4
    have HY5 := Lib.hid y5
    have HB2 := Lib.hid hb2
    have HT2 := Lib.hid hTab2
    clear he ho htoks hblk hL hy y1 y2 y3 y4 y5 hb2 hTab2 hb1
    go_upto_region 5 with (fail)
    obtain ⟨W3, hW3⟩ : ∃ W3, W3 = ((w1.alloc (.cells #[.slice av L.length vc] 33)).setCell ⟨w.heap.size + 1 + 1, 0, none⟩ (.int .i64 0)).setCell ⟨w.heap.size + 1 + 1 + 1, 0, none⟩ (.int .i64 0) := ⟨_, rfl⟩
    have hz3 : W3.heap.size = w1.heap.size + 1 := by rw [hW3]; simp
    rw [← hW3]
    have z1 : Bx W3 w.heap.size 22 [.slice a n cap] := by rw [hW3]; exact (HY1.out.other (by omega) _ _).other (by omega) _ _
    have z2 : Bx W3 (w.heap.size + 1) 26 [.slice none 0 0] := by rw [hW3]; exact (HY2.out.other (by omega) _ _).other (by omega) _ _
    have z3 : Bx W3 (w.heap.size + 1 + 1) 3 [.int .i64 0] := by rw [hW3]; exact (HY3.out.set 0 _).other (by omega) _ _
    have z4 : Bx W3 (w.heap.size + 1 + 1 + 1) 27 [.int .i64 0] := by rw [hW3]; exact (HY4.out.other (by omega) _ _).set 0 _
    have z5 : Bx W3 w1.heap.size 33 [.slice av L.length vc] := by rw [hW3]; exact (HY5.out.other (by have := HZ.out; omega) _ _).other (by have := HZ.out; omega) _ _
    have hb3 : Below w.heap.size w W3 := by rw [hW3]; exact (HB2.out.setCell (by simp; omega) _).setCell (by simp; omega) _
    have htk : Toks W3 av L := toks_blk HTK.out (fun x hx k => by
      have hk := HBK.out x hx k
      rw [hW3]
      exact (Below.heap_setCell _ _ _ _ (by show (x.add k).block ≠ w.heap.size + 1 + 1 + 1; omega)).trans ((Below.heap_setCell _ _ _ _ (by show (x.add k).block ≠ w.heap.size + 1 + 1; omega)).trans (((Below.refl w1.heap.size w1).alloc (Nat.le_refl _) _).block _ hk.2)))
    have htb : Tab W3 := by rw [hW3]; exact HT2.out.of_block ((Below.heap_setCell _ _ _ _ (by show 0 ≠ w.heap.size + 1 + 1 + 1; omega)).trans (Below.heap_setCell _ _ _ _ (by show 0 ≠ w.heap.size + 1 + 1; omega)))
    have c5 := z5.c 0 rfl
    have HZ1 := Lib.hid z1
    have HZ2 := Lib.hid z2
    have HZ3 := Lib.hid z3
    have HZ4 := Lib.hid z4
    have HZ5 := Lib.hid z5
    have HB3 := Lib.hid hb3
    have HTK3 := Lib.hid htk
    have HTB3 := Lib.hid htb
    have HS3 := Lib.hid hz3
    clear hW3 z1 z2 z3 z4 z5 hb3 htk htb c2 c3 c4 f2 f3 f4 HY1 HY2 HY3 HY4 HY5 HB2 HT2 HTK hz3
    go_upto_region 6 with (fail)
    obtain ⟨W4, hW4⟩ : ∃ W4, W4 = W3.alloc (.cells #[.slice av L.length vc, .int .i64 0, .slice none 0 0] 40) := ⟨_, rfl⟩
    rw [← hW4]
    have hb34 : Below W3.heap.size W3 W4 := by rw [hW4]; exact (Below.refl _ W3).alloc (Nat.le_refl _) _
    have hst : St W4 W3.heap.size vc av L 0 (.slice none 0 0) [] := by
      refine ⟨?_, toks_blk HTK3.out (fun x hx k => hb34.block _ ?_), fun x hx k => ?_, World.ownsRow_nil _ _ _ _, by omega, Nat.zero_le _, HTB3.out.of_block (hb34.block _ ?_), ?_⟩
      · rw [hW4]; exact heap_alloc_new _ _
      · have := HBK.out x hx k; have := HS3.out; omega
      · have := HBK.out x hx k; have := HS3.out; omega
      · have := HS3.out; have := HZ.out; omega
      · have := HS3.out; have := HZ.out; omega
    have HLV := Lib.hid (level_any W3.heap.size vc 0 1 av L (by omega) HRL.out (.slice none 0 0) [] W4 (Nat.le_refl _) hst (by omega) (by omega))
    have HB34 := Lib.hid hb34
    have HL3 : Hid (w1.heap.size < W3.heap.size) := Lib.hid (by have := HS3.out; omega)
    clear hW4 hb34 hst c5
    -- what is known in any world behind
    have HW : Hid (∀ W, Below W3.heap.size W4 W → Bx W w.heap.size 22 [.slice a n cap] ∧ Bx W (w.heap.size + 1) 26 [.slice none 0 0] ∧ Bx W (w.heap.size + 1 + 1) 3 [.int .i64 0] ∧ Bx W (w.heap.size + 1 + 1 + 1) 27 [.int .i64 0] ∧ Bx W w1.heap.size 33 [.slice av L.length vc] ∧ Toks W av L ∧ Below w.heap.size w W) := Lib.hid (fun W hW => by
      have hb := HB34.out.trans hW
      have := HL3.out
      have := HZ.out
      exact ⟨HZ1.out.keep hb (by omega), HZ2.out.keep hb (by omega), HZ3.out.keep hb (by omega), HZ4.out.keep hb (by omega), HZ5.out.keep hb (by omega), toks_blk HTK3.out (fun x hx k => hb.block _ (by have := HBK.out x hx k; omega)), HB3.out.trans (hb.mono (by omega))⟩)
    have HD : Hid (∀ (W : World) (q : Nat) (fl : Int) (tmps : Array Value), Below W3.heap.size W4 W → q ≤ L.length → ParR L n none (placeOf L n q) fl → tmps.getD 2 undef = .pointer (some ⟨w.heap.size + 1, 0, none⟩) → tmps.getD 3 undef = .pointer (some ⟨w.heap.size + 1 + 1, 0, none⟩) → tmps.getD 4 undef = .pointer (some ⟨w.heap.size + 1 + 1 + 1, 0, none⟩) →
      Leaves Tryz.prog Tryz.f5 tmps (ParseD l n w) [{ target := .fn (.func 10) #[.pointer (some ⟨w1.heap.size, 0, none⟩), .pointer (some ⟨w.heap.size, 0, none⟩), .pointer (some ⟨w.heap.size + 1, 0, none⟩), .pointer (some ⟨w.heap.size + 1 + 1, 0, none⟩), .pointer (some ⟨w.heap.size + 1 + 1 + 1, 0, none⟩)], args := #[] }]
        (.panicking [{ v := .iface 37 (.agg #[.int .i64 q, .int .i64 fl]), recovered := false }]) W) := Lib.hid (fun W q fl tmps hW hq hp h2 h3 h4 => by
      obtain ⟨k1, k2, k3, k4, k5, k6, k7⟩ := HW.out W hW
      have := HZ.out
      have hl := HLL.out
      subst hl
      exact door_panic l n cap vc w1.heap.size w.heap.size (w.heap.size + 1) (w.heap.size + 1 + 1) (w.heap.size + 1 + 1 + 1) q a av fl _ _ _ w W tmps HE0.out hq hp h2 h3 h4 k5 k1 k2 k3 k4 k6 k7 (by omega) (by omega) (by omega) (by omega) (by omega) (by omega) (by omega) (by omega) (by omega) (by omega) (by omega) (by omega))
    go_upto_region 7 with (go_at_call 12; refine HLV.out.mono ?_; rintro e w5 ⟨he, hb⟩; have HB5 := Lib.hid hb; clear hb; rcases he with ⟨q, hq, rfl⟩ | ⟨t, q, nv', hq, hcq, rfl, hst⟩ <;> first | (have c1 := hst.rdr.c1; have c5 := (HW.out w5 HB5.out).2.2.2.2.1.c 0 rfl) | simp only [gaveUp])
    · exact HD.out w5 q 50 _ HB5.out (hq.bad_le (by omega) (Nat.zero_le _)) (.inl ⟨q, hq, rfl, rfl, rfl⟩) rfl rfl rfl
    have hqL := hq.ok_le (by omega) (Nat.zero_le _)
    have HQ := Lib.hid hq
    have HST := Lib.hid hst
    have HC := Lib.hid hcq
    clear hq hst hcq
    rcases Nat.lt_or_ge q L.length with hlt | hge
    · have d1 : decide ((q : Int) < (L.length : Int)) = true := decide_eq_true (by omega)
      go_wp2_with (go_at_call 13; refine (give_any _ _ _ _ _ HST.out.rdr).mono ?_; rintro e w' ⟨rfl, rfl⟩; unfold gaveUp)
      exact HD.out w5 q 50 _ HB5.out hqL (.inr (.inl ⟨t, q, HQ.out, hlt, rfl, rfl, rfl⟩)) rfl rfl rfl
    · obtain rfl : q = L.length := by omega
      have d1 : decide ((L.length : Int) < (L.length : Int)) = false := decide_eq_false (by omega)
      have hp := cnt_pos t
      have hstn := HST.out
      rw [show ([] : List Nd) ++ lay ([] : List Nd).length t = lay 0 t from rfl] at hstn
      obtain ⟨g, gc, rfl, hg1, hg2, hnodes⟩ := hstn.nodes (by rw [lay_len]; omega)
      rw [lay_len] at hstn
      have HWH := Lib.hid (ewhole_any W3.heap.size vc L.length g gc 0 av L t w5 (HQ.out.wf (by omega)) (by have := HC.out; omega) hstn hnodes hg2)
      have HG := Lib.hid (And.intro hg1 hg2)
      have HN := Lib.hid hnodes
      clear hstn hnodes hg1 hg2
      go_wp2_with (go_at_call 14; refine HWH.out.mono ?_; rintro e w6 ⟨hcs, hb6⟩; have HB6 := Lib.hid (HB5.out.trans (hb6.mono (Nat.le_of_lt HST.out.rdr.lt))); have hg6 := HG.out; have HN6 := Lib.hid (HN.out.keep hb6 hg6.2); have HS6 := Lib.hid hb6.size; clear hb6; rcases hcs with ⟨hf, rfl⟩ | ⟨hf, rfl⟩ <;> first | (unfold gaveUp) | (obtain ⟨k1, k2, k3, k4, k5, k6, k7⟩ := HW.out w6 HB6.out; have b2 := k2.c 0 rfl; have b3 := k3.c 0 rfl; have b4 := k4.c 0 rfl; have e2 := k2.fz 0; have e3 := k3.fz 0; have e4 := k4.fz 0; have K2 := Lib.hid k2; have K3 := Lib.hid k3; have K4 := Lib.hid k4; have K7 := Lib.hid k7; clear k1 k2 k3 k4 k5 k6 k7))
      · exact HD.out w6 0 (faultT t) _ HB6.out (Nat.zero_le _) (.inr (.inr (.inl ⟨t, HQ.out, hf, rfl, rfl, rfl⟩))) rfl rfl rfl
      have X2 : Bx (((w6.setCell ⟨w.heap.size + 1, 0, none⟩ (.slice (some ⟨g, 0, none⟩) (cnt t) gc)).setCell ⟨w.heap.size + 1 + 1, 0, none⟩ (.int .i64 0)).setCell ⟨w.heap.size + 1 + 1 + 1, 0, none⟩ (.int .i64 0)) (w.heap.size + 1) 26 [.slice (some ⟨g, 0, none⟩) (cnt t) gc] := ((K2.out.set 0 _).other (by omega) _ _).other (by omega) _ _
      have X3 : Bx (((w6.setCell ⟨w.heap.size + 1, 0, none⟩ (.slice (some ⟨g, 0, none⟩) (cnt t) gc)).setCell ⟨w.heap.size + 1 + 1, 0, none⟩ (.int .i64 0)).setCell ⟨w.heap.size + 1 + 1 + 1, 0, none⟩ (.int .i64 0)) (w.heap.size + 1 + 1) 3 [.int .i64 0] := ((K3.out.other (by omega) _ _).set 0 _).other (by omega) _ _
      have X4 : Bx (((w6.setCell ⟨w.heap.size + 1, 0, none⟩ (.slice (some ⟨g, 0, none⟩) (cnt t) gc)).setCell ⟨w.heap.size + 1 + 1, 0, none⟩ (.int .i64 0)).setCell ⟨w.heap.size + 1 + 1 + 1, 0, none⟩ (.int .i64 0)) (w.heap.size + 1 + 1 + 1) 27 [.int .i64 0] := ((K4.out.other (by omega) _ _).other (by omega) _ _).set 0 _
      have hg6 := HG.out
      have hs6 := HS6.out
      have hz := HZ.out
      have hl3 := HL3.out
      have XN : NodesAt (((w6.setCell ⟨w.heap.size + 1, 0, none⟩ (.slice (some ⟨g, 0, none⟩) (cnt t) gc)).setCell ⟨w.heap.size + 1 + 1, 0, none⟩ (.int .i64 0)).setCell ⟨w.heap.size + 1 + 1 + 1, 0, none⟩ (.int .i64 0)) g (lay 0 t) := fun i j v hi hj => cell_set_far (by omega) (cell_set_far (by omega) (cell_set_far (by omega) (HN6.out i j v hi hj)))
      refine leaves_cons (f := 10) (args := #[.pointer (some ⟨w1.heap.size, 0, none⟩), .pointer (some ⟨w.heap.size, 0, none⟩), .pointer (some ⟨w.heap.size + 1, 0, none⟩), .pointer (some ⟨w.heap.size + 1 + 1, 0, none⟩), .pointer (some ⟨w.heap.size + 1 + 1 + 1, 0, none⟩)]) (by simp) (by simp [go_sem]) ?_
      refine (shut_idle _ rfl _).mono ?_
      rintro e u' w' ⟨rfl, rfl, rfl⟩
      exact ⟨_, parseRes rfl rfl rfl rfl X2 X3 X4, .inr ⟨t, g, gc, HE0.out, by rw [HLL.out]; exact .inr (.inr (.inr ⟨t, HQ.out, hf, rfl, rfl, rfl⟩)), rfl, by omega, by simp; omega, XN⟩, ((K7.out.setCell (by simp) _).setCell (by simp; omega) _).setCell (by simp; omega) _⟩
  · obtain ⟨y1, y2, y3, y4, y5, hb2, hTab2⟩ := hy (.slice none 0 0)
    have c1 := y1.c 0 rfl
    have c2 := y2.c 0 rfl
    have c3 := y3.c 0 rfl
    have c4 := y4.c 0 rfl
    have c5 := y5.c 0 rfl
    have f2 := y2.fz 0
    have f3 := y3.fz 0
    have f4 := y4.fz 0
    have f5 := y5.fz 0
    have HY1 := Lib.hid y1
    have HY2 := Lib.hid y2
    have HY3 := Lib.hid y3
    have HY4 := Lib.hid y4
    have HY5 := Lib.hid y5
    have HB2 := Lib.hid hb2
    obtain ⟨P, hP⟩ : ∃ P, P = (allR l).2.1 := ⟨_, rfl⟩
    obtain ⟨E, hE⟩ : ∃ E, E = (allR l).2.2 := ⟨_, rfl⟩
    rw [← hP, ← hE]
    rw [← hE] at he
    have d1 : ((E : Int) == 0) = false := beq_eq_false_iff_ne.2 (by omega)
    have d2 : ((E : Int) != 0) = true := bne_iff_ne.2 (by omega)
    have HPP := Lib.hid hP
    have HEE := Lib.hid hE
    have HE0 := Lib.hid he
    have n1 : (⟨w1.heap.size, 0, none⟩ : Addr) ≠ ⟨w.heap.size + 1 + 1, 0, none⟩ := fun e => by have := congrArg Addr.block e; have := HZ.out; simp only at *; omega
    clear hP hE he hTab2 hb1 hb2 hy y1 y2 y3 y4 y5
    go_upto_region 3 with (fail)
    obtain ⟨W3, hW3⟩ : ∃ W3, W3 = ((w1.alloc (.cells #[.slice none 0 0] 33)).setCell ⟨w.heap.size + 1 + 1, 0, none⟩ (.int .i64 (P : Nat))).setCell ⟨w.heap.size + 1 + 1 + 1, 0, none⟩ (.int .i64 (E : Nat)) := ⟨_, rfl⟩
    rw [← hW3]
    have z2 : Bx W3 (w.heap.size + 1) 26 [.slice none 0 0] := by rw [hW3]; exact (HY2.out.other (by omega) _ _).other (by omega) _ _
    have z3 : Bx W3 (w.heap.size + 1 + 1) 3 [.int .i64 P] := by rw [hW3]; exact (HY3.out.set 0 _).other (by omega) _ _
    have z4 : Bx W3 (w.heap.size + 1 + 1 + 1) 27 [.int .i64 E] := by rw [hW3]; exact (HY4.out.other (by omega) _ _).set 0 _
    have hb3 : Below w.heap.size w W3 := by rw [hW3]; exact (HB2.out.setCell (by simp; omega) _).setCell (by simp; omega) _
    have HB3 := Lib.hid hb3
    have HZ2 := Lib.hid z2
    have HZ3 := Lib.hid z3
    have HZ4 := Lib.hid z4
    have a2 := z2.c 0 rfl
    have a3 := z3.c 0 rfl
    have a4 := z4.c 0 rfl
    have e2 := z2.fz 0
    have e3 := z3.fz 0
    have e4 := z4.fz 0
    clear hW3 z2 z3 z4 hb3 c1 c2 c3 c4 c5 f2 f3 f4 f5 n1 HY1 HY2 HY3 HY4 HY5 HB2
    go_region
    have q2 : Bx (((W3.setCell ⟨w.heap.size + 1, 0, none⟩ (.slice none 0 0)).setCell ⟨w.heap.size + 1 + 1, 0, none⟩ (.int .i64 (P : Nat))).setCell ⟨w.heap.size + 1 + 1 + 1, 0, none⟩ (.int .i64 (E : Nat))) (w.heap.size + 1) 26 [.slice none 0 0] := ((HZ2.out.set 0 _).other (by omega) _ _).other (by omega) _ _
    have q3 : Bx (((W3.setCell ⟨w.heap.size + 1, 0, none⟩ (.slice none 0 0)).setCell ⟨w.heap.size + 1 + 1, 0, none⟩ (.int .i64 (P : Nat))).setCell ⟨w.heap.size + 1 + 1 + 1, 0, none⟩ (.int .i64 (E : Nat))) (w.heap.size + 1 + 1) 3 [.int .i64 P] := ((HZ3.out.other (by omega) _ _).set 0 _).other (by omega) _ _
    have q4 : Bx (((W3.setCell ⟨w.heap.size + 1, 0, none⟩ (.slice none 0 0)).setCell ⟨w.heap.size + 1 + 1, 0, none⟩ (.int .i64 (P : Nat))).setCell ⟨w.heap.size + 1 + 1 + 1, 0, none⟩ (.int .i64 (E : Nat))) (w.heap.size + 1 + 1 + 1) 27 [.int .i64 E] := ((HZ4.out.other (by omega) _ _).other (by omega) _ _).set 0 _
    have hb4 : Below w.heap.size w (((W3.setCell ⟨w.heap.size + 1, 0, none⟩ (.slice none 0 0)).setCell ⟨w.heap.size + 1 + 1, 0, none⟩ (.int .i64 (P : Nat))).setCell ⟨w.heap.size + 1 + 1 + 1, 0, none⟩ (.int .i64 (E : Nat))) := ((HB3.out.setCell (by simp) _).setCell (by simp; omega) _).setCell (by simp; omega) _
    have Q2 := Lib.hid q2
    have Q3 := Lib.hid q3
    have Q4 := Lib.hid q4
    have HB4 := Lib.hid hb4
    clear q2 q3 q4 hb4
    go_wp2
    exact ⟨_, parseRes rfl rfl rfl rfl Q2.out Q3.out Q4.out, .inl ⟨_, _, .inl ⟨by rw [← HEE.out]; exact HE0.out, by rw [← HPP.out], by rw [← HEE.out]⟩, rfl⟩, HB4.out.drew⟩
end Go.Proofs.YtddeoemkjedonaaGreatDoor
