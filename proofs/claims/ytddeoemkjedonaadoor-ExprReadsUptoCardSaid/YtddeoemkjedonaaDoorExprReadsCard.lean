/- ExprReads, where what it reads is of bulk at most 1048576: any row of tokens is read by the program's Read as the reference reads it, whether the second argument lies inside or outside: the same nodes, the same place and the same error; the tokens stay. The listed variable (the program's table of the kinds) holds what the program's text lays in it. The row and its tied card. -/
import Derived.Test.YtddeoemkjedonaaDoorCards
import Derived.Test.YtddeoemkjedonaaDoorTie
import Derived.Test.YtddeoemkjedonaaDoorEmReads
import Derived.SevenTiedAt
import Derived.ProofKit
import Derived.LaidMore
import Derived.OpenShut
import Derived.ChangeOld
import Derived.Below
import Derived.SizedLaws
import Derived.Stop.Joined
import Derived.Deep.DeepHandedRow
import Derived.Lib.LaidTab
namespace Go.Proofs.YtddeoemkjedonaaDoor
open Go.ChangeShapes Go.WideShapes Go.ChangeAt Go.RowKit
theorem own : ownKnob Tryd.prog.godebug = none := by kernel_rfl
theorem laidOut : laidOutB Tryd.prog = true := by kernel_rfl
theorem three_of {α : Type} {xs : List α} (h : xs.length = 3) : ∃ a b c, xs = [a, b, c] := by
  match xs, h with
  | [a, b, c], _ => exact ⟨a, b, c, rfl⟩
set_option maxRecDepth 100000 in
theorem shape_row {H : Type} {enc : TypeId × Value → H} {W : World} {base fuel : Nat} {sp : Nat → Bool} {held : Bool} {cs : List Value} {s : List UInt8} {a c : Int} {x : DataW H × List MemPlace} (hx : x.1 = .agg [.lit (.string s), .lit (.int .i64 a), .lit (.int .i64 c)])
    (h : DataW.trod enc Tryd.prog W base sp held fuel 61 cs = some x) : cs[0]? = some (.string ⟨s.toArray⟩) ∧ cs[1]? = some (.int .i64 a) ∧ cs[2]? = some (.int .i64 c) := by
  have z9 : Tryd.prog.cellsOf 9 = 1 := by kernel_rfl
  have z3 : Tryd.prog.cellsOf 3 = 1 := by kernel_rfl
  obtain ⟨xs, m, rfl, rfl, hl, hxl, hf⟩ := DataW.trod_struct Tryd.underlying61 h
  have h0 : DataW.trod enc Tryd.prog W base sp held m 9 ((cs.drop 0).take (Tryd.prog.cellsOf 9)) = xs[0]? := hf 0 _ rfl
  have h1 : DataW.trod enc Tryd.prog W base sp held m 3 ((cs.drop 1).take (Tryd.prog.cellsOf 3)) = xs[1]? := hf 1 _ rfl
  have h2 : DataW.trod enc Tryd.prog W base sp held m 3 ((cs.drop 2).take (Tryd.prog.cellsOf 3)) = xs[2]? := hf 2 _ rfl
  rw [z9] at h0
  rw [z3] at h1 h2
  simp only [DataW.agg.injEq] at hx
  obtain ⟨y0, y1, y2, rfl⟩ := three_of hxl
  · clear hf hl hxl
    simp only [List.map_cons, List.map_nil, List.cons.injEq, and_true] at hx
    obtain ⟨q0, q1, q2⟩ := hx
    obtain ⟨b, e0, e0', _⟩ := DataW.trod_string Tryd.underlying9 h0
    obtain ⟨n1, e1, e1', _⟩ := DataW.trod_int Tryd.underlying3 h1
    obtain ⟨n2, e2, e2', _⟩ := DataW.trod_int Tryd.underlying3 h2
    subst e0' e1' e2'
    simp only [DataW.lit.injEq, Lit.string.injEq, Lit.int.injEq, true_and] at q0 q1 q2
    subst q0 q1 q2
    refine ⟨?_, ?_, ?_⟩
    · have := congrArg (·[0]?) e0
      simpa [List.getElem?_take, List.getElem?_drop] using this
    · have := congrArg (·[0]?) e1
      simpa [List.getElem?_take, List.getElem?_drop] using this
    · have := congrArg (·[0]?) e2
      simpa [List.getElem?_take, List.getElem?_drop] using this
theorem gSha : Tryd.prog.globalNamed "chordmail/expr.shapes" = some 0 := by kernel_rfl
theorem tSha : (Tryd.prog.globals[0]?).map (·.type) = some 62 := by kernel_rfl
theorem laid_shapes : Rows.laid_chordmail_expr_shapes (H := Unit) = .agg ((List.range 27).map fun i => .agg [.lit (.string (shTx i)), .lit (.int .i64 (shLv i : Nat)), .lit (.int .i64 (shCh i : Nat))]) := rfl
theorem tab_of_cells {W : World} {cs : Array Value} {enc : TypeId × Value → Unit} {base fuel : Nat} {sp : Nat → Bool} {held : Bool} {p : List MemPlace} (hv : W.var? Tryd.prog "chordmail/expr.shapes" = some cs)
    (h : DataW.trod enc Tryd.prog W base sp held fuel 62 cs.toList = some (Rows.laid_chordmail_expr_shapes, p)) : Tab W := by
  have z : Tryd.prog.cellsOf 61 = 3 := by kernel_rfl
  obtain ⟨xs, m, rfl, hx, hl, hxl, hf⟩ := DataW.trod_array Tryd.underlying62 h
  rw [laid_shapes] at hx
  simp only [Prod.mk.injEq, DataW.agg.injEq] at hx
  intro i hi
  have hfi := hf i hi
  rw [z] at hfi
  have hxi : xs[i]? = some xs[i] := List.getElem?_eq_getElem (by omega)
  rw [hxi] at hfi
  have hx1 : (xs[i]'(by omega)).1 = .agg [.lit (.string (shTx i)), .lit (.int .i64 (shLv i : Nat)), .lit (.int .i64 (shCh i : Nat))] := by
    have := congrArg (·[i]?) hx.1
    simp only [List.getElem?_map, List.getElem?_range hi, hxi, Option.map_some, Option.some.injEq] at this
    exact this.symm
  obtain ⟨h0, h1, h2⟩ := shape_row hx1 hfi
  have hc := fun j => World.var?_cell gSha hv j
  refine ⟨?_, ?_, ?_⟩
  · rw [hc]; simpa [List.getElem?_take, List.getElem?_drop] using h0
  · rw [hc]; simpa [List.getElem?_take, List.getElem?_drop] using h1
  · rw [hc]; simpa [List.getElem?_take, List.getElem?_drop] using h2
theorem tab_of_laid {W : World} (h : laidMetH Tryd.prog Rows.exprReadsUptoRow.laid W) : Tab W := by
  rw [MakeChecks.laidMetH_plain _ _ _ (by kernel_rfl)] at h
  obtain ⟨ps, ⟨g, t, cs, f, p, q, hg, ht, hv, hd, _, _⟩, _⟩ := h
  obtain rfl := Option.some.inj (gSha.symm.trans hg)
  obtain rfl := Option.some.inj (tSha.symm.trans ht)
  exact tab_of_cells hv hd
theorem tab_size {W : World} (h : Tab W) : 0 < W.heap.size := World.block_lt_of_cell? W _ (h 0 (by omega)).1
theorem door_met (os : Os) (args : Array Value) : laidMetH Tryd.prog Rows.exprReadsUptoRow.laid ((World.doorLaid Tryd.prog 400 os).forCall (fun _ _ => 0) ⟨#[], args, []⟩).memory :=
  laidMetH_of_parts3 (fuel := 8) (laidMet_of_run' 8 (by kernel_rfl) (by kernel_rfl)) (by kernel_rfl) (by kernel_rfl)

theorem bulk_mem {H : Type} {d : DataW H} {l : List (DataW H)} (h : d ∈ l) : Rows.uptoBulk d ≤ Rows.uptoBulkAll l := by
  induction l with
  | nil => cases h
  | cons y r ih =>
    simp only [Rows.uptoBulkAll]
    rcases List.mem_cons.1 h with rfl | e
    · omega
    · have := ih e; omega
theorem bulk_seven {H : Type} {l : List (DataW H)} (h : ∀ d ∈ l, 7 ≤ Rows.uptoBulk d) : 7 * l.length ≤ Rows.uptoBulkAll l := by
  induction l with
  | nil => simp
  | cons y r ih =>
    have h1 := ih (fun d hd => h d (List.mem_cons_of_mem _ hd))
    have h2 := h y (List.mem_cons_self ..)
    simp only [Rows.uptoBulkAll, List.length_cons]
    omega
theorem six_of {α : Type} {xs : List α} (h : xs.length = 6) : ∃ a b c d e f, xs = [a, b, c, d, e, f] := by
  match xs, h with
  | [a, b, c, d, e, f], _ => exact ⟨a, b, c, d, e, f, rfl⟩
theorem trod_float {H : Type} {enc : TypeId × Value → H} {P : Program} {W : World} {base fuel : Nat} {sp : Nat → Bool} {held : Bool} {t : TypeId} {cs : List Value} {x : DataW H × List MemPlace} {k : FloatKind} (ht : P.underlying t = some (.float k))
    (h : DataW.trod enc P W base sp held fuel t cs = some x) : ∃ b, cs = [.float k b] ∧ x = (.lit (.float k b), []) ∧ (Lit.float k b).wf = true := by
  cases fuel with
  | zero => simp [DataW.trod] at h
  | succ n =>
    unfold DataW.trod at h
    rw [ht] at h
    split at h <;> simp_all
set_option maxRecDepth 100000 in
theorem tok_row {H : Type} {enc : TypeId × Value → H} {W : World} {base fuel : Nat} {sp : Nat → Bool} {held : Bool} {cs : List Value} {x : DataW H × List MemPlace}
    (h : DataW.trod enc Tryd.prog W base sp held fuel 36 cs = some x) : ∃ t : TokE, cs[0]? = some (.int .i64 t.kd) ∧ cs[1]? = some (.string t.tx) ∧ cs[2]? = some (.int .i64 t.iv) ∧ cs[3]? = some (.float .f64 t.rl) ∧ cs[4]? = some (.int .i64 t.pl) ∧ cs[5]? = some (.int .i64 t.sz) ∧ t.rl < 18446744073709551616 ∧ t.tx.size + 7 ≤ Rows.uptoBulk x.1 := by
  have z0 : Tryd.prog.cellsOf 3 = 1 := by kernel_rfl
  have z1 : Tryd.prog.cellsOf 9 = 1 := by kernel_rfl
  have z2 : Tryd.prog.cellsOf 2 = 1 := by kernel_rfl
  have z3 : Tryd.prog.cellsOf 33 = 1 := by kernel_rfl
  obtain ⟨xs, m, rfl, rfl, hl, hxl, hf⟩ := DataW.trod_struct Tryd.underlying36 h
  have h0 : DataW.trod enc Tryd.prog W base sp held m 3 ((cs.drop 0).take (Tryd.prog.cellsOf 3)) = xs[0]? := hf 0 _ rfl
  have h1 : DataW.trod enc Tryd.prog W base sp held m 9 ((cs.drop 1).take (Tryd.prog.cellsOf 9)) = xs[1]? := hf 1 _ rfl
  have h2 : DataW.trod enc Tryd.prog W base sp held m 2 ((cs.drop 2).take (Tryd.prog.cellsOf 2)) = xs[2]? := hf 2 _ rfl
  have h3 : DataW.trod enc Tryd.prog W base sp held m 33 ((cs.drop 3).take (Tryd.prog.cellsOf 33)) = xs[3]? := hf 3 _ rfl
  have h4 : DataW.trod enc Tryd.prog W base sp held m 3 ((cs.drop 4).take (Tryd.prog.cellsOf 3)) = xs[4]? := hf 4 _ rfl
  have h5 : DataW.trod enc Tryd.prog W base sp held m 3 ((cs.drop 5).take (Tryd.prog.cellsOf 3)) = xs[5]? := hf 5 _ rfl
  rw [z0] at h0 h4 h5
  rw [z1] at h1
  rw [z2] at h2
  rw [z3] at h3
  obtain ⟨y0, y1, y2, y3, y4, y5, rfl⟩ := six_of hxl
  clear hf hl hxl
  obtain ⟨n0, e0, e0', _⟩ := DataW.trod_int Tryd.underlying3 h0
  obtain ⟨b, e1, e1', _⟩ := DataW.trod_string Tryd.underlying9 h1
  obtain ⟨n2, e2, e2', _⟩ := DataW.trod_int Tryd.underlying2 h2
  obtain ⟨r, e3, e3', wr⟩ := trod_float Tryd.underlying33 h3
  obtain ⟨n4, e4, e4', _⟩ := DataW.trod_int Tryd.underlying3 h4
  obtain ⟨n5, e5, e5', _⟩ := DataW.trod_int Tryd.underlying3 h5
  subst e0' e1' e2' e3' e4' e5'
  have hr : r < 2 ^ 64 := of_decide_eq_true wr
  refine ⟨⟨n0, b, n2, r, n4, n5⟩, ?_, ?_, ?_, ?_, ?_, ?_, hr, ?_⟩
  · have := congrArg (·[0]?) e0; simpa [List.getElem?_take, List.getElem?_drop] using this
  · have := congrArg (·[0]?) e1; simpa [List.getElem?_take, List.getElem?_drop] using this
  · have := congrArg (·[0]?) e2; simpa [List.getElem?_take, List.getElem?_drop] using this
  · have := congrArg (·[0]?) e3; simpa [List.getElem?_take, List.getElem?_drop] using this
  · have := congrArg (·[0]?) e4; simpa [List.getElem?_take, List.getElem?_drop] using this
  · have := congrArg (·[0]?) e5; simpa [List.getElem?_take, List.getElem?_drop] using this
  · simp only [List.map_cons, List.map_nil, Rows.uptoBulk, Rows.uptoBulkAll]
    have : b.data.toList.length = b.size := rfl
    show b.size + 7 ≤ _
    omega
/-- a slice that is handed over lies in memory, an empty one too -/
theorem block_of_has {P : Program} {W : World} {r : Reach} {base : Nat} {t e : TypeId} {x : Addr} {len cap : Nat} (ht : P.underlying t = some (.slice e)) (h : Value.okWide P W r base t (.slice (some x) len cap)) : x.block < W.heap.size := by
  simp only [Value.okWide, ht, Cell.okWide, Cell.ok] at h
  obtain ⟨_, _, _, _, row, cells, hs, _⟩ := h
  rcases Nat.lt_or_ge x.block W.heap.size with hlt | hge
  · exact hlt
  · simp [World.shape?, Array.getElem?_eq_none hge] at hs
/-- what the form hands over of a row of tokens -/
theorem toks_of_row {H : Type} {enc : TypeId × Value → H} {W : World} {base : Nat} {sp : Nat → Bool} {held : Bool} {a : Option Addr} {len cap : Nat} {d : DataW H} {p : List MemPlace} (h : DataW.Trod enc Tryd.prog W base sp held 22 (.slice a len cap) d p)
    (hk : Rows.uptoBulk d ≤ 1048576) : ∃ L : List TokE, L.length = len ∧ Toks W a L ∧ len ≤ 1000000 ∧ (∀ i, (L.getD i default).rl < 18446744073709551616) ∧ ∀ i, (L.getD i default).tx.size ≤ 140737488351232 := by
  obtain ⟨fuel, hf⟩ := h
  rcases DataW.trod_slice Tryd.underlying22 hf with ⟨hcs, _⟩ | ⟨x, l, c, elems, rest, n, _, hcs, hx, _, hl, hm, hel, hev, _, _⟩
  · simp [Value.cells] at hcs
    obtain ⟨rfl, rfl, rfl⟩ := hcs
    exact ⟨[], rfl, fun i hi => by simp at hi, Nat.zero_le _, fun i => by simp; decide, fun i => by simp; decide⟩
  · simp [Value.cells] at hcs
    obtain ⟨rfl, rfl, rfl⟩ := hcs
    have z6 : Tryd.prog.cellsOf 36 = 6 := by kernel_rfl
    rw [z6] at hev
    simp only [Prod.mk.injEq] at hx
    obtain ⟨rfl, _⟩ := hx
    simp only [Rows.uptoBulk] at hk
    have hq : ∀ i, ∃ t : TokE, i < len → (W.cell? (x.add (i * 6)) = some (.int .i64 t.kd) ∧ W.cell? ⟨(x.add (i * 6)).block, (x.add (i * 6)).off + 1, none⟩ = some (.string t.tx) ∧
        W.cell? ⟨(x.add (i * 6)).block, (x.add (i * 6)).off + 2, none⟩ = some (.int .i64 t.iv) ∧ W.cell? ⟨(x.add (i * 6)).block, (x.add (i * 6)).off + 3, none⟩ = some (.float .f64 t.rl) ∧
        W.cell? ⟨(x.add (i * 6)).block, (x.add (i * 6)).off + 4, none⟩ = some (.int .i64 t.pl) ∧ W.cell? ⟨(x.add (i * 6)).block, (x.add (i * 6)).off + 5, none⟩ = some (.int .i64 t.sz)) ∧
        t.rl < 18446744073709551616 ∧ t.tx.size + 7 ≤ Rows.uptoBulk (elems.getD i (.nil, [])).1 := by
      intro i
      by_cases hi : i < len
      · have he := hev i hi
        have hxi : elems[i]? = some elems[i] := List.getElem?_eq_getElem (by omega)
        rw [hxi] at he
        obtain ⟨cs, hc1, hc2⟩ := Option.bind_eq_some_iff.1 he
        obtain ⟨t, t0, t1, t2, t3, t4, t5, hr, hs⟩ := tok_row hc2
        obtain ⟨_, hcl, hce⟩ := World.cells?_some hc1
        refine ⟨t, fun _ => ⟨⟨(hce 0 (by omega)).trans t0, (hce 1 (by omega)).trans t1, (hce 2 (by omega)).trans t2, (hce 3 (by omega)).trans t3, (hce 4 (by omega)).trans t4, (hce 5 (by omega)).trans t5⟩, hr, ?_⟩⟩
        rw [List.getD_eq_getElem?_getD, hxi]
        exact hs
      · exact ⟨default, fun hh => absurd hh hi⟩
    obtain ⟨f, hF⟩ := Classical.axiomOfChoice hq
    have hmem : ∀ i, i < len → (elems.getD i (.nil, [])).1 ∈ elems.map (·.1) := by
      intro i hi
      rw [List.getD_eq_getElem?_getD, List.getElem?_eq_getElem (by omega)]
      exact List.mem_map.2 ⟨_, List.getElem_mem _, rfl⟩
    have hall : ∀ d ∈ elems.map (·.1), 7 ≤ Rows.uptoBulk d := by
      intro d hd
      obtain ⟨y, hy, rfl⟩ := List.mem_map.1 hd
      obtain ⟨i, hi, rfl⟩ := List.getElem_of_mem hy
      have h1 := (hF i (by omega)).2.2
      rw [List.getD_eq_getElem?_getD, List.getElem?_eq_getElem hi] at h1
      simp only [Option.getD_some] at h1
      omega
    have h7 := bulk_seven hall
    rw [List.length_map] at h7
    have hget : ∀ i, i < len → ((List.range len).map f).getD i default = f i := by
      intro i hi
      simp [hi]
    have hout : ∀ i, ¬ i < len → ((List.range len).map f).getD i default = default := by
      intro i hi
      simp [hi]
    refine ⟨(List.range len).map f, by simp, ?_, by omega, ?_, ?_⟩
    · intro i hi
      have hi' : i < len := by simpa using hi
      obtain ⟨hc, _, _⟩ := hF i hi'
      rw [hget i hi']
      exact ⟨x, rfl, hc⟩
    · intro i
      by_cases hi : i < len
      · rw [hget i hi]; exact (hF i hi).2.1
      · rw [hout i hi]; decide
    · intro i
      by_cases hi : i < len
      · rw [hget i hi]
        have h1 := (hF i hi).2.2
        have h2 := bulk_mem (hmem i hi)
        omega
      · rw [hout i hi]; decide
namespace Reads

set_option maxRecDepth 100000 in
theorem contract {H : Type} {enc : TypeId × Value → H} (W : World) (base : Nat) (args : Array Value) (ds gs : List (DataW H)) (before : List MemPlace)
    (hval : ∀ (j : Nat) t v, Tryd.f3.params[j]? = some t → args[j]? = some v → Value.okWide Tryd.prog W .any base t v)
    (hW : DataW.Whole enc Tryd.prog Tryd.f3.params.toList Rows.exprReadsSpec.vars false W args.toList ds gs before) (hk : Rows.uptoBulkAll (ds ++ gs) ≤ 1048576) (hL : laidMetH Tryd.prog Rows.exprReadsUptoRow.laid W) :
    Calls Tryd.prog 3 args W fun e W' => ∃ v, e = .returned v ∧ Rows.exprReadsSpec.post enc Tryd.prog Tryd.f3 false true false false W args v W' := by
  have hW' := hW
  obtain ⟨p, q, hA0, hV, rfl, hfz, hnd⟩ := hW
  have hA : DataW.TrodAll enc Tryd.prog W 0 (fun _ => true) true Tryd.f3.params.toList args.toList ds p := hA0
  rw [Tryd.params3] at hA hval
  obtain ⟨v1, vs1, d1, ds1, p1, q1, hargs, rfl, rfl, h1, r1⟩ := trodAll_cons hA
  obtain ⟨v2, vs2, d2, ds2, p2, q2, rfl, rfl, rfl, h2, r2⟩ := trodAll_cons r1
  obtain ⟨rfl, rfl, rfl⟩ := trodAll_nil r2
  obtain rfl : args = #[v1, v2] := by cases args; simp_all
  obtain ⟨rfl, rfl⟩ := trodVars_none hV
  obtain ⟨a1, len1, cap1, rfl⟩ := okWide_slice Tryd.underlying22 (hval 0 22 v1 rfl rfl)
  obtain ⟨fi, rfl, rfl, rfl, wf2⟩ := open_int Tryd.underlying3 (hval 1 3 v2 rfl rfl) h2
  have k1 := h1
  have lt1 : ∀ x ∈ p1, x.block < W.heap.size := by obtain ⟨m, hm⟩ := k1; exact DataW.trod_lt m _ _ _ hm
  simp only [List.append_nil, List.cons_append, List.nil_append, Rows.uptoBulkAll] at hk
  obtain ⟨L, rfl, hT, hlen, hR, hS⟩ := toks_of_row h1 (by omega)
  have low : ∀ x, a1 = some x → ∀ n, (x.add n).block < W.heap.size := by
    intro x hx n
    subst hx
    have := block_of_has Tryd.underlying22 (hval 0 22 _ rfl rfl)
    unfold Addr.add
    split <;> exact this
  have hTb : Tab W := tab_of_laid hL
  clear hA0 hval
  refine (reads_walk a1 cap1 fi L W hT low hlen hR hS hTb (tab_size hTb)).mono fun e W' ⟨he, bel⟩ => ?_
  subst he
  exact ⟨_, rfl, _, _, _, [], _, [], hW', trodAll_mk1 (shut_bool Tryd.underlying4 _), (trodAll_cons_mk (Below.trod laidOut (by kernel_rfl) (of_decide_eq_true (by kernel_rfl)) k1 bel lt1) (trodAll_cons_mk (shut_int Tryd.underlying3 wf2) trodAll_mk0)), rfl, bel.frame _, fun h => by cases h⟩

theorem reads (os : Os) {H : Type} (enc : TypeId × Value → H) : ∃ places, DataW.whole enc Tryd.prog ((World.doorLaid Tryd.prog 400 os).forCall (fun _ _ => 0) ⟨#[], #[.slice none 0 0, .int .i64 0], []⟩).memory Tryd.f3.params.toList Rows.exprReadsSpec.vars false #[Value.slice none 0 0, Value.int .i64 0].toList 8 = some ([.nil, .lit (.int .i64 0)], [], places) :=
  ⟨[], by kernel_rfl⟩

set_option maxRecDepth 100000 in
theorem lifted (os : Os) (started : os.Started) (H : Type) (enc : TypeId × Value → H) (F : Stop.Interp) :
    ReturnsInHanded {} Tryd.checked os 3 .any ((Rows.OpenSpec.upto Rows.exprReadsSpec).preRow enc Tryd.prog Tryd.f3 Rows.exprReadsUptoRow.domain false Rows.exprReadsUptoRow.laid) (((Rows.OpenSpec.upto Rows.exprReadsSpec).at F).post enc Tryd.prog Tryd.f3 false true false false) := by
  obtain ⟨places, hx⟩ := reads os enc
  refine returnsInHanded_of_row (C := Tryd.checked) (s := Rows.OpenSpec.upto Rows.exprReadsSpec) own started (by kernel_rfl) Tryd.func3
    (witness_row_at (enc := enc) (C := Tryd.checked) false (World.doorLaid Tryd.prog 400 os) #[.slice none 0 0, .int .i64 0] rfl (by kernel_rfl) (by kernel_rfl) (by kernel_rfl)
      (OpenSpec.preRow_of_cond 8 hx (by kernel_rfl) (fun k hk => by cases hk; kernel_rfl) (by kernel_rfl) (door_met os _))) ?_
  intro W base args ds gs before hval hW _ hcond _ hL _ _
  have hk : Rows.uptoSmall H (ds ++ gs) = true := hcond _ rfl
  exact contract W base args ds gs before hval hW (of_decide_eq_true hk) hL

theorem over : Rows.ExprReadsUptoSaid :=
  OpenClaim.holds_of_cond 3 Tryd.f3 rfl rfl rfl rfl rfl rfl rfl ⟨rfl, rfl, rfl, rfl, rfl⟩ rfl rfl rfl rfl rfl (by kernel_rfl) Tryd.func3 (by kernel_rfl)
    (of_decide_eq_true (by kernel_rfl)) (by unfold Func.isWrapper; first | (rw [if_pos (by decide +kernel)]; kernel_rfl) | (rw [if_neg (by decide +kernel)]; exact ⟨rfl, rfl⟩))
    (fun os started H enc _ F => by rw [OpenClaim.pre_eq_preRow]; exact lifted os started H enc F)

theorem plain (f : FuncId) (fn : Func) (hf : Tryd.pinned.checked.prog.funcNamed "chordmail/chordmaillaw05.ExprReads" = some f) (hfn : Tryd.pinned.checked.prog.funcs[f]? = some fn) :
    true = Tryd.pinned.checked.prog.looks [] ∧ ∀ (j : Nat) t, fn.params[j]? = some t → Tryd.pinned.checked.prog.wantsStandIn t = false := by
  obtain rfl : f = 3 := Option.some.inj ((show Tryd.prog.funcNamed "chordmail/chordmaillaw05.ExprReads" = some 3 by kernel_rfl).symm.trans hf) |>.symm
  obtain rfl : fn = Tryd.f3 := (Option.some.inj (Tryd.func3.symm.trans hfn)).symm
  refine ⟨by kernel_rfl, fun j t ht => ?_⟩
  rw [Tryd.params3] at ht
  have hm : t ∈ [22, 3] := by simpa using Array.mem_of_getElem? ht
  have hall : ([22, 3].all fun u => !Tryd.prog.wantsStandIn u) = true := by kernel_rfl
  exact (show Tryd.prog.wantsStandIn t = false by simpa using List.all_eq_true.1 hall t hm)
end Reads

theorem exprReads_card : Rows.ExprReadsUptoCardSaid :=
  Claim7.holds_tied_plain_at .later [] _ _ _ _ Reads.over (fun _ h => by cases h) (by kernel_rfl) (fun _ h => by cases h) exprReadsUpto_row_tie rfl ⟨rfl, rfl⟩ (by kernel_rfl) rfl Reads.plain (by kernel_rfl)
#print axioms exprReads_card
end Go.Proofs.YtddeoemkjedonaaDoor
