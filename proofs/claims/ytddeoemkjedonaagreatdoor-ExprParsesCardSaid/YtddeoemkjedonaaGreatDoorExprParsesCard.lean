/- ExprParses: any text is read by the program's Parse as the reference reads it: the same nodes, or the same error at the same place; the text stays, and what was answered stays when the text's memory is written anew: the law answers true for every text. Conditions: the listed variables (strconv's two sentinels, internal/strconv's powers of ten, math/bits' two tables, the program's table of the kinds) hold what the program's text lays in them; the text has at most as many bytes as the row's own reach allows. The row and its tied card. -/
import Derived.Test.YtddeoemkjedonaaGreatDoorCards
import Derived.Test.YtddeoemkjedonaaGreatDoorTie
import Derived.Test.YtddeoemkjedonaaGreatDoorDoorKit
import Derived.Test.YtddeoemkjedonaaGreatDoorMElKit
import Derived.SevenTiedAt
namespace Go.Proofs.YtddeoemkjedonaaGreatDoor
open Go.ChangeShapes Go.WideShapes Go.ChangeAt Go.RowKit
open Go.ChangeMaps (open_string shut_string)
theorem three_of {α : Type} {xs : List α} (h : xs.length = 3) : ∃ a b c, xs = [a, b, c] := by
  match xs, h with
  | [a, b, c], _ => exact ⟨a, b, c, rfl⟩
set_option maxRecDepth 100000 in
theorem shape_row {H : Type} {enc : TypeId × Value → H} {W : World} {base fuel : Nat} {sp : Nat → Bool} {held : Bool} {cs : List Value} {s : List UInt8} {a c : Int} {x : DataW H × List MemPlace} (hx : x.1 = .agg [.lit (.string s), .lit (.int .i64 a), .lit (.int .i64 c)])
    (h : DataW.trod enc Tryz.prog W base sp held fuel 70 cs = some x) : cs[0]? = some (.string ⟨s.toArray⟩) ∧ cs[1]? = some (.int .i64 a) ∧ cs[2]? = some (.int .i64 c) := by
  have z9 : Tryz.prog.cellsOf 9 = 1 := by kernel_rfl
  have z3 : Tryz.prog.cellsOf 3 = 1 := by kernel_rfl
  obtain ⟨xs, m, rfl, rfl, hl, hxl, hf⟩ := DataW.trod_struct Tryz.underlying70 h
  have h0 : DataW.trod enc Tryz.prog W base sp held m 9 ((cs.drop 0).take (Tryz.prog.cellsOf 9)) = xs[0]? := hf 0 _ rfl
  have h1 : DataW.trod enc Tryz.prog W base sp held m 3 ((cs.drop 1).take (Tryz.prog.cellsOf 3)) = xs[1]? := hf 1 _ rfl
  have h2 : DataW.trod enc Tryz.prog W base sp held m 3 ((cs.drop 2).take (Tryz.prog.cellsOf 3)) = xs[2]? := hf 2 _ rfl
  rw [z9] at h0
  rw [z3] at h1 h2
  simp only [DataW.agg.injEq] at hx
  obtain ⟨y0, y1, y2, rfl⟩ := three_of hxl
  · clear hf hl hxl
    simp only [List.map_cons, List.map_nil, List.cons.injEq, and_true] at hx
    obtain ⟨q0, q1, q2⟩ := hx
    obtain ⟨b, e0, e0', _⟩ := DataW.trod_string Tryz.underlying9 h0
    obtain ⟨n1, e1, e1', _⟩ := DataW.trod_int Tryz.underlying3 h1
    obtain ⟨n2, e2, e2', _⟩ := DataW.trod_int Tryz.underlying3 h2
    subst e0' e1' e2'
    simp only [DataW.lit.injEq, Lit.string.injEq, Lit.int.injEq, true_and] at q0 q1 q2
    subst q0 q1 q2
    refine ⟨?_, ?_, ?_⟩
    · have := congrArg (·[0]?) e0
      simpa [List.getElem?_take, List.getElem?_drop] using this
    · have := congrArg (·[0]?) e1
      simpa [List.getElem?_take, List.getElem?_drop] using this
    · have := congrArg (·[0]?) e2
      simpa [List.getElem?_take, List.getElem?_drop] using this
theorem gSha : Tryz.prog.globalNamed "chordmail/expr.shapes" = some 0 := by kernel_rfl
theorem tSha : (Tryz.prog.globals[0]?).map (·.type) = some 71 := by kernel_rfl
theorem laid_shapes : Rows.laid_chordmail_expr_shapes (H := Unit) = .agg ((List.range 27).map fun i => .agg [.lit (.string (shTx i)), .lit (.int .i64 (shLv i : Nat)), .lit (.int .i64 (shCh i : Nat))]) := rfl
theorem tab_of_cells {W : World} {cs : Array Value} {enc : TypeId × Value → Unit} {base fuel : Nat} {sp : Nat → Bool} {held : Bool} {p : List MemPlace} (hv : W.var? Tryz.prog "chordmail/expr.shapes" = some cs)
    (h : DataW.trod enc Tryz.prog W base sp held fuel 71 cs.toList = some (Rows.laid_chordmail_expr_shapes, p)) : Tab W := by
  have z : Tryz.prog.cellsOf 70 = 3 := by kernel_rfl
  obtain ⟨xs, m, rfl, hx, hl, hxl, hf⟩ := DataW.trod_array Tryz.underlying71 h
  rw [laid_shapes] at hx
  simp only [Prod.mk.injEq, DataW.agg.injEq] at hx
  intro i hi
  have hfi := hf i hi
  rw [z] at hfi
  have hxi : xs[i]? = some xs[i] := List.getElem?_eq_getElem (by omega)
  rw [hxi] at hfi
  have hx1 : (xs[i]'(by omega)).1 = .agg [.lit (.string (shTx i)), .lit (.int .i64 (shLv i : Nat)), .lit (.int .i64 (shCh i : Nat))] := by
    have := congrArg (·[i]?) hx.1
    simp only [List.getElem?_map, List.getElem?_range hi, hxi, Option.map_some, Option.some.injEq] at this
    exact this.symm
  obtain ⟨h0, h1, h2⟩ := shape_row hx1 hfi
  have hc := fun j => World.var?_cell gSha hv j
  refine ⟨?_, ?_, ?_⟩
  · rw [hc]; simpa [List.getElem?_take, List.getElem?_drop] using h0
  · rw [hc]; simpa [List.getElem?_take, List.getElem?_drop] using h1
  · rw [hc]; simpa [List.getElem?_take, List.getElem?_drop] using h2
theorem laidMet_tail {P : Program} {x : String × DataW Unit} {l : List (String × DataW Unit)} {w : World} (h : laidMet P (x :: l) w) : laidMet P l w := by
  obtain ⟨ps, ⟨g, t, cs, f, p, q, hg, ht, hv, hd, hr, rfl⟩, hn, hall⟩ := h
  exact ⟨q, hr, (List.nodup_append.1 hn).2.1, fun b off hm => hall b off (List.mem_append_right _ hm)⟩
theorem tab_of_laid {W : World} (h : laidMetH Tryz.prog Rows.exprParsesRow.laid W) : Tab W := by
  rw [MakeChecks.laidMetH_plain _ _ _ (by kernel_rfl)] at h
  obtain ⟨ps, ⟨g, t, cs, f, p, q, hg, ht, hv, hd, _, _⟩, _⟩ := laidMet_tail (laidMet_tail (laidMet_tail (laidMet_tail (laidMet_tail h))))
  obtain rfl := Option.some.inj (gSha.symm.trans hg)
  obtain rfl := Option.some.inj (tSha.symm.trans ht)
  exact tab_of_cells hv hd
theorem tab_size {W : World} (h : Tab W) : 0 < W.heap.size := World.block_lt_of_cell? W _ (h 0 (by omega)).1
namespace Parses

set_option maxRecDepth 100000 in
theorem lifted (os : Os) (started : os.Started) (H : Type) (enc : TypeId × Value → H) :
    ReturnsInHanded {} Tryz.checked os 3 .any (fun w args => (Rows.exprParsesSpec.pre enc Tryz.prog Tryz.f3 [] false w args ∧ laidMetH Tryz.prog Rows.exprParsesRow.laid w) ∧ sizedMet enc Tryz.prog Tryz.f3 (OpenSpec.ofChange Rows.exprParsesSpec) false w args)
      (Rows.exprParsesSpec.post enc Tryz.prog Tryz.f3 false true false false) := by
  refine returnsInHanded_of_change_and (C := Tryz.checked) (X := fun w _ => laidMetH Tryz.prog Rows.exprParsesRow.laid w) (fun _ _ _ hh h => h.of_heap hh) own started (by kernel_rfl) Tryz.func3
    (ChangeSpec.witness_shaped (enc := enc) (C := Tryz.checked) (os := os) (X := fun w _ => laidMetH Tryz.prog Rows.exprParsesRow.laid w) false (World.doorLaid Tryz.prog 400 os) #[.slice none 0 0] 8 rfl (World.shaped_of_RefB (by kernel_rfl) (by kernel_rfl)) (by kernel_rfl) (by kernel_rfl) (by kernel_rfl) (door_met os _)) ?_
  intro W base args ds gs before hval0 hW _ hsz0 hL _
  have hsz : (DataW.weightsEach Tryz.prog (Tryz.f3.params.toList ++ Rows.exprParsesSpec.plain.varTypes Tryz.prog) (ds ++ gs)).all (· ≤ reachBytes) = true := hsz0
  clear hsz0
  have hval : ∀ (j : Nat) t v, Tryz.f3.params[j]? = some t → args[j]? = some v → Value.okWide Tryz.prog W .any base t v := hval0
  have hW' := hW
  obtain ⟨p, q, hA0, hV, rfl, hfz, hnd⟩ := hW
  have hA : DataW.TrodAll enc Tryz.prog W 0 (fun _ => true) true Tryz.f3.params.toList args.toList ds p := hA0
  rw [Tryz.params3] at hA hval hsz
  obtain ⟨v1, vs1, d1, ds1, p1, q1, hargs, rfl, rfl, h1, r1⟩ := trodAll_cons hA
  obtain ⟨rfl, rfl, rfl⟩ := trodAll_nil r1
  obtain rfl : args = #[v1] := by cases args; simp_all
  obtain ⟨rfl, rfl⟩ := trodVars_none hV
  obtain ⟨a1, len1, cap1, rfl⟩ := okWide_slice Tryz.underlying22 (hval 0 22 v1 rfl rfl)
  have k1 := h1
  have lt1 : ∀ x ∈ p1, x.block < W.heap.size := by obtain ⟨m, hm⟩ := k1; exact DataW.trod_lt m _ _ _ hm
  obtain ⟨z1, w1, hr⟩ : ∃ l, Txt W a1 len1 cap1 l ∧ len1 ≤ 140737488351232 := by
    obtain ⟨fuel, hf⟩ := h1
    rcases open_ints Tryz.underlying22 Tryz.underlying5 (by kernel_rfl) hf with ⟨hcs, _⟩ | ⟨x, l, c, zs, hcs, _, hl, hm, hz, hx, hcell, hwz⟩
    · simp [Value.cells] at hcs
      obtain ⟨rfl, rfl, rfl⟩ := hcs
      exact ⟨[], ⟨rfl, Nat.le_refl _, Nat.zero_le _, .inl ⟨rfl, rfl, rfl⟩⟩, Nat.zero_le _⟩
    · simp [Value.cells] at hcs
      obtain ⟨rfl, rfl, rfl⟩ := hcs
      have hz' : zs.length = cap1 := by simpa using hz
      refine ⟨_, txt_of_row hl hm hz' hcell hwz, ?_⟩
      simp only [Prod.mk.injEq] at hx
      obtain ⟨rfl, _⟩ := hx
      have := sized_slice hsz (j := 0) (t := 22) (e := 5) rfl rfl Tryz.underlying22
      rw [bytes5] at this
      simp only [lits, List.length_map, List.length_take, List.length_drop, reachBytes] at this
      omega
  have hG : Glob W := glob_of_laid hL
  have hTb : Tab W := tab_of_laid hL
  clear hA0 hval0
  refine (parses_walk a1 len1 cap1 z1 W hG hTb (tab_size hTb) w1 hr).mono fun e W' ⟨he, bel⟩ => ?_
  subst he
  exact ⟨_, rfl, _, _, _, [], _, [], hW', trodAll_mk1 (shut_bool Tryz.underlying4 _), (trodAll_cons_mk (Below.trod laidOut (by kernel_rfl) (of_decide_eq_true (by kernel_rfl)) k1 bel lt1) trodAll_mk0), rfl, bel.frame _, fun h => by cases h⟩

theorem over : Rows.exprParsesRow.holds Tryz.pinned (OpenSpec.ofChange Rows.exprParsesSpec) :=
  OpenClaim.holds_of_wide 3 Tryz.f3 rfl rfl rfl rfl rfl rfl rfl ⟨rfl, rfl, rfl, rfl, rfl⟩ rfl rfl rfl rfl rfl (by kernel_rfl) Tryz.func3 (by kernel_rfl)
    (of_decide_eq_true (by kernel_rfl)) (by unfold Func.isWrapper; first | (rw [if_pos (by decide +kernel)]; kernel_rfl) | (rw [if_neg (by decide +kernel)]; exact ⟨rfl, rfl⟩))
    (fun os started H enc _ => lifted os started H enc)

theorem plain (f : FuncId) (fn : Func) (hf : Tryz.pinned.checked.prog.funcNamed "chordmail/chordmaillaw05.ExprParses" = some f) (hfn : Tryz.pinned.checked.prog.funcs[f]? = some fn) :
    true = Tryz.pinned.checked.prog.looks [] ∧ ∀ (j : Nat) t, fn.params[j]? = some t → Tryz.pinned.checked.prog.wantsStandIn t = false := by
  obtain rfl : f = 3 := Option.some.inj ((show Tryz.prog.funcNamed "chordmail/chordmaillaw05.ExprParses" = some 3 by kernel_rfl).symm.trans hf) |>.symm
  obtain rfl : fn = Tryz.f3 := (Option.some.inj (Tryz.func3.symm.trans hfn)).symm
  refine ⟨by kernel_rfl, fun j t ht => ?_⟩
  rw [Tryz.params3] at ht
  have hm : t ∈ [22] := by simpa using Array.mem_of_getElem? ht
  have hall : ([22].all fun u => !Tryz.prog.wantsStandIn u) = true := by kernel_rfl
  exact (show Tryz.prog.wantsStandIn t = false by simpa using List.all_eq_true.1 hall t hm)
end Parses

theorem exprParses_card : Rows.ExprParsesCardSaid :=
  Claim7.holds_tied_plain_at .later [] _ _ _ _ Parses.over (fun _ h => by cases h) (by kernel_rfl) (fun _ h => by cases h) exprParses_row_tie rfl ⟨rfl, rfl⟩ (by kernel_rfl) rfl Parses.plain (by kernel_rfl)
#print axioms exprParses_card
end Go.Proofs.YtddeoemkjedonaaGreatDoor
