/- Queue: what the form hands over of a list of steps. -/
import Derived.Test.YtpemdfdmnbhpjaaQuSteps
import Derived.ProofKit
import Derived.OpenShut
import Derived.ChangeOld
import Derived.Below
import Derived.SizedLaws
import Derived.Stop.Joined
import Derived.Deep.DeepHandedRow
set_option linter.all false
namespace Go.Proofs.Ytpemdfdmnbhpjaa
open Go.ChangeShapes Go.WideShapes Go.ChangeAt Go.RowKit
theorem three_of {α : Type} {xs : List α} (h : xs.length = 3) : ∃ a b c, xs = [a, b, c] := by
  match xs, h with
  | [a, b, c], _ => exact ⟨a, b, c, rfl⟩
/-- a slice that is handed over lies in memory, an empty one too -/
theorem block_of_has {P : Program} {W : World} {r : Reach} {base : Nat} {t e : TypeId} {x : Addr} {len cap : Nat} (ht : P.underlying t = some (.slice e)) (h : Value.okWide P W r base t (.slice (some x) len cap)) : x.block < W.heap.size := by
  simp only [Value.okWide, ht, Cell.okWide, Cell.ok] at h
  obtain ⟨_, _, _, _, row, cells, hs, _⟩ := h
  rcases Nat.lt_or_ge x.block W.heap.size with hlt | hge
  · exact hlt
  · simp [World.shape?, Array.getElem?_eq_none hge] at hs
set_option maxRecDepth 100000 in
theorem step_row {H : Type} {enc : TypeId × Value → H} {W : World} {base fuel : Nat} {sp : Nat → Bool} {held : Bool} {cs : List Value} {x : DataW H × List MemPlace}
    (h : DataW.trod enc Try.prog W base sp held fuel 34 cs = some x) : ∃ s : S3, cs[0]? = some (.int .i64 s.k) ∧ cs[1]? = some (.int .i64 s.id) ∧ cs[2]? = some (.int .i64 s.x) ∧ In s.k ∧ In s.id ∧ In s.x ∧ 4 ≤ Rows.uptoBulk x.1 := by
  have z0 : Try.prog.cellsOf 3 = 1 := by kernel_rfl
  obtain ⟨xs, m, rfl, rfl, hl, hxl, hf⟩ := DataW.trod_struct Try.underlying34 h
  have h0 : DataW.trod enc Try.prog W base sp held m 3 ((cs.drop 0).take (Try.prog.cellsOf 3)) = xs[0]? := hf 0 _ rfl
  have h1 : DataW.trod enc Try.prog W base sp held m 3 ((cs.drop 1).take (Try.prog.cellsOf 3)) = xs[1]? := hf 1 _ rfl
  have h2 : DataW.trod enc Try.prog W base sp held m 3 ((cs.drop 2).take (Try.prog.cellsOf 3)) = xs[2]? := hf 2 _ rfl
  rw [z0] at h0 h1 h2
  obtain ⟨y0, y1, y2, rfl⟩ := three_of hxl
  clear hf hl hxl
  obtain ⟨n0, e0, e0', w0⟩ := DataW.trod_int Try.underlying3 h0
  obtain ⟨n1, e1, e1', w1⟩ := DataW.trod_int Try.underlying3 h1
  obtain ⟨n2, e2, e2', w2⟩ := DataW.trod_int Try.underlying3 h2
  subst e0' e1' e2'
  refine ⟨⟨n0, n1, n2⟩, ?_, ?_, ?_, in_of_wf w0, in_of_wf w1, in_of_wf w2, ?_⟩
  · have := congrArg (·[0]?) e0; simpa [List.getElem?_take, List.getElem?_drop] using this
  · have := congrArg (·[0]?) e1; simpa [List.getElem?_take, List.getElem?_drop] using this
  · have := congrArg (·[0]?) e2; simpa [List.getElem?_take, List.getElem?_drop] using this
  · simp only [List.map_cons, List.map_nil, Rows.uptoBulk, Rows.uptoBulkAll]
    omega
theorem bulk_four {H : Type} {l : List (DataW H)} (h : ∀ d ∈ l, 4 ≤ Rows.uptoBulk d) : 4 * l.length ≤ Rows.uptoBulkAll l := by
  induction l with
  | nil => simp
  | cons y r ih =>
    have h1 := ih (fun d hd => h d (List.mem_cons_of_mem _ hd))
    have h2 := h y (List.mem_cons_self ..)
    simp only [Rows.uptoBulkAll, List.length_cons]
    omega
/-- what the form hands over of a list of steps -/
theorem stps_of_row {H : Type} {enc : TypeId × Value → H} {W : World} {base : Nat} {sp : Nat → Bool} {held : Bool} {a : Option Addr} {len cap : Nat} {d : DataW H} {p : List MemPlace} (h : DataW.Trod enc Try.prog W base sp held 22 (.slice a len cap) d p)
    (hb : ∀ x, a = some x → x.block < W.heap.size) : ∃ L : List S3, Stps W a len cap L ∧ 4 * len ≤ Rows.uptoBulk d ∧ ∃ es rs, len ≤ (es ++ rs).length ∧ (d = .slice es rs ∨ len = 0) := by
  obtain ⟨fuel, hf⟩ := h
  rcases DataW.trod_slice Try.underlying22 hf with ⟨hcs, _⟩ | ⟨x, l, c, elems, rest, n, _, hcs, hx, _, hl, hm, hel, hev, _, _⟩
  · simp [Value.cells] at hcs
    obtain ⟨rfl, rfl, rfl⟩ := hcs
    exact ⟨[], ⟨rfl, Nat.le_refl _, Nat.zero_le _, (fun s hs => by cases hs), fun i s hi => by simp at hi⟩, Nat.zero_le _, [], [], Nat.le_refl _, .inr rfl⟩
  · simp [Value.cells] at hcs
    obtain ⟨rfl, rfl, rfl⟩ := hcs
    have z3 : Try.prog.cellsOf 34 = 3 := by kernel_rfl
    rw [z3] at hev
    simp only [Prod.mk.injEq] at hx
    obtain ⟨rfl, _⟩ := hx
    have hq : ∀ i, ∃ t : S3, i < len → (W.cell? (x.add (i * 3)) = some (.int .i64 t.k) ∧ W.cell? ⟨(x.add (i * 3)).block, (x.add (i * 3)).off + 1, none⟩ = some (.int .i64 t.id) ∧
        W.cell? ⟨(x.add (i * 3)).block, (x.add (i * 3)).off + 2, none⟩ = some (.int .i64 t.x)) ∧ (In t.k ∧ In t.id ∧ In t.x) ∧ 4 ≤ Rows.uptoBulk (elems.getD i (.nil, [])).1 := by
      intro i
      by_cases hi : i < len
      · have he := hev i hi
        have hxi : elems[i]? = some elems[i] := List.getElem?_eq_getElem (by omega)
        rw [hxi] at he
        obtain ⟨cs, hc1, hc2⟩ := Option.bind_eq_some_iff.1 he
        obtain ⟨t, t0, t1, t2, j0, j1, j2, hs⟩ := step_row hc2
        obtain ⟨_, hcl, hce⟩ := World.cells?_some hc1
        refine ⟨t, fun _ => ⟨⟨(hce 0 (by omega)).trans t0, (hce 1 (by omega)).trans t1, (hce 2 (by omega)).trans t2⟩, ⟨j0, j1, j2⟩, ?_⟩⟩
        rw [List.getD_eq_getElem?_getD, hxi]
        exact hs
      · exact ⟨default, fun hh => absurd hh hi⟩
    obtain ⟨f, hF⟩ := Classical.axiomOfChoice hq
    have hall : ∀ d ∈ elems.map (·.1), 4 ≤ Rows.uptoBulk d := by
      intro d hd
      obtain ⟨y, hy, rfl⟩ := List.mem_map.1 hd
      obtain ⟨i, hi, rfl⟩ := List.getElem_of_mem hy
      have h1 := (hF i (by omega)).2.2
      rw [List.getD_eq_getElem?_getD, List.getElem?_eq_getElem hi] at h1
      simp only [Option.getD_some] at h1
      exact h1
    have h4 := bulk_four hall
    rw [List.length_map] at h4
    have hget : ∀ i s, ((List.range len).map f)[i]? = some s → i < len ∧ s = f i := by
      intro i s hi
      rw [List.getElem?_map, Option.map_eq_some_iff] at hi
      obtain ⟨j, hj, rfl⟩ := hi
      obtain ⟨hj1, hj2⟩ := List.getElem?_eq_some_iff.1 hj
      simp at hj1 hj2
      subst hj2
      exact ⟨hj1, rfl⟩
    refine ⟨(List.range len).map f, ⟨by simp, hl, hm, ?_, ?_⟩, ?_, elems.map (·.1), _, ?_, .inl rfl⟩
    · intro s hs
      obtain ⟨i, hi⟩ := List.mem_iff_getElem?.1 hs
      obtain ⟨hi1, rfl⟩ := hget i s hi
      exact (hF i hi1).2.1
    · intro i s hi
      obtain ⟨hi1, rfl⟩ := hget i s hi
      obtain ⟨c0, c1, c2⟩ := (hF i hi1).1
      refine ⟨x, rfl, ?_, c0, c1, c2⟩
      have e : (x.add (i * 3)).block = x.block := by unfold Addr.add; split <;> rfl
      rw [e]
      exact hb x rfl
    · simp only [Rows.uptoBulk]
      omega
    · simp
      omega
end Go.Proofs.Ytpemdfdmnbhpjaa
