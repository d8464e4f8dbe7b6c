/- MaskLists: masks are made of lists of numbers, and told as such: the mask of any numbers, or the error, the list that was given staying as it was; all numbers of a mask, in a list and in a sequence that may be left behind any of them and is gone over again: the law answers true for every list of ints, every word and every int. Condition: the listed variable (math/bits' table) holds what the program's text lays, as the card ties it. -/
import Derived.Test.YtngfopnefmknoaaDoorCards
import Derived.Test.YtngfopnefmknoaaDoorTie
import Derived.Test.YtngfopnefmknoaaDoorMkDoor
import Derived.Test.YtngfopnefmknoaaDoorMaskLists
import Derived.SevenTiedAt
import Derived.IntWalk
import Derived.OpenShut
set_option linter.all false
namespace Go.Proofs.YtngfopnefmknoaaDoor
open Go.ChangeShapes Go.WideShapes Go.ChangeAt Go.RowKit
theorem laidOut : laidOutB Tryd.prog = true := by kernel_rfl
theorem bytes_int : Tryd.prog.bytesOf 3 = 8 := by kernel_rfl
/-- what the form hands over of a slice of ints -/
theorem arg_of_row {w : World} {x : Addr} {len cap : Nat} {zs : List Int} (hl : len ≤ cap) (hm : cap ≤ maxLen) (hz : zs.length = cap) (hc : ∀ i, i < zs.length → w.cell? (x.add i) = some (.int .i64 (zs.getD i 0))) (hw : ∀ n ∈ zs, (Lit.int .i64 n).wf = true) (hlen : len ≤ 4611686018427387904) :
    ∃ l : List Int, l.length = len ∧ Arg w (some x) cap l := by
  refine ⟨zs.take len, by simp; omega, ⟨by simp; omega, fun y hy => in_of_wf (hw y (List.mem_of_mem_take hy)), ?_⟩, .inr ⟨x, rfl⟩⟩
  rcases Nat.eq_zero_or_pos len with h0 | h0
  · left; rw [h0]; simp
  · refine .inr ⟨x, rfl, ?_, fun j y hy => ?_⟩
    · have h1 := hc 0 (by omega)
      rw [show x.add 0 = x from rfl] at h1
      rcases Nat.lt_or_ge x.block w.heap.size with h | h
      · exact h
      · unfold World.cell? at h1
        rw [Array.getElem?_eq_none h] at h1
        simp at h1
    · rw [List.getElem?_take] at hy
      split at hy
      · rename_i hj
        have h1 := hc j (by omega)
        rw [List.getD_eq_getElem?_getD, hy] at h1
        exact h1
      · cases hy
namespace MaskListsOwn
set_option maxRecDepth 100000 in
theorem lifted (os : Os) (started : os.Started) (H : Type) (enc : TypeId × Value → H) :
    ReturnsInHanded {} Tryd.checked os 4 .any (fun w args => (Rows.maskListsSpec.pre enc Tryd.prog Tryd.f4 [] false w args ∧ laidMetH Tryd.prog Rows.maskListsRow.laid w) ∧ sizedMet enc Tryd.prog Tryd.f4 (OpenSpec.ofChange Rows.maskListsSpec) false w args)
      (Rows.maskListsSpec.post enc Tryd.prog Tryd.f4 false true false false) := by
  refine returnsInHanded_of_change_and (C := Tryd.checked) (X := fun w _ => laidMetH Tryd.prog Rows.maskListsRow.laid w) (fun _ _ _ hh h => h.of_heap hh) own started (by kernel_rfl) Tryd.func4
    (ChangeSpec.witness_shaped (enc := enc) (C := Tryd.checked) (os := os) (X := fun w _ => laidMetH Tryd.prog Rows.maskListsRow.laid w) false (World.doorLaid Tryd.prog 400 os) #[.slice none 0 0, .int .u64 0, .int .i64 0] 8 rfl (World.shaped_of_RefB (by kernel_rfl) (by kernel_rfl)) (by kernel_rfl) (by kernel_rfl) (by kernel_rfl) (door_met os _)) ?_
  intro W base args ds gs before hval0 hW _ hsz0 hL _
  have hsz : (DataW.weightsEach Tryd.prog (Tryd.f4.params.toList ++ Rows.maskListsSpec.plain.varTypes Tryd.prog) (ds ++ gs)).all (· ≤ reachBytes) = true := hsz0
  clear hsz0
  have hval : ∀ (j : Nat) t v, Tryd.f4.params[j]? = some t → args[j]? = some v → Value.okWide Tryd.prog W .any base t v := hval0
  have hW' := hW
  obtain ⟨p, q, hA0, hV, rfl, hfz, hnd⟩ := hW
  have hA : DataW.TrodAll enc Tryd.prog W 0 (fun _ => true) true Tryd.f4.params.toList args.toList ds p := hA0
  rw [Tryd.params4] at hA hval hsz
  obtain ⟨v0, vs0, d0, ds0, p0, q0, hargs, rfl, rfl, h0, r0⟩ := trodAll_cons hA
  obtain ⟨v1, vs1, d1, ds1, p1, q1, rfl, rfl, rfl, h1, r1⟩ := trodAll_cons r0
  obtain ⟨v2, vs2, d2, ds2, p2, q2, rfl, rfl, rfl, h2, r2⟩ := trodAll_cons r1
  obtain ⟨rfl, rfl, rfl⟩ := trodAll_nil r2
  obtain rfl : args = #[v0, v1, v2] := by cases args; simp_all
  obtain ⟨rfl, rfl⟩ := trodVars_none hV
  obtain ⟨a0, len0, cap0, rfl⟩ := okWide_slice Tryd.underlying37 (hval 0 37 v0 rfl rfl)
  have k0 := h0
  have lt0 : ∀ x ∈ p0, x.block < W.heap.size := by obtain ⟨m, hm⟩ := k0; exact DataW.trod_lt m _ _ _ hm
  obtain ⟨l0, hl0, harg, hr⟩ : ∃ l : List Int, l.length = len0 ∧ Arg W a0 cap0 l ∧ len0 * 8 ≤ 140737488351232 := by
    obtain ⟨fuel, hf⟩ := h0
    rcases open_ints Tryd.underlying37 Tryd.underlying3 (by kernel_rfl) hf with ⟨hcs, _⟩ | ⟨x, l, c, zs, hcs, _, hl, hm, hz, hx, hcell, hwz⟩
    · simp [Value.cells] at hcs
      obtain ⟨rfl, rfl, rfl⟩ := hcs
      exact ⟨[], rfl, ⟨⟨Nat.zero_le _, fun x hx => (by cases hx), .inl rfl⟩, .inl ⟨rfl, rfl, rfl⟩⟩, Nat.zero_le _⟩
    · simp [Value.cells] at hcs
      obtain ⟨rfl, rfl, rfl⟩ := hcs
      have hz' : zs.length = cap0 := by simpa using hz
      have hb : len0 * 8 ≤ 140737488351232 := by
        simp only [Prod.mk.injEq] at hx
        obtain ⟨rfl, _⟩ := hx
        have := sized_slice hsz (j := 0) (t := 37) (e := 3) rfl rfl Tryd.underlying37
        rw [bytes_int] at this
        simp only [lits, List.length_map, List.length_take, List.length_drop, reachBytes] at this
        omega
      obtain ⟨l, h1, h2⟩ := arg_of_row hl hm hz' hcell hwz (by omega)
      exact ⟨l, h1, h2, hb⟩
  subst hl0
  obtain ⟨a1, rfl, rfl, rfl, w1⟩ := open_int Tryd.underlying22 (hval 1 22 v1 rfl rfl) h1
  obtain ⟨n1, rfl⟩ := Int.eq_ofNat_of_zero_le (u64_low w1)
  obtain ⟨a2, rfl, rfl, rfl, w2⟩ := open_int Tryd.underlying3 (hval 2 3 v2 rfl rfl) h2
  have hG : GlobM W := globm_of_laid hL
  clear hA0 hval0
  refine (masklists_walk (u64_high w1) a2 (in_of_wf w2) W hG harg (by omega)).mono fun e W' ⟨he, bel⟩ => ?_
  subst he
  exact ⟨_, rfl, _, _, _, [], _, [], hW', trodAll_mk1 (shut_bool Tryd.underlying4 _), (trodAll_cons_mk (Below.trod laidOut (by kernel_rfl) (of_decide_eq_true (by kernel_rfl)) k0 bel lt0) (trodAll_cons_mk (shut_int Tryd.underlying22 w1) (trodAll_cons_mk (shut_int Tryd.underlying3 w2) trodAll_mk0))), rfl, bel.frame _, fun h => by cases h⟩
theorem over : Rows.maskListsRow.holds Tryd.pinned (OpenSpec.ofChange Rows.maskListsSpec) :=
  OpenClaim.holds_of_wide 4 Tryd.f4 rfl rfl rfl rfl rfl rfl rfl ⟨rfl, rfl, rfl, rfl, rfl⟩ rfl rfl rfl rfl rfl (by kernel_rfl) Tryd.func4 (by kernel_rfl)
    (of_decide_eq_true (by kernel_rfl)) (by unfold Func.isWrapper; first | (rw [if_pos (by decide +kernel)]; kernel_rfl) | (rw [if_neg (by decide +kernel)]; exact ⟨rfl, rfl⟩))
    (fun os started H enc _ => lifted os started H enc)
theorem plain (f : FuncId) (fn : Func) (hf : Tryd.pinned.checked.prog.funcNamed "chordmail/chordmaillaw13.MaskLists" = some f) (hfn : Tryd.pinned.checked.prog.funcs[f]? = some fn) :
    false = Tryd.pinned.checked.prog.looks [] ∧ ∀ (j : Nat) t, fn.params[j]? = some t → Tryd.pinned.checked.prog.wantsStandIn t = false := by
  obtain rfl : f = 4 := Option.some.inj ((show Tryd.prog.funcNamed "chordmail/chordmaillaw13.MaskLists" = some 4 by kernel_rfl).symm.trans hf) |>.symm
  obtain rfl : fn = Tryd.f4 := (Option.some.inj (Tryd.func4.symm.trans hfn)).symm
  refine ⟨by kernel_rfl, fun j t ht => ?_⟩
  rw [Tryd.params4] at ht
  have hm : t ∈ [37, 22, 3] := by simpa using Array.mem_of_getElem? ht
  have hall : ([37, 22, 3].all fun u => !Tryd.prog.wantsStandIn u) = true := by kernel_rfl
  exact (show Tryd.prog.wantsStandIn t = false by simpa using List.all_eq_true.1 hall t hm)
end MaskListsOwn
theorem maskLists_card : Rows.MaskListsCardSaid :=
  Claim7.holds_tied_plain_at .later [] _ _ _ _ MaskListsOwn.over (fun _ h => by cases h) (by kernel_rfl) (fun _ h => by cases h) maskLists_row_tie rfl ⟨rfl, rfl⟩ (by kernel_rfl) rfl MaskListsOwn.plain (by kernel_rfl)
#print axioms maskLists_card
end Go.Proofs.YtngfopnefmknoaaDoor

