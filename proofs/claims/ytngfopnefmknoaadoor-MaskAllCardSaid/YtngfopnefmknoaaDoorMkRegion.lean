/- Masks: a region that draws its order, in whatever fence (a round's too): by an invariant over what has been carried out so far. -/
import Derived.Test.YtngfopnefmknoaaDoorMkRange
import Derived.OrdersIn
set_option linter.all false
namespace Go.Proofs.YtngfopnefmknoaaDoor
open Go.RowKit
set_option maxRecDepth 100000
theorem cnt_set : ∀ (l : List Bool) (i : Nat), l[i]? = some false → ((l.set i true).filter (fun b => !b)).length + 1 = (l.filter (fun b => !b)).length
  | [], i, h => by simp at h
  | b :: l, 0, h => by
    simp at h
    subst h
    simp
  | b :: l, i + 1, h => by
    have := cnt_set l i (by simpa using h)
    cases b <;> simp only [List.set_cons_succ, List.filter_cons, Bool.not_true, Bool.not_false, if_true, List.length_cons, Bool.false_eq_true, if_false] <;> omega
section
variable {F : Fence} {n : Nat} {P : Program} {ops : Array Oper} {Q : Exit → Act → World → Prop}
theorem any_told (S : Array Bool → Act → World → Prop)
    (hstep : ∀ i o listed a w, S listed a w → i ∈ Region.ready .any ops listed → ops[i]? = some o → Region.wanted o (yielded ops a.tmps) = true ∧ o.wpIn F n P a w (fun a' w' => S (listed.setIfInBounds i true) a' w') Q)
    (hend : ∀ listed a w, S listed a w → Region.ready .any ops listed = [] → Q .normal a w) :
    ∀ (fuel : Nat) (listed : Array Bool) (a : Act) (w : World), listed.size = ops.size → (listed.toList.filter (fun b => !b)).length ≤ fuel → S listed a w → wpAnyIn F n P .any ops Q fuel listed a w := by
  intro fuel
  induction fuel with
  | zero =>
    intro listed a w hsz hf hs
    have hr : Region.ready .any ops listed = [] := by
      unfold Region.ready
      rw [List.filter_eq_nil_iff]
      intro i hi hc
      simp only [List.mem_range] at hi
      have hlt : i < listed.size := by omega
      have h0 : listed.toList.filter (fun b => !b) = [] := List.eq_nil_of_length_eq_zero (by omega)
      rw [List.filter_eq_nil_iff] at h0
      have h2 := h0 listed[i] (by rw [← Array.getElem_toList hlt]; exact List.getElem_mem _)
      have h3 : listed[i] = true := by cases hb : listed[i] <;> simp_all
      simp [Array.getD, hlt, h3] at hc
    exact ⟨hr, hend _ _ _ hs hr⟩
  | succ fuel ih =>
    intro listed a w hsz hf hs
    refine ⟨fun hr => hend _ _ _ hs hr, fun i hi => ?_⟩
    have hi2 := hi
    unfold Region.ready at hi2
    rw [List.mem_filter, List.mem_range] at hi2
    obtain ⟨hlt, hc⟩ := hi2
    have ho : ops[i]? = some ops[i] := Array.getElem?_eq_getElem hlt
    obtain ⟨hw, hp⟩ := hstep i ops[i] listed a w hs hi ho
    unfold wpOpIn
    rw [ho]
    simp only [hw, if_true]
    have hil : i < listed.size := by omega
    have hbf : listed[i] = false := by
      have : (!listed.getD i true) = true := by
        simp only [Bool.and_eq_true] at hc
        exact hc.1
      simp [Array.getD, hil] at this
      exact this
    refine Oper.wpIn_mono (fun a' w' hs' => ih _ _ _ (by simpa using hsz) ?_ hs') hp
    have hcs := cnt_set listed.toList i (by rw [Array.getElem?_toList, Array.getElem?_eq_getElem hil, hbf])
    have e : (listed.setIfInBounds i true).toList = listed.toList.set i true := by simp
    rw [e]
    omega
theorem region_told {id : Nat} {a : Act} {w : World} (hm : P.follows .mixedOrders = true) (S : Array Bool → Act → World → Prop) (h0 : S (Array.replicate ops.size false) a w.drew)
    (hstep : ∀ i o listed a w, S listed a w → i ∈ Region.ready .any ops listed → ops[i]? = some o → Region.wanted o (yielded ops a.tmps) = true ∧ o.wpIn F n P a w (fun a' w' => S (listed.setIfInBounds i true) a' w') Q)
    (hend : ∀ listed a w, S listed a w → Region.ready .any ops listed = [] → Q .normal a w) : (Code.region id ops true).wpIn F n P Q a w := by
  refine wpIn_region_any hm (any_told S hstep hend _ _ _ _ (by simp) ?_ h0)
  · refine Nat.le_trans (List.length_filter_le _ _) ?_
    simp
end
end Go.Proofs.YtngfopnefmknoaaDoor
