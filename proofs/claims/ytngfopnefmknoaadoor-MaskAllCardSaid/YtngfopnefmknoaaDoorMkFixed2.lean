/- Masks: a region that draws its order, each operation with one answer or not wanted. -/
import Derived.Test.YtngfopnefmknoaaDoorMkFixed
set_option linter.all false
namespace Go.Proofs.YtngfopnefmknoaaDoor
open Go.RowKit
set_option maxRecDepth 100000
section
variable {F : Fence} {n : Nat} {P : Program} {ops : Array Oper} {Q : Exit → Act → World → Prop}
theorem any_told2 (S : Array Bool → Act → World → Prop)
    (hstep : ∀ i o listed a w, S listed a w → i ∈ Region.ready .any ops listed → ops[i]? = some o → (if Region.wanted o (yielded ops a.tmps) = true then o.wpIn F n P a w (fun a' w' => S (listed.setIfInBounds i true) a' w') Q else (∀ f, o.about P w a.eval = some f → F.fn f) ∧ S (listed.setIfInBounds i true) (a.put o.dst undef) w))
    (hend : ∀ listed a w, S listed a w → Region.ready .any ops listed = [] → Q .normal a w) :
    ∀ (fuel : Nat) (listed : Array Bool) (a : Act) (w : World), listed.size = ops.size → (listed.toList.filter (fun b => !b)).length ≤ fuel → S listed a w → wpAnyIn F n P .any ops Q fuel listed a w := by
  intro fuel
  induction fuel with
  | zero =>
    intro listed a w hsz hf hs
    have hr : Region.ready .any ops listed = [] := by
      unfold Region.ready
      rw [List.filter_eq_nil_iff]
      intro i hi hc
      simp only [List.mem_range] at hi
      have hlt : i < listed.size := by omega
      have h0 : listed.toList.filter (fun b => !b) = [] := List.eq_nil_of_length_eq_zero (by omega)
      rw [List.filter_eq_nil_iff] at h0
      have h2 := h0 listed[i] (by rw [← Array.getElem_toList hlt]; exact List.getElem_mem _)
      have h3 : listed[i] = true := by cases hb : listed[i] <;> simp_all
      simp [Array.getD, hlt, h3] at hc
    exact ⟨hr, hend _ _ _ hs hr⟩
  | succ fuel ih =>
    intro listed a w hsz hf hs
    refine ⟨fun hr => hend _ _ _ hs hr, fun i hi => ?_⟩
    have hi2 := hi
    unfold Region.ready at hi2
    rw [List.mem_filter, List.mem_range] at hi2
    obtain ⟨hlt, hc⟩ := hi2
    have ho : ops[i]? = some ops[i] := Array.getElem?_eq_getElem hlt
    have hst := hstep i ops[i] listed a w hs hi ho
    unfold wpOpIn
    rw [ho]
    show (if Region.wanted ops[i] (yielded ops a.tmps) = true then _ else _)
    have hil : i < listed.size := by omega
    have hbf : listed[i] = false := by
      have : (!listed.getD i true) = true := by
        simp only [Bool.and_eq_true] at hc
        exact hc.1
      simp [Array.getD, hil] at this
      exact this
    have hcs := cnt_set listed.toList i (by rw [Array.getElem?_toList, Array.getElem?_eq_getElem hil, hbf])
    have e : (listed.setIfInBounds i true).toList = listed.toList.set i true := by simp
    have hle : ((listed.setIfInBounds i true).toList.filter (fun b => !b)).length ≤ fuel := by rw [e]; omega
    split
    · rename_i hw
      rw [if_pos hw] at hst
      exact Oper.wpIn_mono (fun a' w' hs' => ih _ _ _ (by simpa using hsz) hle hs') hst
    · rename_i hw
      rw [if_neg hw] at hst
      exact ⟨hst.1, ih _ _ _ (by simpa using hsz) hle hst.2⟩
theorem region_told2 {id : Nat} {a : Act} {w : World} (hm : P.follows .mixedOrders = true) (S : Array Bool → Act → World → Prop) (h0 : S (Array.replicate ops.size false) a w.drew)
    (hstep : ∀ i o listed a w, S listed a w → i ∈ Region.ready .any ops listed → ops[i]? = some o → (if Region.wanted o (yielded ops a.tmps) = true then o.wpIn F n P a w (fun a' w' => S (listed.setIfInBounds i true) a' w') Q else (∀ f, o.about P w a.eval = some f → F.fn f) ∧ S (listed.setIfInBounds i true) (a.put o.dst undef) w))
    (hend : ∀ listed a w, S listed a w → Region.ready .any ops listed = [] → Q .normal a w) : (Code.region id ops true).wpIn F n P Q a w := by
  refine wpIn_region_any hm (any_told2 S hstep hend _ _ _ _ (by simp) ?_ h0)
  · refine Nat.le_trans (List.length_filter_le _ _) ?_
    simp
theorem region_fixed2 {id : Nat} {a : Act} {w : World} (hm : P.follows .mixedOrders = true) (dv : List (Nat × Value)) (C : World → Prop) (hl : dv.length = ops.size) (hn : (dv.map (·.1)).Nodup) (h0 : C w.drew)
    (hup : ∀ (i : Nat) (o : Oper), ops[i]? = some o → ∀ e ∈ o.after, e.on < i)
    (hop : ∀ (i : Nat) (o : Oper) (d : Nat) (v : Value), ops[i]? = some o → dv[i]? = some (d, v) → ∀ (l : List Bool) W, l.length = ops.size → l[i]? = some false → (∀ e ∈ o.after, Region.binds .any e = true → l[e.on]? = some true) → C W →
      (Region.wanted o (yielded ops (fillT a.tmps dv l)) = true ∧ o.wpIn F n P (fillA a dv l) W (fun a' W' => a' = { a with tmps := (fillT a.tmps dv l).setIfInBounds d v } ∧ C W') Q) ∨ (Region.wanted o (yielded ops (fillT a.tmps dv l)) = false ∧ (∀ f, o.about P W (fillA a dv l).eval = some f → F.fn f) ∧ o.dst = some d ∧ v = undef))
    (hend : ∀ W, C W → Q .normal (fillA a dv (List.replicate ops.size true)) W) : (Code.region id ops true).wpIn F n P Q a w := by
  refine region_told2 hm (fun listed a' W => listed.size = ops.size ∧ a' = fillA a dv listed.toList ∧ C W) ⟨by simp, ?_, h0⟩ ?_ ?_
  · unfold fillA
    rw [Array.toList_replicate, fillT_none]
  · rintro i o listed a' W ⟨hsz, rfl, hC⟩ hi ho
    unfold Region.ready at hi
    rw [List.mem_filter, List.mem_range] at hi
    obtain ⟨hlt, hc⟩ := hi
    rw [Bool.and_eq_true] at hc
    obtain ⟨hc1, hc2⟩ := hc
    have hil : i < listed.size := by omega
    have hf : listed.toList[i]? = some false := by
      rw [Array.getElem?_toList, Array.getElem?_eq_getElem hil]
      simp [Array.getD, hil] at hc1
      rw [hc1]
    obtain ⟨⟨d, v⟩, hdv⟩ : ∃ p, dv[i]? = some p := ⟨_, List.getElem?_eq_getElem (by omega)⟩
    have hdeps : ∀ e ∈ o.after, Region.binds .any e = true → listed.toList[e.on]? = some true := by
      intro e he hb
      rw [ho] at hc2
      simp only [Option.map_some, Option.getD_some, Array.all_eq_true_iff_forall_mem] at hc2
      have h1 := hc2 e he
      rw [hb] at h1
      simp only [Bool.not_true, Bool.false_or] at h1
      have hlt2 : e.on < listed.size := by
        rcases Nat.lt_or_ge e.on listed.size with h | h
        · exact h
        · simp [Array.getD, Nat.not_lt.2 h] at h1
      rw [Array.getElem?_toList, Array.getElem?_eq_getElem hlt2]
      simp [Array.getD, hlt2] at h1
      rw [h1]
    rcases hop i o d v ho hdv listed.toList W (by simpa using hsz) hf hdeps hC with ⟨h1, h2⟩ | ⟨h1, h2, h3, rfl⟩
    · show (if Region.wanted o (yielded ops (fillT a.tmps dv listed.toList)) = true then _ else _)
      rw [if_pos h1]
      refine Oper.wpIn_mono ?_ h2
      rintro a' W' ⟨rfl, hC'⟩
      refine ⟨by simpa using hsz, ?_, hC'⟩
      unfold fillA
      rw [show (listed.setIfInBounds i true).toList = listed.toList.set i true by simp, fillT_on dv listed.toList a.tmps i d v hn hdv hf]
    · show (if Region.wanted o (yielded ops (fillT a.tmps dv listed.toList)) = true then _ else _)
      rw [if_neg (by rw [h1]; decide)]
      refine ⟨h2, by simpa using hsz, ?_, hC⟩
      rw [h3]
      unfold fillA
      rw [show (listed.setIfInBounds i true).toList = listed.toList.set i true by simp, fillT_on dv listed.toList a.tmps i d undef hn hdv hf]
      rfl
  · rintro listed a' W ⟨hsz, rfl, hC⟩ hr
    have hall : ∀ i, i < ops.size → listed.getD i true = true := by
      intro i
      induction i using Nat.strongRecOn with
      | ind i ih =>
        intro hi
        cases hb : listed.getD i true with
        | true => rfl
        | false =>
          exfalso
          have hmem : i ∈ Region.ready .any ops listed := by
            unfold Region.ready
            rw [List.mem_filter, List.mem_range]
            refine ⟨hi, ?_⟩
            rw [hb, Array.getElem?_eq_getElem hi]
            simp only [Bool.not_false, Bool.true_and, Option.map_some, Option.getD_some, Array.all_eq_true_iff_forall_mem]
            intro e he
            have hlt := hup i ops[i] (Array.getElem?_eq_getElem hi) e he
            have h1 := ih e.on hlt (by omega)
            have hlt2 : e.on < listed.size := by omega
            simp [Array.getD, hlt2] at h1
            simp [Array.getD, hlt2, h1]
          rw [hr] at hmem
          cases hmem
    have he : listed.toList = List.replicate ops.size true := by
      apply List.ext_getElem
      · simp [hsz]
      · intro i h1 h2
        have h3 : i < listed.size := by simpa using h1
        have := hall i (by omega)
        simp [Array.getD, h3] at this
        simp [this]
    rw [he]
    exact hend W hC
end
end Go.Proofs.YtngfopnefmknoaaDoor
