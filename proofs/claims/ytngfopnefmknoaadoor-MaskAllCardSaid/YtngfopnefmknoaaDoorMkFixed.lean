/- Masks: a region that draws its order: each operation has one answer wherever it comes; the frame behind it. -/
import Derived.Test.YtngfopnefmknoaaDoorMkFill
set_option linter.all false
namespace Go.Proofs.YtngfopnefmknoaaDoor
open Go.RowKit
set_option maxRecDepth 100000
section
variable {F : Fence} {n : Nat} {P : Program} {ops : Array Oper} {Q : Exit → Act → World → Prop}
theorem frame_named {c : Code} {a : Act} {w : World} (h : ∀ FR, FR = a.tmps → c.wpIn F n P Q { tmps := FR, defers := a.defers } w) : c.wpIn F n P Q a w := h _ rfl
/-- the frame when these are carried out -/
def fillA (a : Act) (dv : List (Nat × Value)) (l : List Bool) : Act := { a with tmps := fillT a.tmps dv l }
theorem region_fixed {id : Nat} {a : Act} {w : World} (hm : P.follows .mixedOrders = true) (dv : List (Nat × Value)) (C : World → Prop) (hl : dv.length = ops.size) (hn : (dv.map (·.1)).Nodup) (h0 : C w.drew)
    (hup : ∀ (i : Nat) (o : Oper), ops[i]? = some o → ∀ e ∈ o.after, e.on < i)
    (hop : ∀ (i : Nat) (o : Oper) (d : Nat) (v : Value), ops[i]? = some o → dv[i]? = some (d, v) → ∀ (l : List Bool) W, l.length = ops.size → l[i]? = some false → (∀ e ∈ o.after, Region.binds .any e = true → l[e.on]? = some true) → C W →
      Region.wanted o (yielded ops (fillT a.tmps dv l)) = true ∧ o.wpIn F n P (fillA a dv l) W (fun a' W' => a' = { a with tmps := (fillT a.tmps dv l).setIfInBounds d v } ∧ C W') Q)
    (hend : ∀ W, C W → Q .normal (fillA a dv (List.replicate ops.size true)) W) : (Code.region id ops true).wpIn F n P Q a w := by
  refine region_told hm (fun listed a' W => listed.size = ops.size ∧ a' = fillA a dv listed.toList ∧ C W) ⟨by simp, ?_, h0⟩ ?_ ?_
  · unfold fillA
    rw [Array.toList_replicate, fillT_none]
  · rintro i o listed a' W ⟨hsz, rfl, hC⟩ hi ho
    unfold Region.ready at hi
    rw [List.mem_filter, List.mem_range] at hi
    obtain ⟨hlt, hc⟩ := hi
    rw [Bool.and_eq_true] at hc
    obtain ⟨hc1, hc2⟩ := hc
    have hil : i < listed.size := by omega
    have hf : listed.toList[i]? = some false := by
      rw [Array.getElem?_toList, Array.getElem?_eq_getElem hil]
      simp [Array.getD, hil] at hc1
      rw [hc1]
    obtain ⟨⟨d, v⟩, hdv⟩ : ∃ p, dv[i]? = some p := ⟨_, List.getElem?_eq_getElem (by omega)⟩
    have hdeps : ∀ e ∈ o.after, Region.binds .any e = true → listed.toList[e.on]? = some true := by
      intro e he hb
      rw [ho] at hc2
      simp only [Option.map_some, Option.getD_some, Array.all_eq_true_iff_forall_mem] at hc2
      have h1 := hc2 e he
      rw [hb] at h1
      simp only [Bool.not_true, Bool.false_or] at h1
      have hlt2 : e.on < listed.size := by
        rcases Nat.lt_or_ge e.on listed.size with h | h
        · exact h
        · simp [Array.getD, Nat.not_lt.2 h] at h1
      rw [Array.getElem?_toList, Array.getElem?_eq_getElem hlt2]
      simp [Array.getD, hlt2] at h1
      rw [h1]
    obtain ⟨h1, h2⟩ := hop i o d v ho hdv listed.toList W (by simpa using hsz) hf hdeps hC
    refine ⟨h1, Oper.wpIn_mono ?_ h2⟩
    rintro a' W' ⟨rfl, hC'⟩
    refine ⟨by simpa using hsz, ?_, hC'⟩
    unfold fillA
    rw [show (listed.setIfInBounds i true).toList = listed.toList.set i true by simp, fillT_on dv listed.toList a.tmps i d v hn hdv hf]
  · rintro listed a' W ⟨hsz, rfl, hC⟩ hr
    have hall : ∀ i, i < ops.size → listed.getD i true = true := by
      intro i
      induction i using Nat.strongRecOn with
      | ind i ih =>
        intro hi
        cases hb : listed.getD i true with
        | true => rfl
        | false =>
          exfalso
          have hmem : i ∈ Region.ready .any ops listed := by
            unfold Region.ready
            rw [List.mem_filter, List.mem_range]
            refine ⟨hi, ?_⟩
            rw [hb, Array.getElem?_eq_getElem hi]
            simp only [Bool.not_false, Bool.true_and, Option.map_some, Option.getD_some, Array.all_eq_true_iff_forall_mem]
            intro e he
            have hlt := hup i ops[i] (Array.getElem?_eq_getElem hi) e he
            have h1 := ih e.on hlt (by omega)
            have hlt2 : e.on < listed.size := by omega
            simp [Array.getD, hlt2] at h1
            simp [Array.getD, hlt2, h1]
          rw [hr] at hmem
          cases hmem
    have he : listed.toList = List.replicate ops.size true := by
      apply List.ext_getElem
      · simp [hsz]
      · intro i h1 h2
        have h3 : i < listed.size := by simpa using h1
        have := hall i (by omega)
        simp [Array.getD, h3] at this
        simp [this]
    rw [he]
    exact hend W hC
end
end Go.Proofs.YtngfopnefmknoaaDoor
