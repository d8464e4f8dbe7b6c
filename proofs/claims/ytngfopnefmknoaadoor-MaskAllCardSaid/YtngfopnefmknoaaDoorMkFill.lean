/- Masks: a region that draws its order, each operation with one answer, whatever came ahead of it: the frame with the answers of what has been carried out. -/
import Derived.Test.YtngfopnefmknoaaDoorMkRegion
set_option linter.all false
namespace Go.Proofs.YtngfopnefmknoaaDoor
open Go.RowKit
set_option maxRecDepth 100000
/-- a frame with the answers of what is listed -/
def fillT : Array Value → List (Nat × Value) → List Bool → Array Value
  | t, [], _ => t
  | t, _, [] => t
  | t, (d, v) :: r, b :: l => fillT (if b = true then t.setIfInBounds d v else t) r l
theorem fillT_set : ∀ (r : List (Nat × Value)) (l : List Bool) (t : Array Value) (d : Nat) (v : Value), (∀ p ∈ r, p.1 ≠ d) → fillT (t.setIfInBounds d v) r l = (fillT t r l).setIfInBounds d v
  | [], _, t, d, v, _ => by simp [fillT]
  | (e, u) :: r, [], t, d, v, _ => by simp [fillT]
  | (e, u) :: r, b :: l, t, d, v, h => by
    have hne : e ≠ d := h (e, u) (by simp)
    have ih := fillT_set r l
    have hr : ∀ p ∈ r, p.1 ≠ d := fun p hp => h p (by simp [hp])
    cases b with
    | false => simp only [fillT, Bool.false_eq_true, if_false]; exact ih t d v hr
    | true =>
      simp only [fillT, if_true]
      rw [Array.setIfInBounds_comm _ _ (Ne.symm hne)]
      exact ih _ d v hr
/-- one more is listed -/
theorem fillT_on : ∀ (r : List (Nat × Value)) (l : List Bool) (t : Array Value) (i : Nat) (d : Nat) (v : Value), (r.map (·.1)).Nodup → r[i]? = some (d, v) → l[i]? = some false → fillT t r (l.set i true) = (fillT t r l).setIfInBounds d v
  | [], _, t, i, d, v, _, h, _ => by simp at h
  | p :: r, [], t, i, d, v, _, _, h => by simp at h
  | (e, u) :: r, b :: l, t, 0, d, v, hn, h, hl => by
    simp at h hl
    obtain ⟨rfl, rfl⟩ := h
    subst hl
    simp only [List.set_cons_zero, fillT, if_true, Bool.false_eq_true, if_false]
    rw [fillT_set]
    intro p hp he
    rw [List.map_cons, List.nodup_cons] at hn
    exact hn.1 (List.mem_map.2 ⟨p, hp, he⟩)
  | (e, u) :: r, b :: l, t, i + 1, d, v, hn, h, hl => by
    rw [List.map_cons, List.nodup_cons] at hn
    simp only [List.set_cons_succ, fillT]
    exact fillT_on r l _ i d v hn.2 (by simpa using h) (by simpa using hl)
/-- another slot -/
theorem fillT_other : ∀ (r : List (Nat × Value)) (l : List Bool) (t : Array Value) (x : Nat) (z : Value), (∀ p ∈ r, p.1 ≠ x) → (fillT t r l).getD x z = t.getD x z
  | [], _, t, x, z, _ => by simp [fillT]
  | (e, u) :: r, [], t, x, z, _ => by simp [fillT]
  | (e, u) :: r, b :: l, t, x, z, h => by
    have hne : e ≠ x := h (e, u) (by simp)
    rw [fillT, fillT_other r l _ x z (fun p hp => h p (by simp [hp]))]
    split
    · simp [Array.getD_eq_getD_getElem?, Array.getElem?_setIfInBounds_ne hne]
    · rfl
/-- the slot of what is listed -/
theorem fillT_at : ∀ (r : List (Nat × Value)) (l : List Bool) (t : Array Value) (i d : Nat) (v z : Value), (r.map (·.1)).Nodup → r[i]? = some (d, v) → l[i]? = some true → d < t.size → (fillT t r l).getD d z = v
  | [], _, t, i, d, v, z, _, h, _, _ => by simp at h
  | p :: r, [], t, i, d, v, z, _, _, h, _ => by simp at h
  | (e, u) :: r, b :: l, t, 0, d, v, z, hn, h, hl, hs => by
    simp at h hl
    obtain ⟨rfl, rfl⟩ := h
    subst hl
    rw [List.map_cons, List.nodup_cons] at hn
    rw [fillT, fillT_other]
    · simp [Array.getD_eq_getD_getElem?, hs]
    · intro p hp he
      exact hn.1 (List.mem_map.2 ⟨p, hp, he⟩)
  | (e, u) :: r, b :: l, t, i + 1, d, v, z, hn, h, hl, hs => by
    rw [List.map_cons, List.nodup_cons] at hn
    rw [fillT]
    exact fillT_at r l _ i d v z hn.2 (by simpa using h) (by simpa using hl) (by split <;> simpa using hs)
theorem fillT_size : ∀ (r : List (Nat × Value)) (l : List Bool) (t : Array Value), (fillT t r l).size = t.size
  | [], _, t => by simp [fillT]
  | (e, u) :: r, [], t => by simp [fillT]
  | (e, u) :: r, b :: l, t => by
    rw [fillT, fillT_size r l]
    split <;> simp
theorem fillT_get {r : List (Nat × Value)} {l : List Bool} {t : Array Value} {i d : Nat} {v : Value} (hn : (r.map (·.1)).Nodup) (h : r[i]? = some (d, v)) (hl : l[i]? = some true) (hs : d < t.size) : (fillT t r l)[d]? = some v := by
  have h1 := fillT_at r l t i d v undef hn h hl hs
  have h2 : d < (fillT t r l).size := by rw [fillT_size]; exact hs
  rw [Array.getElem?_eq_getElem h2]
  simp [Array.getD, h2] at h1
  rw [h1]
/-- nothing is listed; all is -/
theorem fillT_none : ∀ (r : List (Nat × Value)) (t : Array Value) (k : Nat), fillT t r (List.replicate k false) = t
  | [], t, k => by simp [fillT]
  | p :: r, t, 0 => by simp [fillT]
  | (e, u) :: r, t, k + 1 => by
    simp only [List.replicate_succ, fillT, Bool.false_eq_true, if_false]
    exact fillT_none r t k
end Go.Proofs.YtngfopnefmknoaaDoor
