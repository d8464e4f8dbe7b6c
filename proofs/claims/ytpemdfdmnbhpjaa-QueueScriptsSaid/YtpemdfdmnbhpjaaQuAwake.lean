/- Queue: the law's first look. -/
import Derived.Test.YtpemdfdmnbhpjaaQuPut
set_option linter.all false
namespace Go.Proofs.Ytpemdfdmnbhpjaa
open Go.RowKit Go.Shelf
set_option maxRecDepth 100000
/-- a queue of the call's own: all its blocks are new since B -/
structure Own (w : World) (B g : Nat) (F : List Nat) (s : Qs) : Prop where
  q : Qm w g F s
  new : ∀ b ∈ g :: F, B ≤ b
theorem Own.below {w w' : World} {B g : Nat} {F : List Nat} {s : Qs} (h : Own w B g F s) (hb : Below w.heap.size w w') : Own w' B g F s := ⟨h.q.below hb, h.new⟩
theorem Own.step {w w' : World} {B g : Nat} {F : List Nat} {s s' : Qs} {v : Value} {e : Ending} (h : Own w B g F s) (hB : B ≤ w.heap.size) (hq : QuP v g F s' w e w') : e = .returned v ∧ ∃ F', Own w' B g F' s' ∧ Below B w w' ∧ Out (g :: F) w w' ∧ (∀ b ∈ F', b ∈ F ∨ w.heap.size ≤ b) := by
  obtain ⟨he, F', h1, h2, h3⟩ := hq
  refine ⟨he, F', ⟨h1, fun b hb => ?_⟩, h2.toBelow hB h.new, h2, h3⟩
  rcases List.mem_cons.1 hb with rfl | hb
  · exact h.new _ (List.mem_cons_self ..)
  · rcases h3 b hb with h9 | h9
    · exact h.new _ (List.mem_cons_of_mem _ h9)
    · omega
theorem own_new {w w' : World} {most : Int} (h : Qm w' w.heap.size [] (newQ most)) : Own w' w.heap.size w.heap.size [] (newQ most) := ⟨h, fun b hb => by rcases List.mem_cons.1 hb with rfl | h; exact Nat.le_refl _; cases h⟩
theorem awake_any (w : World) : Calls Try.prog 22 #[] w fun e w' => e = .returned (.bool true) ∧ Below w.heap.size w w' := by
  have HN := Lib.hid (new_any 1 w (by omega))
  go_enter Try.func22, Try.ntmps22
  go_wp2_with (go_at_call 7; (with_reducible refine HN.out.mono ?_); rintro e w1 ⟨rfl, hq1, hb1⟩; have HB1 := Lib.hid hb1; have HO1 := Lib.hid (own_new hq1); clear hq1 hb1)
  have HP := Lib.hid (put_any HO1.out.q (by decide) (id := 0) (x := 5) (by unfold In; omega) (by unfold In; omega))
  refine HP.out.mono ?_
  rintro e w2 hq
  obtain ⟨rfl, F2, ho2, hb2, _, _⟩ := HO1.out.step HB1.out.size hq
  have HB2 := Lib.hid (HB1.out.trans hb2)
  have HO2 : Hid (Own w2 w.heap.size w.heap.size F2 ⟨1, 0, [(0, 5)]⟩) := Lib.hid ho2
  clear hq ho2 hb2 HP
  have HP := Lib.hid (put_any HO2.out.q (by decide) (id := 1) (x := 6) (by unfold In; omega) (by unfold In; omega))
  go_wp2_with fail
  refine HP.out.mono ?_
  rintro e w3 hq
  obtain ⟨rfl, F3, ho3, hb3, _, _⟩ := HO2.out.step HB2.out.size hq
  have HB3 := Lib.hid (HB2.out.trans hb3)
  have HO3 : Hid (Own w3 w.heap.size w.heap.size F3 ⟨1, 0, [(0, 5)]⟩) := Lib.hid ho3
  clear hq ho3 hb3 HP
  have HT := Lib.hid (take_any HO3.out.q 0)
  go_wp2_with fail
  refine HT.out.mono ?_
  rintro e w4 hq
  obtain ⟨rfl, F4, ho4, hb4, _, _⟩ := HO3.out.step HB3.out.size hq
  have HB4 := Lib.hid (HB3.out.trans hb4)
  clear hq ho4 hb4 HT
  have p1 : putE (newQ 1) 0 = 0 := by decide
  have p2 : putE ⟨1, 0, [(0, 5)]⟩ 1 = 120 := by decide
  have p3 : takeX ⟨1, 0, [(0, 5)]⟩ 0 = 5 := by decide
  have p4 : takeE ⟨1, 0, [(0, 5)]⟩ 0 = 0 := by decide
  rw [p1, p2, p3, p4]
  go_wp2
  go_ret
  exact ⟨rfl, HB4.out⟩
end Go.Proofs.Ytpemdfdmnbhpjaa
