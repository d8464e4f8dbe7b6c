/- Masks: the sequence of a mask's numbers, gone over. -/
import Derived.Test.YtngfopnefmknoaaDoorMkNext
import Derived.Test.YtngfopnefmknoaaDoorMkArrIn
import Derived.Sort.CutIn
import Derived.ControlIn
set_option linter.all false
namespace Go.Proofs.YtngfopnefmknoaaDoor
open Go.RowKit Go.Shelf
attribute [local go_sem] Oper.semAt_some
set_option maxRecDepth 100000
theorem boxed_below {W W' : World} {B : Nat} {t : TypeId} {v : Value} (h : Boxed W B t v) (hb : Below W.heap.size W W') : Boxed W' B t v := (hb.block B h.lt).trans h
theorem boxed_other {W : World} {B x : Nat} {t : TypeId} {v : Value} (h : Boxed W B t v) (hx : B ≠ x) (u : Value) : Boxed (W.setCell ⟨x, 0, none⟩ u) B t v := (heap_setCell_other W ⟨x, 0, none⟩ B u hx).trans h
/-- blocks of cells are as they were -/
def KC (w w' : World) : Prop := ∀ (b : Nat) (cs : Array Value) (t : TypeId) (fr : Nat × Nat), w.heap[b]? = some (.cells cs t fr) → w'.heap[b]? = some (.cells cs t fr)
theorem KC.put {w : World} {l : Nat} {r : Loop} (o : Obj) (h : w.heap[l]? = some (.loop r)) : KC w (w.putObj l o) := fun b cs t fr hb => by
  by_cases e : b = l
  · subst e
    rw [h] at hb
    cases hb
  · exact (World.putObj_heap_other e).trans hb
theorem below_put {B L : Nat} {W : World} {o o' : Obj} (hB : B ≤ L) (hl : W.heap[L]? = some o) : Below B W (W.putObj L o') := (Below.refl B W).grown (grownBy_putObj' W L o') (by have := some_lt hl; omega) (fun k e => by cases e; exact hB)
theorem Lp.other {r : LoopState → Option Code → Loop} {b : Nat} {st : LoopState} {j : Option Code} {W : World} {x : Nat} (h : Lp r b st j W) (hx : x < b) (u : Value) : Lp r b st j (W.setCell ⟨x, 0, none⟩ u) :=
  ⟨(heap_setCell_other W ⟨x, 0, none⟩ (b + 1) u (by show b + 1 ≠ x; omega)).trans h.rcd, (heap_setCell_other W ⟨x, 0, none⟩ b u (by show b ≠ x; omega)).trans h.dfr⟩
theorem each_any (m : Nat) (w : World) : Calls Tryd.prog 28 #[.int .u64 (m : Int)] w fun e w' =>
    e = .returned (.func (.func 41) #[] #[.pointer (some ⟨w.heap.size, 0, none⟩)]) ∧ w' = w.alloc (.cells #[.int .u64 (m : Int)] 23) := by
  go_enter Tryd.func28, Tryd.ntmps28
  go_wp2
  go_ret
  exact ⟨rfl, rfl⟩
/-- how far a loop over the numbers still goes -/
def left9 (v3 : Value) : Value → Nat
  | .bool true => 64 - (intOf v3).toNat
  | _ => 0
theorem nums_jump {f : Nat → Bool} {j k : Nat} (hjk : j ≤ k) (h : ∀ l, j ≤ l → l < k → f l = false) : numsF f k = numsF f j := by
  obtain ⟨c, rfl⟩ : ∃ c, k = j + c := ⟨k - j, by omega⟩
  exact nums_same c h
set_option maxHeartbeats 4000000 in
theorem each1_any (n rb : Nat) (m : Nat) (hm : Wd m) (lw : Nat) (J Jx : List Nat → World → Prop) (W : World) (hn : 1 ≤ n)
    (hS : ∀ l A, J l A → Boxed A rb 23 (.int .u64 (m : Int)) ∧ GlobM A)
    (hY : ∀ k W1, k < 64 → m.testBit k = true → J (numsF m.testBit k) W1 → YieldAt Fence.wide (n - 1) Tryd.prog lw #[.int .i64 (k : Int)] W1 fun e W' =>
      (e = .returned (.bool true) ∧ J (numsF m.testBit (k + 1)) W') ∨ (e = .returned (.bool false) ∧ Jx (numsF m.testBit (k + 1)) W')) (h0 : J [] W) :
    CallsIn Fence.wide n Tryd.prog 41 #[.func (.yield lw) #[] #[], .pointer (some ⟨rb, 0, none⟩)] W fun e W' => (∃ v, e = .returned v) ∧
      (J (numsF m.testBit 64) W' ∨ ∃ k, k < 64 ∧ m.testBit k = true ∧ Jx (numsF m.testBit (k + 1)) W') := by
  have hs := hS _ _ h0
  have hbox := hs.1.cell
  have HS := Lib.hid hS
  have HY := Lib.hid hY
  have H0 := Lib.hid h0
  have HM := Lib.hid hm
  have HN := Lib.hid (next_any hm (-1) (by unfold In; omega) W hs.2)
  have hsp := next_spec m.testBit (-1) (by omega)
  rw [show ((-1 : Int) + 1).toNat = 0 from rfl] at hsp
  obtain ⟨r, hr⟩ : ∃ r, r = nextF m.testBit (-1) := ⟨_, rfl⟩
  rw [← hr] at HN hsp
  have HP := Lib.hid hsp
  clear hS hY h0 hs hm hsp hr
  refine callsIn_of_wp Tryd.func41 rfl trivial ?_ rfl
  simp only [Tryd.ntmps41, List.size_toArray, List.length_cons, List.length_nil, Nat.reduceAdd, Nat.reduceSub, Array.replicate_succ, Array.replicate_zero, List.push_toArray, List.append_toArray, List.nil_append, List.cons_append]
  gi_wp2_with fail
  refine ⟨trivial, ?_⟩
  refine (callsIn_wide.2 HN.out).mono ?_
  rintro e W1 ⟨rfl, rfl⟩
  gi_wp2_with fail
  gi_loopw [3, 4] (fun v3 v4 wr => ∃ (j : Nat) (r : Option Nat), v3 = .int .i64 ((r.getD 0 : Nat) : Int) ∧ v4 = .bool r.isSome ∧ j ≤ 64 ∧ Hid (NextP m.testBit j 64 r ∧ J (numsF m.testBit j) wr)) (fun v3 v4 wr => left9 v3 v4)
  case atStart => exact ⟨0, r, rfl, rfl, by omega, Lib.hid ⟨HP.out, H0.out⟩⟩
  case round =>
    obtain ⟨j, r, rfl, rfl, hj, HR⟩ := hrel
    clear hbox HN
    cases r with
    | none =>
      have HE := Lib.hid (show J (numsF m.testBit 64) wr by rw [nums_jump hj HR.out.1]; exact HR.out.2)
      simp only [Option.getD_none, Option.isSome_none]
      gi_wp2_with fail
      refine ⟨rfl, _, results_none rfl _ _ _, ?_⟩
      exact ⟨⟨_, rfl⟩, .inl HE.out⟩
    | some k =>
      obtain ⟨h1, h2, h3, h4⟩ := HR.out.1
      simp only [Option.getD_some, Option.isSome_some]
      obtain ⟨fn, tmps, assign, body, hy, hR⟩ := HY.out k wr h2 h3 (by rw [nums_jump h1 h4]; exact HR.out.2)
      have HRY := Lib.hid hR
      have HK := Lib.hid (And.intro h2 h3)
      clear hR h1 h3 h4 HR
      gi_wp2_with fail
      refine HRY.out.mono ?_
      rintro e W3 (⟨rfl, hJ3⟩ | ⟨rfl, hJx3⟩)
      · have hs3 := HS.out _ _ hJ3
        have hb3 := hs3.1.cell
        have HN3 := Lib.hid (next_any HM.out (k : Int) (by unfold In; omega) W3 hs3.2)
        have hsp := next_spec m.testBit (k : Int) (by omega)
        rw [show ((k : Int) + 1).toNat = k + 1 by omega] at hsp
        obtain ⟨r, hr⟩ : ∃ r, r = nextF m.testBit (k : Int) := ⟨_, rfl⟩
        rw [← hr] at HN3 hsp
        have HP3 := Lib.hid hsp
        have HJ3 := Lib.hid hJ3
        clear hJ3 hy hs3 hsp hr HP HRY
        gi_wp2_with fail
        refine ⟨trivial, ?_⟩
        refine (callsIn_wide.2 HN3.out).mono ?_
        rintro e W4 ⟨rfl, rfl⟩
        gi_wp2_with fail
        go_roundw
        case rel => exact ⟨k + 1, r, rfl, rfl, by omega, Lib.hid ⟨HP3.out, HJ3.out⟩⟩
        case measure =>
          cases r with
          | none => simp [left9, intOf]; omega
          | some k2 => have := HP3.out.1; simp [left9, intOf]; omega
      · have HJX := Lib.hid hJx3
        clear hJx3 hy
        gi_wp2_with fail
        refine bodyPost_ret (results_none rfl _ _ _) rfl ?_
        exact ⟨⟨_, rfl⟩, .inr ⟨k, HK.out.1, HK.out.2, HJX.out⟩⟩
end Go.Proofs.YtngfopnefmknoaaDoor
