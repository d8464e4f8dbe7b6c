/- MaskSets: the walk. -/
import Derived.Test.YtngfopnefmknoaaDoorMkAwake
set_option linter.all false
namespace Go.Proofs.YtngfopnefmknoaaDoor
open Go.RowKit Go.Shelf
set_option maxRecDepth 100000
theorem back_of {m : Nat} (hm : Wd m) : ofW (natI (numsF m.testBit 64)) = m ∧ ofE (natI (numsF m.testBit 64)) = 0 := by
  have hok : okL (natI (numsF m.testBit 64)) = true := by
    unfold okL
    rw [List.all_eq_true]
    intro x hx
    obtain ⟨k, hk, rfl⟩ := List.mem_map.1 hx
    have := ((nums_mem m.testBit 64 k).1 hk).1
    rw [decide_eq_true_eq]
    omega
  unfold ofW ofE
  rw [if_pos hok, if_pos hok]
  refine ⟨eq_bits (wd_wordL _) hm fun j hj => ?_, rfl⟩
  rw [wordL_bit _ j hj, Bool.eq_iff_iff, decide_eq_true_eq]
  constructor
  · intro h
    obtain ⟨k, hk, e⟩ := List.mem_map.1 h
    have e2 : k = j := by omega
    subst e2
    exact ((nums_mem m.testBit 64 k).1 hk).2
  · intro h
    exact List.mem_map.2 ⟨j, (nums_mem m.testBit 64 j).2 ⟨hj, h⟩, rfl⟩
theorem cnt_two (f g h k : Nat → Bool) (e : ∀ j, (h j).toNat + (k j).toNat = (f j).toNat + (g j).toNat) : ∀ n, cntF h n + cntF k n = cntF f n + cntF g n
  | 0 => rfl
  | n + 1 => by
    have := cnt_two f g h k e n
    have := e n
    rw [cntF, cntF, cntF, cntF]
    omega
theorem cnt_or_and (a b : Nat) : cntF (a ||| b).testBit 64 + cntF (a &&& b).testBit 64 = cntF a.testBit 64 + cntF b.testBit 64 := by
  refine cnt_two _ _ _ _ (fun j => ?_) 64
  rw [Nat.testBit_or, Nat.testBit_and]
  cases a.testBit j <;> cases b.testBit j <;> rfl
def notM (m : Nat) : Nat := lessM (belowM 64) m
theorem not_bit (m j : Nat) (hj : j < 64) : (notM m).testBit j = !m.testBit j := by
  unfold notM
  rw [less_bit, below_bit, decide_eq_true (by omega), Bool.true_and]
theorem wd_not (m : Nat) : Wd (notM m) := wd_less m (wd_below 64)
theorem not_not {m : Nat} (hm : Wd m) : notM (notM m) = m := by
  refine eq_bits (wd_not _) hm fun j hj => ?_
  rw [not_bit _ _ hj, not_bit _ _ hj, Bool.not_not]
theorem not_or (a b : Nat) : notM (a ||| b) = notM a &&& notM b := by
  refine eq_bits (wd_not _) (wd_and _ (wd_not _)) fun j hj => ?_
  rw [Nat.testBit_and, not_bit _ _ hj, not_bit _ _ hj, not_bit _ _ hj, Nat.testBit_or, Bool.not_or]
theorem cnt_not (m : Nat) : cntF (notM m).testBit 64 + cntF m.testBit 64 = 64 := by
  have h : ∀ n, n ≤ 64 → cntF (notM m).testBit n + cntF m.testBit n = n := fun n => by
    induction n with
    | zero => intro _; rfl
    | succ n ih =>
      intro hn
      have h1 := ih (by omega)
      rw [cntF, cntF, not_bit m n (by omega)]
      cases m.testBit n <;> simp <;> omega
  exact h 64 (Nat.le_refl _)
theorem less_or {a b : Nat} (ha : Wd a) : lessM a b ||| (a &&& b) = a := by
  refine eq_bits (wd_or (wd_less b ha) (wd_and b ha)) ha fun j hj => ?_
  rw [Nat.testBit_or, less_bit, Nat.testBit_and]
  cases a.testBit j <;> cases b.testBit j <;> rfl
theorem less_meets (a b : Nat) : (lessM a b &&& (a &&& b) != 0) = false := by
  rw [bne_eq_false_iff_eq]
  apply Nat.eq_of_testBit_eq
  intro j
  rw [Nat.testBit_and, less_bit, Nat.testBit_and, Nat.zero_testBit]
  cases a.testBit j <;> cases b.testBit j <;> rfl
theorem in_or {a b : Nat} (ha : Wd a) (hb : Wd b) : (a ||| b == b) = (lessM a b == 0) := by
  rw [Bool.eq_iff_iff, beq_iff_eq, beq_iff_eq]
  constructor
  · intro h
    refine eq_bits (wd_less b ha) (by decide) fun j hj => ?_
    have := congrArg (fun x => x.testBit j) h
    simp only [Nat.testBit_or] at this
    rw [less_bit, Nat.zero_testBit]
    cases h1 : a.testBit j <;> cases h2 : b.testBit j <;> simp_all
  · intro h
    refine eq_bits (wd_or ha hb) hb fun j hj => ?_
    have := congrArg (fun x => x.testBit j) h
    simp only [less_bit, Nat.zero_testBit] at this
    rw [Nat.testBit_or]
    cases h1 : a.testBit j <;> cases h2 : b.testBit j <;> simp_all
theorem in_and {a b : Nat} (ha : Wd a) : (a &&& b == a) = (lessM a b == 0) := by
  rw [Bool.eq_iff_iff, beq_iff_eq, beq_iff_eq]
  constructor
  · intro h
    refine eq_bits (wd_less b ha) (by decide) fun j hj => ?_
    have := congrArg (fun x => x.testBit j) h
    simp only [Nat.testBit_and] at this
    rw [less_bit, Nat.zero_testBit]
    cases h1 : a.testBit j <;> cases h2 : b.testBit j <;> simp_all
  · intro h
    refine eq_bits (wd_and b ha) ha fun j hj => ?_
    have := congrArg (fun x => x.testBit j) h
    simp only [less_bit, Nat.zero_testBit] at this
    rw [Nat.testBit_and]
    cases h1 : a.testBit j <;> cases h2 : b.testBit j <;> simp_all
theorem cast_beq (x y : Nat) : ((x : Int) == (y : Int)) = (x == y) := by
  rw [Bool.eq_iff_iff, beq_iff_eq, beq_iff_eq]; omega
theorem cast_bne (x y : Nat) : ((x : Int) != (y : Int)) = (x != y) := by
  rw [Bool.eq_iff_iff, bne_iff_ne, bne_iff_ne]; omega
set_option maxHeartbeats 4000000 in
theorem masksets_walk {a b : Nat} (ha : Wd a) (hb : Wd b) (w : World) (hG : GlobM w) : Calls Tryd.prog 5 #[.int .u64 (a : Int), .int .u64 (b : Int)] w fun e w' => e = .returned (.bool true) ∧ Below w.heap.size w w' := by
  have h64 : In 64 := by unfold In; omega
  have HA := Lib.hid (awake_any w hG)
  have HG := Lib.hid hG
  have HN := Lib.hid (fun W (h : GlobM W) => numbers_any ha W h)
  have hbk := back_of ha
  have HBK := Lib.hid hbk
  have C1 := Lib.hid (fun W => less_any ha hb W)
  have C2 := Lib.hid (fun W => and_any ha hb W)
  have C3 := Lib.hid (fun W => or_any ha hb W)
  have C4 := Lib.hid (fun W => meets_any (wd_less b ha) (wd_and b ha) W)
  rw [less_meets] at C4
  have C5 := Lib.hid (fun W => or_any (wd_less b ha) (wd_and b ha) W)
  rw [less_or ha] at C5
  have C6 := Lib.hid (fun W => count_any (wd_or ha hb) W)
  have C7 := Lib.hid (fun W => count_any (wd_and b ha) W)
  have C8 := Lib.hid (fun W => count_any ha W)
  have C9 := Lib.hid (fun W => count_any hb W)
  have C10 := Lib.hid (fun W => in_any ha hb W)
  have C11 := Lib.hid (fun W => not_any ha 64 h64 W)
  change Hid (∀ W, Calls _ _ _ _ fun e w' => e = .returned (.int .u64 ((notM a : Nat) : Int)) ∧ W = w') at C11
  have C12 := Lib.hid (fun W => not_any (wd_not a) 64 h64 W)
  change Hid (∀ W, Calls _ _ _ _ fun e w' => e = .returned (.int .u64 ((notM (notM a) : Nat) : Int)) ∧ W = w') at C12
  rw [not_not ha] at C12
  have C13 := Lib.hid (fun W => meets_any ha hb W)
  have C14 := Lib.hid (fun W => and_any hb ha W)
  rw [Nat.and_comm b a] at C14
  have C15 := Lib.hid (fun W => or_any hb ha W)
  rw [Nat.or_comm b a] at C15
  have C16 := Lib.hid (fun W => not_any (wd_or ha hb) 64 h64 W)
  change Hid (∀ W, Calls _ _ _ _ fun e w' => e = .returned (.int .u64 ((notM (a ||| b) : Nat) : Int)) ∧ W = w') at C16
  have C17 := Lib.hid (fun W => not_any hb 64 h64 W)
  change Hid (∀ W, Calls _ _ _ _ fun e w' => e = .returned (.int .u64 ((notM b : Nat) : Int)) ∧ W = w') at C17
  have C18 := Lib.hid (fun W => and_any (wd_not a) (wd_not b) W)
  rw [← not_or a b] at C18
  have C19 := Lib.hid (fun W => count_any (wd_not a) W)
  have f1 := cast_beq (a ||| b) b
  rw [in_or ha hb] at f1
  have f2 := cast_beq (a &&& b) a
  rw [in_and ha] at f2
  have f3 := cast_bne (a &&& b) 0
  rw [Int.natCast_zero] at f3
  have hsum := cnt_or_and a b
  have hnot := cnt_not a
  have l1 := cntF_le (a ||| b).testBit 64
  have l2 := cntF_le (a &&& b).testBit 64
  have l3 := cntF_le a.testBit 64
  have l4 := cntF_le b.testBit 64
  clear hG hbk h64
  generalize notM (a ||| b) = nx at *
  generalize notM a = na at *
  generalize notM b = nb at *
  generalize (lessM a b == 0) = B at *
  generalize (a &&& b != 0) = M at *
  generalize cntF (a ||| b).testBit 64 = c1 at *
  generalize cntF (a &&& b).testBit 64 = c2 at *
  generalize cntF b.testBit 64 = c4 at *
  generalize cntF na.testBit 64 = cn at *
  generalize lessM a b = x3 at *
  generalize a ||| b = x1 at *
  generalize a &&& b = x2 at *
  obtain ⟨c3, hc3⟩ : ∃ c3, c3 = cntF a.testBit 64 := ⟨_, rfl⟩
  rw [← hc3] at C8 hsum hnot l3
  have e1 : IntKind.i64.wrap ((c1 : Int) + (c2 : Int)) = ((c1 + c2 : Nat) : Int) := by rw [IntKind.wrap_i64]; omega
  have e2 : IntKind.i64.wrap ((c3 : Int) + (c4 : Int)) = ((c1 + c2 : Nat) : Int) := by rw [IntKind.wrap_i64]; omega
  have e3 : IntKind.i64.wrap (64 - (c3 : Int)) = (cn : Int) := by rw [IntKind.wrap_i64]; omega
  generalize c1 + c2 = cs at *
  clear hc3 hsum hnot l1 l2 l3 l4
  have u1 : IntKind.u64.wrap (a : Int) = (a : Int) := by rw [IntKind.wrap_u64]; unfold Wd at ha; omega
  have u2 : IntKind.u64.wrap (b : Int) = (b : Int) := by rw [IntKind.wrap_u64]; unfold Wd at hb; omega
  have hl := natI_few a.testBit
  have hin := natI_in a.testBit
  have HL := Lib.hid (And.intro hl hin)
  clear hl hin ha hb
  go_enter Tryd.func5, Tryd.ntmps5
  go_wp2_with fail
  refine HA.out.mono ?_
  rintro e w1 ⟨rfl, hb1⟩
  have HB1 := Lib.hid hb1
  clear hb1
  go_wp2_with fail
  refine (HN.out w1 (globM_below HG.out HB1.out (Nat.le_refl _))).mono ?_
  rintro e w2 ⟨v, F, rfl, hir, hb2⟩
  obtain ⟨ad, c, rfl⟩ := hir.slice
  have HO := Lib.hid (of_any (ir_in hir HL.out.2 (by have := HL.out.1; omega)) c)
  rw [HBK.out.1, HBK.out.2] at HO
  have HB2 := Lib.hid (HB1.out.trans (hb2.mono HB1.out.size))
  obtain ⟨ln, hln⟩ : ∃ ln, ln = (natI (numsF a.testBit 64)).length := ⟨_, rfl⟩
  rw [← hln] at HO ⊢
  clear hir hb2 HN HA HB1 hln
  go_wp2_with fail
  refine HO.out.mono ?_
  rintro e w' ⟨rfl, rfl⟩
  cases B <;> cases M
  all_goals
    go_wp2_with (first
      | (go_at_call 31; (with_reducible refine (C1.out _).mono ?_); rintro e w' ⟨rfl, rfl⟩)
      | (go_at_call 32; (with_reducible refine (C2.out _).mono ?_); rintro e w' ⟨rfl, rfl⟩)
      | (go_at_call 32; (with_reducible refine (C14.out _).mono ?_); rintro e w' ⟨rfl, rfl⟩)
      | (go_at_call 32; (with_reducible refine (C18.out _).mono ?_); rintro e w' ⟨rfl, rfl⟩)
      | (go_at_call 33; (with_reducible refine (C3.out _).mono ?_); rintro e w' ⟨rfl, rfl⟩)
      | (go_at_call 33; (with_reducible refine (C5.out _).mono ?_); rintro e w' ⟨rfl, rfl⟩)
      | (go_at_call 33; (with_reducible refine (C15.out _).mono ?_); rintro e w' ⟨rfl, rfl⟩)
      | (go_at_call 34; (with_reducible refine (C4.out _).mono ?_); rintro e w' ⟨rfl, rfl⟩)
      | (go_at_call 34; (with_reducible refine (C13.out _).mono ?_); rintro e w' ⟨rfl, rfl⟩)
      | (go_at_call 35; (with_reducible refine (C10.out _).mono ?_); rintro e w' ⟨rfl, rfl⟩)
      | (go_at_call 23; (with_reducible refine (C6.out _).mono ?_); rintro e w' ⟨rfl, rfl⟩)
      | (go_at_call 23; (with_reducible refine (C7.out _).mono ?_); rintro e w' ⟨rfl, rfl⟩)
      | (go_at_call 23; (with_reducible refine (C8.out _).mono ?_); rintro e w' ⟨rfl, rfl⟩)
      | (go_at_call 23; (with_reducible refine (C9.out _).mono ?_); rintro e w' ⟨rfl, rfl⟩)
      | (go_at_call 23; (with_reducible refine (C19.out _).mono ?_); rintro e w' ⟨rfl, rfl⟩)
      | (go_at_call 19; (with_reducible refine (C11.out _).mono ?_); rintro e w' ⟨rfl, rfl⟩)
      | (go_at_call 19; (with_reducible refine (C12.out _).mono ?_); rintro e w' ⟨rfl, rfl⟩)
      | (go_at_call 19; (with_reducible refine (C16.out _).mono ?_); rintro e w' ⟨rfl, rfl⟩)
      | (go_at_call 19; (with_reducible refine (C17.out _).mono ?_); rintro e w' ⟨rfl, rfl⟩))
    go_ret
    exact ⟨rfl, HB2.out⟩
end Go.Proofs.YtngfopnefmknoaaDoor
