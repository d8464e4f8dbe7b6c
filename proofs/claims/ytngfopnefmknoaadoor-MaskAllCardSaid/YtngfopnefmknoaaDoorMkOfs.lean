/- Masks: Of: the mask of a list of numbers; lists of numbers compared; awake. -/
import Derived.Test.YtngfopnefmknoaaDoorMkNums
import Derived.Deep.QuietTactic
import Derived.BigQuiet
set_option linter.all false
namespace Go.Proofs.YtngfopnefmknoaaDoor
open Go.RowKit Go.Shelf
set_option maxRecDepth 100000
/-- a list of numbers that can be read -/
structure Sl (w : World) (a : Option Addr) (l : List Int) : Prop where
  few : l.length ≤ 4611686018427387904
  ins : ∀ x ∈ l, In x
  at' : l = [] ∨ ∃ b o, a = some ⟨b, o, none⟩ ∧ ∀ j x, l[j]? = some x → w.cell? ⟨b, o + j, none⟩ = some (.int .i64 x)
theorem Sl.get {w : World} {a : Option Addr} {l : List Int} (h : Sl w a l) {k : Nat} {x : Int} (hx : l[k]? = some x) : ∃ b o, a = some ⟨b, o, none⟩ ∧ w.cell? ⟨b, o + k, none⟩ = some (.int .i64 x) := by
  rcases h.at' with rfl | ⟨b, o, rfl, hc⟩
  · simp at hx
  · exact ⟨b, o, rfl, hc k x hx⟩
theorem ir_in {w : World} {B : Nat} {F : List Nat} {l : List Int} {a : Option Addr} {c : Nat} (h : Ir w B F (.slice a l.length c) l) (hin : ∀ x ∈ l, In x) (hf : l.length ≤ 4611686018427387904) : Sl w a l := by
  refine ⟨hf, hin, ?_⟩
  rcases h.form with ⟨_, e, _⟩ | ⟨b, c', cur, e, _, _, hg, hn, _, ht⟩
  · exact .inl e
  · cases e
    refine .inr ⟨b, 0, rfl, fun j x hx => ?_⟩
    obtain ⟨b2, c2, e2, _, hc⟩ := h.cell hx
    cases e2
    rw [Nat.zero_add]
    exact hc
theorem Sl.new (w : World) (l : List Int) (hin : ∀ x ∈ l, In x) (hf : l.length ≤ 4611686018427387904) : Sl (w.alloc (.cells (intsV l).toArray 3)) (some ⟨w.heap.size, 0, none⟩) l := by
  refine ⟨hf, hin, .inr ⟨_, 0, rfl, fun j x hx => ?_⟩⟩
  rw [Nat.zero_add]
  exact (Bk.new w 3 (intsV l)).c j (by unfold intsV; rw [List.getElem?_map, hx]; rfl)
theorem Sl.below {w w' : World} {B : Nat} {a : Option Addr} {l : List Int} (h : Sl w a l) (hb : Below B w w') (hB : ∀ b o, a = some ⟨b, o, none⟩ → l ≠ [] → b < B) : Sl w' a l := by
  refine ⟨h.few, h.ins, ?_⟩
  rcases h.at' with e | ⟨b, o, rfl, hc⟩
  · exact .inl e
  · by_cases hl : l = []
    · exact .inl hl
    · refine .inr ⟨b, o, rfl, fun j x hx => ?_⟩
      have h1 := hc j x hx
      have h2 := hb.block b (hB b o rfl hl)
      unfold World.cell? at h1 ⊢
      rw [← h1]
      simp only [h2]
theorem natI_in (f : Nat → Bool) : ∀ x ∈ natI (numsF f 64), In x := by
  intro x hx
  obtain ⟨k, hk, rfl⟩ := List.mem_map.1 hx
  have := ((nums_mem f 64 k).1 hk).1
  unfold In
  omega
theorem natI_few (f : Nat → Bool) : (natI (numsF f 64)).length ≤ 64 := by rw [List.length_map, nums_len]; exact cntF_le _ _
def okL (l : List Int) : Bool := l.all fun x => decide (0 ≤ x ∧ x < 64)
def wordL (l : List Int) : Nat := l.foldl (fun a x => a ||| onlyM x) 0
def ofW (l : List Int) : Nat := if okL l = true then wordL l else 0
def ofE (l : List Int) : Int := if okL l = true then 0 else 2
theorem wordL_snoc (l : List Int) (x : Int) : wordL (l ++ [x]) = wordL l ||| onlyM x := by
  unfold wordL; rw [List.foldl_append]; rfl
theorem wd_wordL (l : List Int) : Wd (wordL l) := by
  have : ∀ (l : List Int) a, Wd a → Wd (l.foldl (fun a x => a ||| onlyM x) a) := by
    intro l
    induction l with
    | nil => intro a h; exact h
    | cons x l ih => intro a h; exact ih _ (wd_or h (wd_only x))
  exact this l 0 (by decide)
theorem wd_ofW (l : List Int) : Wd (ofW l) := by
  unfold ofW
  split
  · exact wd_wordL l
  · decide
theorem wordL_bit (l : List Int) (j : Nat) (hj : j < 64) : (wordL l).testBit j = decide ((j : Int) ∈ l) := by
  have : ∀ (l : List Int) a, (l.foldl (fun a x => a ||| onlyM x) a).testBit j = (a.testBit j || decide ((j : Int) ∈ l)) := by
    intro l
    induction l with
    | nil => intro a; simp
    | cons x l ih =>
      intro a
      rw [List.foldl_cons, ih, Nat.testBit_or, only_bit, Bool.or_assoc, Bool.eq_iff_iff]
      simp only [Bool.or_eq_true, decide_eq_true_eq, List.mem_cons]
      constructor
      · rintro (h | ⟨h, _⟩ | h)
        · exact .inl h
        · exact .inr (.inl h.symm)
        · exact .inr (.inr h)
      · rintro (h | h | h)
        · exact .inl h
        · exact .inr (.inl ⟨h.symm, hj⟩)
        · exact .inr (.inr h)
  unfold wordL
  rw [this, Nat.zero_testBit, Bool.false_or]
theorem only_pos {x : Int} (h : 0 ≤ x ∧ x < 64) : onlyM x ≠ 0 := by
  unfold onlyM
  rw [if_pos h]
  exact Nat.pos_iff_ne_zero.1 (Nat.pow_pos (by omega))
theorem only_out {x : Int} (h : ¬ (0 ≤ x ∧ x < 64)) : onlyM x = 0 := by unfold onlyM; rw [if_neg h]
theorem okL_take {l : List Int} {k : Nat} {x : Int} (hx : l[k]? = some x) : okL (l.take (k + 1)) = (okL (l.take k) && decide (0 ≤ x ∧ x < 64)) := by
  obtain ⟨hk, rfl⟩ := List.getElem?_eq_some_iff.1 hx
  rw [← List.take_append_getElem hk]
  unfold okL
  rw [List.all_append]
  simp
theorem okL_bad {l : List Int} {k : Nat} {x : Int} (hx : l[k]? = some x) (h : ¬ (0 ≤ x ∧ x < 64)) : okL l = false := by
  unfold okL
  rw [List.all_eq_false]
  exact ⟨x, List.mem_of_getElem? hx, by simpa using h⟩
theorem take_snoc {α : Type} {L : List α} {k : Nat} {x : α} (h : L[k]? = some x) : L.take (k + 1) = L.take k ++ [x] := by
  obtain ⟨hk, rfl⟩ := List.getElem?_eq_some_iff.1 h
  exact (List.take_append_getElem hk).symm
set_option maxHeartbeats 1000000 in
theorem of_any {w : World} {a : Option Addr} {l : List Int} (h : Sl w a l) (c : Nat) : Calls Tryd.prog 24 #[.slice a l.length c] w fun e w' => e = .returned (.tuple #[.int .u64 ((ofW l : Nat) : Int), .int .i64 (ofE l)]) ∧ w = w' := by
  have HS := Lib.hid h
  have hfew := h.few
  clear h
  obtain ⟨n, hn⟩ : ∃ n, n = l.length := ⟨_, rfl⟩
  rw [← hn] at hfew ⊢
  have HN := Lib.hid hn
  clear hn
  go_enter Tryd.func24, Tryd.ntmps24
  go_wp2
  go_loopw [4, 10] (fun v4 v10 wr => ∃ k acc : Nat, v4 = .int .u64 (acc : Int) ∧ v10 = .int .i64 (k : Int) ∧ k ≤ n ∧ Hid (acc = wordL (l.take k) ∧ okL (l.take k) = true ∧ wr = w)) (fun _ v10 _ => n - (intOf v10).toNat)
  case atStart => exact ⟨0, 0, rfl, rfl, by omega, Lib.hid ⟨rfl, rfl, rfl⟩⟩
  case round =>
    obtain ⟨k, acc, rfl, rfl, hk, HR⟩ := hrel
    obtain ⟨e1, e2, rfl⟩ := HR.out
    have hwa : Wd acc := by rw [e1]; exact wd_wordL _
    rcases Nat.lt_or_ge k n with hlt | hge
    · obtain ⟨x, hx⟩ : ∃ x, l[k]? = some x := ⟨_, List.getElem?_eq_getElem (by rw [← HN.out]; exact hlt)⟩
      obtain ⟨b, o, rfl, hc⟩ := HS.out.get hx
      have hin := HS.out.ins x (List.mem_of_getElem? hx)
      have H1 := Lib.hid (only_any x hin wr)
      have H2 := Lib.hid (or_any hwa (wd_only x) wr)
      have hnx : IntKind.i64.wrap ((k : Int) + 1) = (k : Int) + 1 := by rw [IntKind.wrap_i64]; omega
      by_cases hok : 0 ≤ x ∧ x < 64
      · have ht := take_snoc hx
        have HA := Lib.hid (show acc ||| onlyM x = wordL (l.take (k + 1)) ∧ okL (l.take (k + 1)) = true by rw [ht, wordL_snoc, ← e1, ← ht, okL_take hx, e2, decide_eq_true hok]; exact ⟨rfl, rfl⟩)
        have t0 : (((onlyM x : Nat) : Int) == 0) = false := by rw [beq_eq_false_iff_ne]; have := only_pos hok; omega
        generalize acc ||| onlyM x = acc2 at HA H2
        generalize onlyM x = ox at t0 H1 H2
        clear e1 e2 ht hok hin hx hwa HR
        go_wp2_with (first
          | (go_at_call 39; (with_reducible refine H1.out.mono ?_); rintro e w' ⟨rfl, rfl⟩)
          | (go_at_call 33; (with_reducible refine H2.out.mono ?_); rintro e w' ⟨rfl, rfl⟩))
        go_roundw
        case rel => exact ⟨k + 1, acc2, rfl, by go_num, by omega, Lib.hid ⟨HA.out.1, HA.out.2, by first | trivial | rfl⟩⟩
        case measure => simp [intOf]; omega
      · have HB := Lib.hid (okL_bad hx hok)
        rw [only_out hok] at H1
        clear e1 e2 hok hin hx hwa HR H2
        go_wp2_with (go_at_call 39; (with_reducible refine H1.out.mono ?_); rintro e w' ⟨rfl, rfl⟩)
        go_ret2
        exact ⟨by unfold ofW ofE; rw [HB.out]; rfl, rfl⟩
    · obtain rfl : k = n := by omega
      have ht : l.take k = l := List.take_of_length_le (by rw [← HN.out]; exact Nat.le_refl _)
      rw [ht] at e1 e2
      have HE := Lib.hid (And.intro e1 e2)
      clear e1 e2 ht HR hwa
      go_wp2
      go_ret2
      exact ⟨by unfold ofW ofE; rw [HE.out.1, HE.out.2]; rfl, rfl⟩
theorem ints_take {la lb : List Int} {k : Nat} {x y : Int} (hx : la[k]? = some x) (hy : lb[k]? = some y) (h : la.take k = lb.take k) (he : x = y) : la.take (k + 1) = lb.take (k + 1) := by
  rw [take_snoc hx, take_snoc hy, h, he]
set_option maxHeartbeats 1000000 in
theorem ints_any {w : World} {a b : Option Addr} {la lb : List Int} (ha : Sl w a la) (hb : Sl w b lb) (ca cb : Nat) : Calls Tryd.prog 26 #[.slice a la.length ca, .slice b lb.length cb] w fun e w' => e = .returned (.bool (decide (la = lb))) ∧ ∃ q, w' = w.drewN q := by
  have HA := Lib.hid ha
  have HB := Lib.hid hb
  have hfew := ha.few
  obtain ⟨n, hn⟩ : ∃ n, n = la.length := ⟨_, rfl⟩
  obtain ⟨n2, hn2⟩ : ∃ n, n = lb.length := ⟨_, rfl⟩
  rw [← hn] at hfew ⊢
  rw [← hn2]
  have HN := Lib.hid hn
  have HN2 := Lib.hid hn2
  clear ha hb hn hn2
  by_cases hne : n = n2
  · subst hne
    have t0 : ((n : Int) != (n : Int)) = false := by simp
    go_enter Tryd.func26, Tryd.ntmps26
    go_wp2
    go_loopw [5] (fun v5 wr => ∃ k : Nat, v5 = .int .i64 (k : Int) ∧ k ≤ n ∧ Hid (la.take k = lb.take k ∧ ∃ q, wr = w.drewN q)) (fun v5 _ => n - (intOf v5).toNat)
    case atStart => exact ⟨0, rfl, by omega, Lib.hid ⟨rfl, 0, by rw [World.drewN_zero]⟩⟩
    case round =>
      obtain ⟨k, rfl, hk, HR⟩ := hrel
      obtain ⟨e1, q, rfl⟩ := HR.out
      clear t0
      rcases Nat.lt_or_ge k n with hlt | hge
      · obtain ⟨x, hx⟩ : ∃ x, la[k]? = some x := ⟨_, List.getElem?_eq_getElem (by rw [← HN.out]; exact hlt)⟩
        obtain ⟨y, hy⟩ : ∃ y, lb[k]? = some y := ⟨_, List.getElem?_eq_getElem (by rw [← HN2.out]; exact hlt)⟩
        obtain ⟨b1, o1, rfl, hc1⟩ := HA.out.get hx
        obtain ⟨b2, o2, rfl, hc2⟩ := HB.out.get hy
        by_cases he : x = y
        · have t1 : (x != y) = false := by rw [he]; simp
          have HE := Lib.hid (ints_take hx hy e1 he)
          clear e1 he hx hy HR
          go_wp2_with fail
          go_quiet (fail)
          go_wp2
          go_roundw
          case rel => exact ⟨k + 1, by go_num, by omega, Lib.hid ⟨HE.out, _, rfl⟩⟩
          case measure => simp [intOf]; omega
        · have t1 : (x != y) = true := by rw [bne_iff_ne]; exact he
          have HE := Lib.hid (show decide (la = lb) = false from by
            rw [decide_eq_false_iff_not]
            intro e
            rw [e, hy] at hx
            cases hx
            exact he rfl)
          clear e1 he hx hy HR
          go_wp2_with fail
          go_quiet (fail)
          go_wp2
          go_ret
          exact ⟨by rw [HE.out]; rfl, by first | exact ⟨_, rfl⟩ | exact ⟨_, World.drewN_drewN _ _ _⟩⟩
      · have HE := Lib.hid (show decide (la = lb) = true from by
          rw [decide_eq_true_eq]
          have h1 : la.take k = la := List.take_of_length_le (by rw [← HN.out]; exact hge)
          have h2 : lb.take k = lb := List.take_of_length_le (by rw [← HN2.out]; exact hge)
          rw [← h1, ← h2]; exact e1)
        clear e1 HR
        go_wp2
        go_ret
        exact ⟨by rw [HE.out]; rfl, q, rfl⟩
  · have t0 : ((n : Int) != (n2 : Int)) = true := by rw [bne_iff_ne]; omega
    have HE := Lib.hid (show decide (la = lb) = false from by
      rw [decide_eq_false_iff_not]
      intro e
      exact hne (by rw [HN.out, HN2.out, e]))
    clear hne
    go_enter Tryd.func26, Tryd.ntmps26
    go_wp2
    go_ret
    exact ⟨by rw [HE.out]; rfl, 0, by rw [World.drewN_zero]⟩
end Go.Proofs.YtngfopnefmknoaaDoor
