/- Queue: where a number stands. -/
import Derived.Test.YtpemdfdmnbhpjaaQuMem
set_option linter.all false
namespace Go.Proofs.Ytpemdfdmnbhpjaa
open Go.RowKit Go.Shelf
set_option maxRecDepth 100000
def cmpV (a b : Int) : Int := if a < b then -1 else if b < a then 1 else 0
theorem isnan_any (a : Int) (w : World) : Calls Try.prog 39 #[.int .i64 a] w fun e w' => e = .returned (.bool false) ∧ w' = w := by
  go_enter Try.func39, Try.ntmps39
  go_wp2
  go_ret
  exact ⟨by simp, rfl⟩
theorem compare_any (a b : Int) (w : World) : Calls Try.prog 32 #[.int .i64 a, .int .i64 b] w fun e w' => e = .returned (.int .i64 (cmpV a b)) ∧ w' = w := by
  obtain ⟨C, hC⟩ : ∃ C, C = cmpV a b := ⟨_, rfl⟩
  rw [← hC]
  have HC := Lib.hid hC
  clear hC
  unfold cmpV at HC
  by_cases h1 : a < b
  · have t : decide (a < b) = true := by simpa using h1
    have HC2 := Lib.hid (show C = -1 by rw [HC.out, if_pos h1])
    clear h1 HC
    go_enter Try.func32, Try.ntmps32
    go_wp2_with (go_at_call 39; (refine (isnan_any _ _).mono ?_); rintro e w' ⟨rfl, rfl⟩)
    go_ret
    exact ⟨ret1 HC2.out.symm, rfl⟩
  · by_cases h2 : b < a
    · have t : decide (a < b) = false := by simpa using h1
      have t2 : decide (b < a) = true := by simpa using h2
      have HC2 := Lib.hid (show C = 1 by rw [HC.out, if_neg h1, if_pos h2])
      clear h1 h2 HC
      go_enter Try.func32, Try.ntmps32
      go_wp2_with (go_at_call 39; (refine (isnan_any _ _).mono ?_); rintro e w' ⟨rfl, rfl⟩)
      go_ret
      exact ⟨ret1 HC2.out.symm, rfl⟩
    · have t : decide (a < b) = false := by simpa using h1
      have t2 : decide (b < a) = false := by simpa using h2
      have HC2 := Lib.hid (show C = 0 by rw [HC.out, if_neg h1, if_neg h2])
      clear h1 h2 HC
      go_enter Try.func32, Try.ntmps32
      go_wp2_with (go_at_call 39; (refine (isnan_any _ _).mono ?_); rintro e w' ⟨rfl, rfl⟩)
      go_ret
      exact ⟨ret1 HC2.out.symm, rfl⟩
/-- what the comparing closure has -/
structure Cl (w : World) (ib qb g : Nat) (F : List Nat) (s : Qs) (id : Int) : Prop where
  ib : Boxed w ib 3 (.int .i64 id)
  qb : Boxed w qb 23 (.pointer (some ⟨g, 0, none⟩))
  q : Qm w g F s
theorem Cl.drewN {w : World} {ib qb g : Nat} {F : List Nat} {s : Qs} {id : Int} (h : Cl w ib qb g F s id) (n : Nat) : Cl (w.drewN n) ib qb g F s id := ⟨h.ib, h.qb, h.q.keep (fun _ _ => rfl)⟩
theorem cmp_any {w : World} {ib qb g : Nat} {F : List Nat} {s : Qs} {id : Int} (h : Cl w ib qb g F s id) {k : Nat} {x : It} (hx : s.l[k]? = some x) :
    Calls Try.prog 31 #[.int .i64 (k : Int), .pointer (some ⟨ib, 0, none⟩), .pointer (some ⟨qb, 0, none⟩)] w fun e w' => e = .returned (.int .i64 (cmpV id x.1)) ∧ ∃ q, w' = w.drewN q := by
  have d0 := h.ib.cell
  have d1 := h.qb.cell
  obtain ⟨a, n, cap, first, hb, hp, _, hw⟩ := h.q
  have hk := get_lt hx
  have hlf := hp.few
  obtain ⟨pb, cs, rfl, rfl, hr⟩ := hp.ring hb (by omega)
  have HA := Lib.hid (fun n => (hr.below (below_drewN (Below.refl _ w) n)).at hk)
  have h0 := hr.c0 hx
  have h1 := hr.c1 hx
  clear hb hp hw hr hx h
  generalize slot n first k = S at HA h0 h1
  go_enter Try.func31, Try.ntmps31
  go_wp2_with fail
  go_quiet (first
    | (go_at_call 28; refine Calls.quiet_of (HA.out _))
    | (go_at_call 32; refine Calls.quiet_of_same (compare_any _ _ _)))
  go_wp2
  go_ret
  exact ⟨rfl, _, rfl⟩
/-- where the search stands: what lies below i is less, what lies from j on is not -/
structure Bs (s : Qs) (id : Int) (i j : Nat) : Prop where
  le : i ≤ j
  top : j ≤ s.l.length
  lo : ∀ t x, t < i → s.l[t]? = some x → x.1 < id
  hi : ∀ t x, j ≤ t → s.l[t]? = some x → id ≤ x.1
theorem Bs.up {s : Qs} {id : Int} {i j h : Nat} (b : Bs s id i j) (hr : Rise s.l) (hj : h < j) {x : It} (hx : s.l[h]? = some x) (hl : x.1 < id) : Bs s id (h + 1) j :=
  ⟨by omega, b.top, fun t y ht hy => by
    rcases Nat.lt_or_ge t h with h1 | h1
    · have := hr t h y x h1 hy hx
      omega
    · obtain rfl : t = h := by omega
      rw [hx] at hy
      cases hy
      exact hl, b.hi⟩
theorem Bs.down {s : Qs} {id : Int} {i j h : Nat} (b : Bs s id i j) (hr : Rise s.l) (hi : i ≤ h) (hj : h < j) {x : It} (hx : s.l[h]? = some x) (hl : id ≤ x.1) : Bs s id i h :=
  ⟨hi, by have := b.top; omega, b.lo, fun t y ht hy => by
    rcases Nat.lt_or_ge h t with h1 | h1
    · have := hr h t x y h1 hx hy
      omega
    · obtain rfl : t = h := by omega
      rw [hx] at hy
      cases hy
      exact hl⟩
theorem Bs.found {s : Qs} {id : Int} {i : Nat} (b : Bs s id i i) {x : It} (hx : s.l[i]? = some x) (he : x.1 = id) : fnd id s.l = some i := by
  have e : x = (id, x.2) := by rw [← he]
  rw [e] at hx
  exact fnd_at hx (fun j y hj hy => by have := b.lo j y hj hy; omega)
theorem Bs.end {s : Qs} {id : Int} {i : Nat} (b : Bs s id i i) (hi : s.l.length ≤ i) : fnd id s.l = none :=
  fnd_no (fun j y hy => by have := b.lo j y (by have := get_lt hy; omega) hy; omega)
theorem Bs.none {s : Qs} {id : Int} {i : Nat} (b : Bs s id i i) (hr : Rise s.l) {x : It} (hx : s.l[i]? = some x) (he : x.1 ≠ id) : fnd id s.l = Option.none :=
  fnd_no (fun j y hy => by
    rcases Nat.lt_or_ge j i with h1 | h1
    · have := b.lo j y h1 hy
      omega
    · have h2 := b.hi i x (Nat.le_refl _) hx
      rcases Nat.lt_or_ge i j with h3 | h3
      · have := hr i j x y h3 hx hy
        omega
      · obtain rfl : j = i := by omega
        rw [hx] at hy
        cases hy
        omega)
def SfP (s : Qs) (id : Int) (w : World) (e : Ending) (w' : World) : Prop :=
  (∃ (k : Nat) (b : Bool), e = .returned (.tuple #[.int .i64 (k : Int), .bool b]) ∧ ((b = true ∧ fnd id s.l = some k) ∨ (b = false ∧ fnd id s.l = none))) ∧ ∃ q, w' = w.drewN q
set_option maxHeartbeats 2000000 in
theorem sfind_any {w : World} {ib qb g : Nat} {F : List Nat} {s : Qs} {id : Int} (h : Cl w ib qb g F s id) :
    Calls Try.prog 30 #[.int .i64 (s.l.length : Int), .func (.func 31) #[] #[.pointer (some ⟨ib, 0, none⟩), .pointer (some ⟨qb, 0, none⟩)]] w (SfP s id w) := by
  have HC := Lib.hid h
  have HR := Lib.hid h.q.wf.rise
  have hfew := h.q.few
  have hb : Bs s id 0 s.l.length := ⟨Nat.zero_le _, Nat.le_refl _, fun t x ht => by omega, fun t x ht hx => by have := get_lt hx; omega⟩
  have HB := Lib.hid hb
  clear h hb
  go_enter Try.func30, Try.ntmps30
  go_wp2_with fail
  go_loopw [4, 6] (fun vi vj wr => ∃ i j : Nat, vi = .int .i64 i ∧ vj = .int .i64 j ∧ i ≤ j ∧ j ≤ s.l.length ∧ Hid (Bs s id i j) ∧ ∃ q, wr = w.drewN q) (fun vi vj _ => (intOf vj - intOf vi).toNat)
  case atStart => exact ⟨0, s.l.length, rfl, rfl, Nat.zero_le _, Nat.le_refl _, HB, 0, rfl⟩
  case round =>
    obtain ⟨i, j, rfl, rfl, hij, hjl, HS, q, rfl⟩ := hrel
    rcases Nat.lt_or_ge i j with hlt | hge
    · obtain ⟨m, hm⟩ : ∃ m, m = (i + j) / 2 := ⟨_, rfl⟩
      obtain ⟨x, hx⟩ : ∃ x, s.l[m]? = some x := ⟨_, List.getElem?_eq_getElem (by omega)⟩
      have HM := Lib.hid (cmp_any (HC.out.drewN q) hx)
      have him : i ≤ m := by omega
      have hmj : m < j := by omega
      have w1 : IntKind.i64.wrap ((i : Int) + (j : Int)) = (i : Int) + (j : Int) := by rw [IntKind.wrap_i64]; omega
      have w2 : IntKind.u64.wrap ((i : Int) + (j : Int)) = (i : Int) + (j : Int) := by rw [IntKind.wrap_u64]; omega
      have w3 : ((i : Int) + (j : Int)) / 2 = (m : Int) := by omega
      have w4 : IntKind.i64.wrap (m : Int) = (m : Int) := by rw [IntKind.wrap_i64]; omega
      have w5 : IntKind.u64.wrap (m : Int) = (m : Int) := by rw [IntKind.wrap_u64]; omega
      clear hm
      by_cases hl : x.1 < id
      · have hc : cmpV id x.1 = 1 := by unfold cmpV; rw [if_neg (by omega), if_pos hl]
        rw [hc] at HM
        have HN := Lib.hid (HS.out.up HR.out hmj hx hl)
        clear hx hl hc
        go_wp2_with (go_at_call 31; (with_reducible refine HM.out.mono ?_); rintro e w' ⟨rfl, q2, rfl⟩)
        have w6 : IntKind.i64.wrap ((m : Int) + 1) = (m : Int) + 1 := by rw [IntKind.wrap_i64]; omega
        go_wp2
        go_roundw
        case rel => exact ⟨m + 1, j, by go_num, rfl, by omega, hjl, HN, _, rfl⟩
        case measure => simp [intOf]; omega
      · have HN := Lib.hid (HS.out.down HR.out him hmj hx (by omega))
        have hc : cmpV id x.1 = -1 ∨ cmpV id x.1 = 0 := by unfold cmpV; rw [if_neg hl]; split <;> simp
        rcases hc with hc | hc <;>
        · rw [hc] at HM
          clear hx hl hc
          go_wp2_with (go_at_call 31; (with_reducible refine HM.out.mono ?_); rintro e w' ⟨rfl, q2, rfl⟩)
          go_wp2
          go_roundw
          case rel => exact ⟨i, m, rfl, rfl, by omega, by omega, HN, _, rfl⟩
          case measure => simp [intOf]; omega
    · obtain rfl : i = j := by omega
      rcases Nat.lt_or_ge i s.l.length with hil | hil
      · obtain ⟨x, hx⟩ : ∃ x, s.l[i]? = some x := ⟨_, List.getElem?_eq_getElem hil⟩
        have HM := Lib.hid (cmp_any (HC.out.drewN q) hx)
        by_cases he : x.1 = id
        · have hc : cmpV id x.1 = 0 := by unfold cmpV; rw [if_neg (by omega), if_neg (by omega)]
          rw [hc] at HM
          have HF := Lib.hid (HS.out.found hx he)
          clear hx he hc
          go_wp2_with (go_at_call 31; (with_reducible refine HM.out.mono ?_); rintro e w' ⟨rfl, q2, rfl⟩)
          go_wp2
          go_ret2
          exact ⟨⟨i, true, rfl, .inl ⟨rfl, HF.out⟩⟩, _, rfl⟩
        · have hc : cmpV id x.1 = -1 ∨ cmpV id x.1 = 1 := by unfold cmpV; split; simp; rw [if_pos (by omega)]; simp
          have HF := Lib.hid (HS.out.none HR.out hx he)
          rcases hc with hc | hc <;>
          · rw [hc] at HM
            clear hx he hc
            go_wp2_with (go_at_call 31; (with_reducible refine HM.out.mono ?_); rintro e w' ⟨rfl, q2, rfl⟩)
            go_wp2
            go_ret2
            exact ⟨⟨i, false, rfl, .inr ⟨rfl, HF.out⟩⟩, _, rfl⟩
      · have HF := Lib.hid (HS.out.end hil)
        go_wp2
        go_ret2
        exact ⟨⟨i, false, rfl, .inr ⟨rfl, HF.out⟩⟩, _, rfl⟩
def FndP (s : Qs) (id : Int) (w : World) (e : Ending) (w' : World) : Prop :=
  e = .returned (match fnd id s.l with
    | some k => .tuple #[.int .i64 (k : Int), .bool true]
    | none => .tuple #[.int .i64 0, .bool false]) ∧ Below w.heap.size w w'
theorem find_any {w : World} {g : Nat} {F : List Nat} {s : Qs} (h : Qm w g F s) (id : Int) :
    Calls Try.prog 16 #[.pointer (some ⟨g, 0, none⟩), .int .i64 id] w (FndP s id w) := by
  obtain ⟨w1, hw1⟩ : ∃ w1, w1 = w.alloc (.cells #[.pointer (some ⟨g, 0, none⟩)] 23) := ⟨_, rfl⟩
  obtain ⟨w2, hw2⟩ : ∃ w2, w2 = w1.alloc (.cells #[.int .i64 id] 3) := ⟨_, rfl⟩
  have z1 : w1.heap.size = w.heap.size + 1 := by rw [hw1]; simp
  have k1 : Below w.heap.size w w1 := by rw [hw1]; exact (Below.refl _ w).alloc (Nat.le_refl _) _
  have k2 : Below w1.heap.size w1 w2 := by rw [hw2]; exact (Below.refl _ w1).alloc (Nat.le_refl _) _
  have qb1 : Boxed w1 w.heap.size 23 (.pointer (some ⟨g, 0, none⟩)) := by rw [hw1]; exact Boxed.new w _ _
  have hcl : Cl w2 (w.heap.size + 1) w.heap.size g F s id := ⟨by rw [hw2, ← z1]; exact Boxed.new w1 _ _, boxed_below qb1 k2, (h.below k1).below k2⟩
  have HCL := Lib.hid hcl
  have HL := Lib.hid (len_any hcl.q)
  have HS := Lib.hid (sfind_any hcl)
  have HK := Lib.hid (k1.trans (k2.mono (by omega)))
  have d1 := hcl.qb.cell
  have HE1 := Lib.hid hw1.symm
  have HE2 := Lib.hid hw2.symm
  have HZ1 := Lib.hid z1
  clear h hw1 hw2 k1 k2 qb1 hcl z1
  go_enter Try.func16, Try.ntmps16
  go_upto_region 1 with (fail)
  rw [HE1.out, HE2.out]
  clear HE1 HE2 HZ1 HCL
  go_wp2_with (go_at_call 23; (with_reducible refine HL.out.mono ?_); rintro e w' ⟨rfl, rfl⟩)
  refine HS.out.mono ?_
  rintro e w' ⟨⟨k, b, rfl, hk⟩, q, rfl⟩
  have HB := Lib.hid (below_drewN HK.out q)
  rcases hk with ⟨rfl, hk⟩ | ⟨rfl, hk⟩
  · have HF := Lib.hid hk
    clear hk d1
    go_wp2
    go_ret2
    exact ⟨by rw [HF.out]; rfl, HB.out⟩
  · have HF := Lib.hid hk
    clear hk d1
    go_wp2
    go_ret2
    exact ⟨by rw [HF.out]; rfl, HB.out⟩
end Go.Proofs.Ytpemdfdmnbhpjaa
