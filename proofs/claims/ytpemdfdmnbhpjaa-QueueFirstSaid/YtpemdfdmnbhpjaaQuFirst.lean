/- QueueFirst: the walk. -/
import Derived.Test.YtpemdfdmnbhpjaaQuAwake
set_option linter.all false
namespace Go.Proofs.Ytpemdfdmnbhpjaa
open Go.RowKit Go.Shelf
set_option maxRecDepth 100000
/-- x ^ id -/
def xv (x : Int) (id : Nat) : Int := bits .xor .i64 x (id : Int)
theorem xv_in (x : Int) (id : Nat) : In (xv x id) := by
  unfold xv bits
  simp only [IntKind.wrap_i64]
  unfold In
  omega
/-- so many items one behind the other -/
def run (x : Int) : Nat → Nat → List It
  | _, 0 => []
  | out, m + 1 => ((out : Int), xv x out) :: run x (out + 1) m
theorem run_len (x : Int) : ∀ m out, (run x out m).length = m
  | 0, _ => rfl
  | m + 1, out => by rw [run, List.length_cons, run_len x m]
theorem run_snoc (x : Int) : ∀ m out, run x out m ++ [(((out + m : Nat) : Int), xv x (out + m))] = run x out (m + 1)
  | 0, _ => rfl
  | m + 1, out => by
    have := run_snoc x m (out + 1)
    rw [show out + 1 + m = out + (m + 1) by omega] at this
    rw [run, List.cons_append, this]
    rfl
/-- the queue between the rounds -/
def stF (most : Int) (x : Int) (out m : Nat) : Qs := ⟨most, ((out + m : Nat) : Int) - 1, run x out m⟩
theorem stF_full {most x : Int} {out m : Nat} (h : most ≤ m) : putE (stF most x out m) ((out + m : Nat) : Int) ≠ 0 := by
  unfold putE stF
  rw [if_neg (by simp; omega), if_pos (by show most ≤ ((run x out m).length : Int); rw [run_len]; exact h)]
  decide
theorem stF_put {most x : Int} {out m : Nat} (h : (m : Int) < most) : putE (stF most x out m) ((out + m : Nat) : Int) = 0 ∧ putS (stF most x out m) ((out + m : Nat) : Int) (xv x (out + m)) = stF most x out (m + 1) := by
  have he : putE (stF most x out m) ((out + m : Nat) : Int) = 0 := by
    unfold putE stF
    rw [if_neg (by simp; omega), if_neg (by show ¬ most ≤ ((run x out m).length : Int); rw [run_len]; omega)]
  refine ⟨he, ?_⟩
  rw [putS_yes he]
  unfold stF
  rw [run_snoc, show ((out + (m + 1) : Nat) : Int) - 1 = ((out + m : Nat) : Int) by omega]
theorem stF_take {most x : Int} {out m : Nat} : takeX (stF most x out (m + 1)) (out : Int) = xv x out ∧ takeE (stF most x out (m + 1)) (out : Int) = 0 ∧ takeS (stF most x out (m + 1)) (out : Int) = stF most x (out + 1) m := by
  have hf : fnd (out : Int) (run x out (m + 1)) = some 0 := by
    unfold run fnd
    rw [if_pos rfl]
  refine ⟨?_, ?_, ?_⟩
  · unfold takeX stF; rw [hf]; rfl
  · unfold takeE stF; rw [hf]
  · unfold takeS stF; rw [hf]; simp only [run, List.eraseIdx_zero, List.tail_cons]
    rw [show out + (m + 1) = out + 1 + m by omega]
set_option maxHeartbeats 4000000 in
theorem queuefirst_walk (most rounds x : Int) (w : World) (hm : In most) (hr : In rounds) (hx : In x) :
    Calls Try.prog 5 #[.int .i64 most, .int .i64 rounds, .int .i64 x] w fun e w' => e = .returned (.bool true) ∧ Below w.heap.size w w' := by
  have HA := Lib.hid (awake_any w)
  by_cases hc : most < 1 ∨ 64 < most ∨ rounds < 0 ∨ 64 < rounds
  · rcases (show (most < 1) ∨ (1 ≤ most ∧ 64 < most) ∨ (1 ≤ most ∧ most ≤ 64 ∧ rounds < 0) ∨ (1 ≤ most ∧ most ≤ 64 ∧ 0 ≤ rounds ∧ 64 < rounds) by omega) with h | ⟨h, h2⟩ | ⟨h, h2, h3⟩ | ⟨h, h2, h3, h4⟩
    all_goals
      clear hc
      go_enter Try.func5, Try.ntmps5
      go_wp2_with (go_at_call 22; (with_reducible refine HA.out.mono ?_); rintro e w1 ⟨rfl, hb1⟩; have HB1 := Lib.hid hb1; clear hb1)
      go_ret
      exact ⟨rfl, HB1.out⟩
  · have h1 : 1 ≤ most := by omega
    have h2 : most ≤ 64 := by omega
    have h3 : 0 ≤ rounds := by omega
    have h4 : rounds ≤ 64 := by omega
    clear hc
    go_enter Try.func5, Try.ntmps5
    go_upto_region 5 with (go_at_call 22; (with_reducible refine HA.out.mono ?_); rintro e w1 ⟨rfl, hb1⟩; have HB1 := Lib.hid hb1; clear hb1)
    have HN := Lib.hid (new_any most w1 ⟨h1, by omega⟩)
    go_wp2_with (go_at_call 7; (with_reducible refine HN.out.mono ?_); rintro e w2 ⟨rfl, hq2, hb2⟩; have HB2 := Lib.hid hb2; have HO2 := Lib.hid (own_new hq2); clear hq2 hb2)
    have HO : Hid (Own w2 w.heap.size w1.heap.size [] (stF most x 0 0)) := Lib.hid ⟨HO2.out.q, fun b hb => Nat.le_trans HB1.out.size (HO2.out.new b hb)⟩
    have HB := Lib.hid (HB1.out.trans (HB2.out.mono HB1.out.size))
    generalize w1.heap.size = G at HO
    clear HO2 HB1 HB2 HN HA
    go_loopw [9, 10, 11] (fun vid vout vi wr => ∃ (i out m d : Nat) (F : List Nat), vid = .int .i64 (d : Int) ∧ vout = .int .i64 (out : Int) ∧ vi = .int .i64 (i : Int) ∧ Hid (d = out + m) ∧ d ≤ 64 * i ∧ (i : Int) ≤ rounds ∧ Hid (Own wr w.heap.size G F (stF most x out m)) ∧ Hid (Below w.heap.size w wr)) (fun _ _ vi _ => (rounds - intOf vi).toNat)
    case atStart => exact ⟨0, 0, 0, 0, [], rfl, rfl, rfl, Lib.hid rfl, Nat.le_refl _, h3, HO, HB⟩
    case round =>
      obtain ⟨i, out, m, d, F, rfl, rfl, rfl, HD, hom, hir, HOw, HBw⟩ := hrel
      clear HO HB
      by_cases hlt : (i : Int) < rounds
      · obtain ⟨r, hr1⟩ : ∃ r : Nat, (i : Int).tmod most = (r : Int) := ⟨((i : Int).tmod most).toNat, by rw [Int.toNat_of_nonneg]; exact Int.tmod_nonneg _ (by omega)⟩
        have hr2 : (r : Int) < most := by rw [← hr1]; exact Int.tmod_lt_of_pos _ (by omega)
        have hrw : IntKind.i64.wrap (r : Int) = (r : Int) := by rw [IntKind.wrap_i64]; omega
        have tz : (most == 0) = false := by simp; omega
        obtain ⟨wo, rfl⟩ : ∃ wo : World, wo = wr := ⟨_, rfl⟩
        go_wp2_with fail
        go_loopw [9, 12] (fun vid vk wr => ∃ (k m' d' : Nat) (F' : List Nat), vid = .int .i64 (d' : Int) ∧ vk = .int .i64 (k : Int) ∧ Hid (d' = out + m') ∧ d' ≤ 64 * i + k ∧ k ≤ r + 1 ∧ Hid (Own wr w.heap.size G F' (stF most x out m')) ∧ Hid (Below w.heap.size w wr)) (fun _ vk _ => r + 1 - (intOf vk).toNat)
        case atStart => exact ⟨0, m, d, F, rfl, rfl, HD, hom, Nat.zero_le _, HOw, HBw⟩
        case round =>
          obtain ⟨k, m', d', F', rfl, rfl, HD', hdk, hkr, HOk, HBk⟩ := hrel
          clear HOw HBw
          obtain ⟨wo2, rfl⟩ : ∃ wo2 : World, wo2 = wr := ⟨_, rfl⟩
          rcases Nat.lt_or_ge r k with hrk | hrk
          · obtain ⟨r2, hq1⟩ : ∃ r2 : Nat, ((i : Int) / 2).tmod most = (r2 : Int) := ⟨(((i : Int) / 2).tmod most).toNat, by rw [Int.toNat_of_nonneg]; exact Int.tmod_nonneg _ (by omega)⟩
            have hq2 : (r2 : Int) < most := by rw [← hq1]; exact Int.tmod_lt_of_pos _ (by omega)
            have hqw : IntKind.i64.wrap (r2 : Int) = (r2 : Int) := by rw [IntKind.wrap_i64]; omega
            have hiw : IntKind.i64.wrap ((i : Int) / 2) = (i : Int) / 2 := by rw [IntKind.wrap_i64]; omega
            have t9 : decide ((k : Int) ≤ (r : Int)) = false := by simp; omega
            have t9' : decide (k ≤ r) = false := by simp; omega
            go_wp2_with fail
            clear t9 t9'
            go_loopw [10, 13] (fun vout vk wr => ∃ (k2 out' m2 : Nat) (F2 : List Nat), vout = .int .i64 (out' : Int) ∧ vk = .int .i64 (k2 : Int) ∧ Hid (d' = out' + m2) ∧ k2 ≤ r2 + 1 ∧ Hid (Own wr w.heap.size G F2 (stF most x out' m2)) ∧ Hid (Below w.heap.size w wr)) (fun _ vk _ => r2 + 1 - (intOf vk).toNat)
            case atStart => exact ⟨0, out, m', F', rfl, rfl, HD', Nat.zero_le _, HOk, HBk⟩
            case round =>
              obtain ⟨k2, out', m2, F2, rfl, rfl, HD2, hk2, HO2, HB2⟩ := hrel
              clear HOk HBk
              obtain ⟨wo3, rfl⟩ : ∃ wo3 : World, wo3 = wr := ⟨_, rfl⟩
              have hnx : IntKind.i64.wrap ((i : Int) + 1) = (i : Int) + 1 := by rw [IntKind.wrap_i64]; omega
              rcases Nat.lt_or_ge r2 k2 with hrk2 | hrk2
              · have t0 : decide ((k2 : Int) ≤ (r2 : Int)) = false := by simp; omega
                go_wp2_with fail
                go_roundw
                case rel => exact ⟨i + 1, out', m2, d', F2, rfl, rfl, by go_num, HD2, by omega, by omega, HO2, HB2⟩
                case measure => simp [intOf]; omega
              · have t0 : decide ((k2 : Int) ≤ (r2 : Int)) = true := by simp; omega
                have hl := len_any HO2.out.q
                rw [show (stF most x out' m2).l.length = m2 from run_len x m2 out'] at hl
                have HL := Lib.hid hl
                clear hl
                rcases Nat.eq_zero_or_pos m2 with rfl | hm2
                · go_wp2_with (go_at_call 23; (refine HL.out.mono ?_); rintro e w' ⟨rfl, rfl⟩)
                  go_roundw
                  case rel => exact ⟨i + 1, out', 0, d', F2, rfl, rfl, by go_num, HD2, by omega, by omega, HO2, HB2⟩
                  case measure => simp [intOf]; omega
                · obtain ⟨m3, rfl⟩ : ∃ m3, m2 = m3 + 1 := ⟨m2 - 1, by omega⟩
                  have HAT := Lib.hid (show Calls Try.prog 18 #[.pointer (some ⟨G, 0, none⟩), .int .i64 0] wo3 fun e w' => e = .returned (.tuple #[.int .i64 (out' : Int), .int .i64 (bits .xor .i64 x (out' : Int)), .bool true]) ∧ ∃ q, w' = wo3.drewN q from at_yes HO2.out.q (k := 0) (x := ((out' : Int), xv x out')) rfl)
                  have ht := fun q => take_any (HO2.out.q.below (below_drewN (Below.refl _ wo3) q)) (out' : Int)
                  rw [(stF_take (most := most) (x := x) (out := out') (m := m3)).1, (stF_take (most := most) (x := x) (out := out') (m := m3)).2.1, (stF_take (most := most) (x := x) (out := out') (m := m3)).2.2] at ht
                  unfold xv at ht
                  have HT := Lib.hid ht
                  clear ht
                  have t8 : decide ((0 : Int) < ((m3 + 1 : Nat) : Int)) = true := by simp
                  have hw3 : IntKind.i64.wrap ((out' : Int) + 1) = (out' : Int) + 1 := by rw [IntKind.wrap_i64]; have := HD2.out; omega
                  have hw4 : IntKind.i64.wrap ((k2 : Int) + 1) = (k2 : Int) + 1 := by rw [IntKind.wrap_i64]; omega
                  go_wp2_with (first
                    | (go_at_call 23; (refine HL.out.mono ?_); rintro e w' ⟨rfl, rfl⟩)
                    | (go_at_call 18; (with_reducible refine HAT.out.mono ?_); rintro e w' ⟨rfl, q, rfl⟩))
                  refine (HT.out q).mono ?_
                  rintro e w5 hq
                  obtain ⟨rfl, F3, ho3, hb3, _, _⟩ := (HO2.out.below (below_drewN (Below.refl _ wo3) q)).step (show w.heap.size ≤ (wo3.drewN q).heap.size from HB2.out.size) hq
                  have HB3 := Lib.hid ((below_drewN HB2.out q).trans hb3)
                  have HO3 := Lib.hid ho3
                  clear hq ho3 hb3
                  go_wp2
                  go_roundw
                  case rel => exact ⟨k2 + 1, out' + 1, m3, F3, by go_num, by go_num, Lib.hid (by rw [HD2.out]; omega), by omega, HO3, HB3⟩
                  case measure => simp [intOf]; omega
          · have HP := Lib.hid (put_any HOk.out.q (by show (run x out m').length ≤ _; rw [run_len]; have := HD'.out; omega) (id := (d' : Int)) (x := xv x d') (by unfold In; omega) (xv_in x d'))
            have HRO := Lib.hid (fun (W : World) F9 s9 (h : Qm W G F9 s9) => room_any h)
            unfold xv at HP
            by_cases hfull : most ≤ m'
            · have HE := Lib.hid (show putE (stF most x out m') (d' : Int) ≠ 0 by rw [HD'.out]; exact stF_full hfull)
              have hne : (putE (stF most x out m') (d' : Int) != 0) = true := by simpa using HE.out
              have HF := Lib.hid hfull
              have HS := Lib.hid (show putS (stF most x out m') (d' : Int) (bits .xor .i64 x (d' : Int)) = stF most x out m' from putS_no HE.out)
              rw [HS.out] at HP
              generalize putE (stF most x out m') (d' : Int) = pe at HP hne
              clear hfull HE
              go_wp2_with fail
              refine HP.out.mono ?_
              rintro e w3 hq
              obtain ⟨rfl, F3, ho3, hb3, _, _⟩ := HOk.out.step HBk.out.size hq
              have HB3 := Lib.hid (HBk.out.trans hb3)
              have HO3 := Lib.hid ho3
              have hwf := ho3.q.wf.few
              have hz : most - ((stF most x out m').l.length : Int) = 0 := by
                have e : (stF most x out m').l.length = m' := run_len x m' out
                rw [e] at hwf ⊢
                have e2 : (stF most x out m').most = most := rfl
                rw [e2] at hwf
                have := HF.out
                omega
              have hro : Calls Try.prog 24 #[.pointer (some ⟨G, 0, none⟩)] w3 fun e w' => e = .returned (.int .i64 0) ∧ ∃ q, w' = w3.drewN q := by
                rw [← hz]; exact room_any ho3.q
              have HR3 := Lib.hid hro
              clear hq ho3 hb3 hwf hz hro
              go_wp2_with (go_at_call 24; (with_reducible refine HR3.out.mono ?_); rintro e w' ⟨rfl, q, rfl⟩)
              go_ret
              exact ⟨rfl, below_drewN HB3.out q⟩
            · have HS := Lib.hid (stF_put (x := x) (out := out) (show (m' : Int) < most by omega))
              rw [← HD'.out] at HS
              unfold xv at HS
              rw [HS.out.1, HS.out.2] at HP
              clear hfull
              go_wp2_with fail
              refine HP.out.mono ?_
              rintro e w3 hq
              obtain ⟨rfl, F3, ho3, hb3, _, _⟩ := HOk.out.step HBk.out.size hq
              have HB3 := Lib.hid (HBk.out.trans hb3)
              have HO3 := Lib.hid ho3
              clear hq ho3 hb3
              have hw1 : IntKind.i64.wrap ((d' : Int) + 1) = (d' : Int) + 1 := by rw [IntKind.wrap_i64]; omega
              have hw2 : IntKind.i64.wrap ((k : Int) + 1) = (k : Int) + 1 := by rw [IntKind.wrap_i64]; omega
              go_wp2
              go_roundw
              case rel => exact ⟨k + 1, m' + 1, d' + 1, F3, by go_num, by go_num, Lib.hid (by rw [HD'.out]; omega), by omega, by omega, HO3, HB3⟩
              case measure => simp [intOf]; omega
      · have hl := len_any HOw.out.q
        rw [show (stF most x out m).l.length = m from run_len x m out] at hl
        have HL := Lib.hid hl
        have hi : IntKind.i64.wrap ((d : Int) - (out : Int)) = (m : Int) := by rw [IntKind.wrap_i64]; have := HD.out; omega
        clear hl
        go_wp2_with (go_at_call 23; (refine HL.out.mono ?_); rintro e w' ⟨rfl, rfl⟩)
        go_ret
        exact ⟨retB (by simp), HBw.out⟩
end Go.Proofs.Ytpemdfdmnbhpjaa
