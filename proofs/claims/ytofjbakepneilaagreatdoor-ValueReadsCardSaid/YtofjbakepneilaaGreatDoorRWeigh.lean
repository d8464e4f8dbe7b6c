/- The reference's reading of a real. -/
import Derived.Test.YtofjbakepneilaaGreatDoorMRReal0
import Derived.Test.YtofjbakepneilaaGreatDoorVRead1
namespace Go.Proofs.YtofjbakepneilaaGreatDoor
open Go.RowKit Go.Shelf
set_option maxRecDepth 100000

theorem ix_ge (l : List UInt8) (c : UInt8) : -1 ≤ Lib.indexByte l c := by
  induction l with
  | nil => exact Int.le_refl _
  | cons a r ih =>
    unfold Lib.indexByte
    split
    · omega
    · split
      · omega
      · omega
def ixG (l : List UInt8) (k : Nat) : Int := if Lib.indexByte (l.drop k) 112 < 0 then -1 else (k : Int) + Lib.indexByte (l.drop k) 112
theorem ixG_zero (l : List UInt8) : ixG l 0 = Lib.indexByte l 112 := by
  have := ix_ge l 112
  unfold ixG
  rw [List.drop_zero]
  split <;> omega
theorem ixG_end (l : List UInt8) (k : Nat) (h : l.length ≤ k) : ixG l k = -1 := by
  unfold ixG
  rw [List.drop_of_length_le h]
  rfl
theorem ixG_hit {l r : List UInt8} {k : Nat} (h : l.drop k = 112 :: r) : ixG l k = k := by
  unfold ixG
  rw [h]
  have e : Lib.indexByte (112 :: r) 112 = 0 := rfl
  rw [e, if_neg (by omega)]
  omega
theorem ixG_step {l r : List UInt8} {c : UInt8} {k : Nat} (h : l.drop k = c :: r) (hc : c ≠ 112) : ixG l k = ixG l (k + 1) := by
  have hr : l.drop (k + 1) = r := by rw [← List.drop_drop, h]; rfl
  unfold ixG
  rw [h, hr]
  have hb : (c == 112) = false := beq_eq_false_iff_ne.2 hc
  have e : Lib.indexByte (c :: r) 112 = if Lib.indexByte r 112 == -1 then -1 else Lib.indexByte r 112 + 1 := by
    conv => lhs; unfold Lib.indexByte
    rw [hb]
    rfl
  have := ix_ge r 112
  rw [e]
  by_cases h1 : Lib.indexByte r 112 = -1
  · rw [h1]; rfl
  · simp only [show (Lib.indexByte r 112 == -1) = false from beq_eq_false_iff_ne.2 h1, Bool.false_eq_true, if_false]
    rw [if_neg (by omega), if_neg (by omega)]
    omega
def wV (o : Option Nat) : Value := .tuple #[.float .f64 (o.getD 0), .bool o.isSome]
theorem ex_list (t : ByteArray) (a b : Nat) : (t.extract a b).data.toList = (t.data.toList.take b).drop a := by
  rw [ByteArray.data_extract, Array.toList_extract, List.extract_eq_take_drop, List.drop_take]
set_option maxHeartbeats 8000000 in
theorem weighed_any (s : ByteArray) (hs : s.size ≤ 140737488355328) (w : World) :
    Calls Tryz.prog 44 #[.string s] w fun e w' => e = .returned (wV (wF s.data.toList)) ∧ w = w' := by
  have hsz : s.data.toList.length = s.size := rfl
  have hN : ∀ W, Calls Tryz.prog 68 #[] W fun e w' => e = .returned (.float .f64 9221120237041090561) ∧ W = w' := by
    intro W
    have b2 := f64from
    go_enter Tryz.func68, Tryz.ntmps68
    go_wp2
    go_ret
    exact ⟨rfl, rfl⟩
  have HN := Lib.hid hN
  clear hN
  rw [wF_eq]
  cases t1 : (s.toList == [110, 97, 110]) with
  | true =>
    have e1 : s.data.toList = [110, 97, 110] := by rw [← tl_data]; exact eq_of_beq t1
    rw [if_pos e1]
    clear e1
    go_enter Tryz.func44, Tryz.ntmps44
    go_wp2_with (go_at_call 68; refine (HN.out _).mono ?_; rintro e w' ⟨rfl, rfl⟩)
    go_ret2
    exact ⟨rfl, rfl⟩
  | false =>
  have e1 : s.data.toList ≠ [110, 97, 110] := fun e => by rw [← tl_data] at e; rw [e] at t1; cases t1
  rw [if_neg e1]
  clear e1
  by_cases hm : bAt s.data.toList 0 = 45
  · rw [if_pos hm]
    have h0 : 0 < s.size := by
      rcases Nat.eq_zero_or_pos s.size with h | h
      · rw [bAt_ge (by omega)] at hm; exact absurd hm (by decide)
      · exact h
    have hbx : (s[0]'h0) = 45 := by rw [← hm]; exact (bAt_get h0).symm
    have q1 : (((s[0]'h0).toNat : Int) == 45) = true := by rw [hbx]; rfl
    have q0 : decide ((0 : Int) < (s.size : Int)) = true := decide_eq_true (by omega)
    obtain ⟨t, ht⟩ : ∃ t, t = s.extract 1 s.size := ⟨_, rfl⟩
    have htl : t.data.toList = s.data.toList.drop 1 := by rw [ht, ex_list, List.take_of_length_le (by omega)]
    have hts : t.size ≤ 140737488355328 := by rw [ht, ByteArray.size_extract]; omega
    have htz : t.data.toList.length = t.size := rfl
    rw [← htl]
    have ht' : s.extract 1 s.size = t := ht.symm
    have HT := Lib.hid ht'
    clear hm hbx htl ht
    cases t2 : (t.toList == [105, 110, 102]) with
    | true =>
      have e1 : t.data.toList = [105, 110, 102] := by rw [← tl_data]; exact eq_of_beq t2
      have hG : wG 9223372036854775808 t.data.toList = some 18442240474082181120 := by unfold wG; rw [if_pos e1]
      rw [hG]
      have hmul : ∀ ty w, (binOp .mul ty (.float .f64 13830554455654793216) (.float .f64 9218868437227405312)).run Tryz.prog w = .ok (.float .f64 18442240474082181120) w := fun ty w => run_float_arith (h := inf_minus) ..
      clear e1 hG ht'
      have ht' := HT.out
      go_enter Tryz.func44, Tryz.ntmps44
      go_wp2_with (go_at_call 69; refine (inf_exact 1 _).mono ?_; rintro e w' ⟨rfl, rfl⟩)
      go_ret2
      exact ⟨rfl, rfl⟩
    | false =>
    have hninf : t.data.toList ≠ [105, 110, 102] := fun e => by rw [← tl_data] at e; rw [e] at t2; cases t2
    obtain ⟨GV, hG⟩ : ∃ GV, wG 9223372036854775808 t.data.toList = GV := ⟨_, rfl⟩
    have HNI := Lib.hid hninf
    rw [hG]
    have HGG := Lib.hid hG
    clear hninf hG
    go_enter Tryz.func44, Tryz.ntmps44
    go_wp2
    have hninf := HNI.out
    have hG : GV = wG 9223372036854775808 t.data.toList := HGG.out.symm
    clear HNI HGG
    go_loop [5] (fun a => ∃ k : Nat, k ≤ t.size ∧ a = .int .i64 k ∧ ixG t.data.toList k = Lib.indexByte t.data.toList 112) (fun a => t.size - (intOf a).toNat)
    case atStart => exact ⟨0, Nat.zero_le _, rfl, ixG_zero _⟩
    case round =>
      obtain ⟨k, hk, rfl, hx⟩ := hrel
      rcases Nat.lt_or_ge k t.size with hlt | hge
      · have hd : t.data.toList.drop k = t[k]'hlt :: t.data.toList.drop (k + 1) := List.drop_eq_getElem_cons (by rw [htz]; exact hlt)
        have hcl := (t[k]'hlt).toNat_lt
        by_cases hp : (t[k]'hlt).toNat = 112
        · have hp2 : t[k]'hlt = 112 := UInt8.toNat_inj.1 hp
          rw [hp2] at hd
          rw [ixG_hit hd] at hx
          have d1 : (((t[k]'hlt).toNat : Int) == 112) = true := beq_iff_eq.2 (by omega)
          have d2 : (((t[k]'hlt).toNat : Int) != 112) = false := by rw [bne, d1]; rfl
          have d3 : ((k : Int) == (t.size : Int)) = false := beq_eq_false_iff_ne.2 (by omega)
          have hu : (t.extract (k + 1) t.size).data.toList = t.data.toList.drop (k + 1) := by rw [ex_list, List.take_of_length_le (by omega)]
          have hD : (t.extract 0 k).data.toList = t.data.toList.take k := by rw [ex_list, List.drop_zero]
          have hA := fun W => number_any (t.extract 0 k) (by rw [ByteArray.size_extract]; omega) W
          rw [hD] at hA
          have hg1 : wG 9223372036854775808 t.data.toList = wM 9223372036854775808 (decide (bAt (t.data.toList.drop (k + 1)) 0 = 45)) (numQ (t.data.toList.take k)) (numQ (if bAt (t.data.toList.drop (k + 1)) 0 = 45 then (t.data.toList.drop (k + 1)).drop 1 else t.data.toList.drop (k + 1))) := by
            unfold wG
            rw [if_neg hninf, ← hx, if_neg (by omega), Int.toNat_natCast]
          obtain ⟨A, hAA⟩ : ∃ A, A = numQ (t.data.toList.take k) := ⟨_, rfl⟩
          rw [← hAA] at hA hg1
          have HA := Lib.hid hA
          obtain ⟨u, hue⟩ : ∃ u, u = t.extract (k + 1) t.size := ⟨_, rfl⟩
          rw [← hue] at hu
          have husz : u.size ≤ 140737488355328 := by rw [hue, ByteArray.size_extract]; omega
          have huz : u.data.toList.length = u.size := rfl
          rw [← hu] at hg1
          have hG2 := hG.trans hg1
          have HAA : Hid (∀ m, A = some m → m < 18446744073709551616) := Lib.hid fun m hm => numQ_lt (by rw [← hAA]; exact hm)
          clear hA hAA hg1 hu hx hd hD hG hp hp2 d1
          have htail : (0 < u.size ∧ bAt u.data.toList 0 = 45 ∧ ((0 : Int) < (u.size : Int))) ∨ (¬ bAt u.data.toList 0 = 45) := by
            by_cases hb : bAt u.data.toList 0 = 45
            · refine .inl ⟨?_, hb, ?_⟩
              · rcases Nat.eq_zero_or_pos u.size with h | h
                · rw [bAt_ge (by omega)] at hb; exact absurd hb (by decide)
                · exact h
              · rcases Nat.eq_zero_or_pos u.size with h | h
                · rw [bAt_ge (by omega)] at hb; exact absurd hb (by decide)
                · omega
            · exact .inr hb
          rcases htail with ⟨hu0, hb, _⟩ | hb
          · rw [if_pos hb, decide_eq_true hb] at hG2
            have hbx : (u[0]'hu0) = 45 := by rw [← hb]; exact (bAt_get hu0).symm
            have q1 : (((u[0]'hu0).toNat : Int) == 45) = true := by rw [hbx]; rfl
            have q0 : decide ((0 : Int) < (u.size : Int)) = true := decide_eq_true (by omega)
            have hv : (u.extract 1 u.size).data.toList = u.data.toList.drop 1 := by rw [ex_list, List.take_of_length_le (by omega)]
            have hB := fun W => number_any (u.extract 1 u.size) (by rw [ByteArray.size_extract]; omega) W
            rw [hv] at hB
            obtain ⟨B, hBB⟩ : ∃ B, B = numQ (u.data.toList.drop 1) := ⟨_, rfl⟩
            rw [← hBB] at hB hG2
            have HG2 := Lib.hid hG2
            clear hG2
            have HB := Lib.hid hB
            have HBB : Hid (∀ m, B = some m → m < 18446744073709551616) := Lib.hid fun m hm => numQ_lt (by rw [← hBB]; exact hm)
            have HUE := Lib.hid hue
            clear hB hBB hb hbx hv hue
            have hue := HUE.out.symm
            cases A with
            | none =>
              cases B with
              | none =>
                go_wp2_with (go_at_call 45; first | (with_reducible refine (HA.out _).mono ?_; rintro e w' ⟨rfl, rfl⟩; simp only [numV]; (try simp only [Option.getD_some]); (try simp only [Option.getD_none]); (try simp only [Option.isSome_some]); (try simp only [Option.isSome_none])) | (with_reducible refine (HB.out _).mono ?_; rintro e w' ⟨rfl, rfl⟩; simp only [numV]; (try simp only [Option.getD_some]); (try simp only [Option.getD_none]); (try simp only [Option.isSome_some]); (try simp only [Option.isSome_none])))
                go_ret2
                exact ⟨by rw [HG2.out]; rfl, rfl⟩
              | some e =>
                go_wp2_with (go_at_call 45; first | (with_reducible refine (HA.out _).mono ?_; rintro e w' ⟨rfl, rfl⟩; simp only [numV]; (try simp only [Option.getD_some]); (try simp only [Option.getD_none]); (try simp only [Option.isSome_some]); (try simp only [Option.isSome_none])) | (with_reducible refine (HB.out _).mono ?_; rintro e w' ⟨rfl, rfl⟩; simp only [numV]; (try simp only [Option.getD_some]); (try simp only [Option.getD_none]); (try simp only [Option.isSome_some]); (try simp only [Option.isSome_none])))
                go_ret2
                exact ⟨by rw [HG2.out]; rfl, rfl⟩
            | some m =>
            have hm64 := HAA.out m rfl
            cases B with
            | none =>
              go_wp2_with (go_at_call 45; first | (with_reducible refine (HA.out _).mono ?_; rintro e w' ⟨rfl, rfl⟩; simp only [numV]; (try simp only [Option.getD_some]); (try simp only [Option.getD_none]); (try simp only [Option.isSome_some]); (try simp only [Option.isSome_none])) | (with_reducible refine (HB.out _).mono ?_; rintro e w' ⟨rfl, rfl⟩; simp only [numV]; (try simp only [Option.getD_some]); (try simp only [Option.getD_none]); (try simp only [Option.isSome_some]); (try simp only [Option.isSome_none])))
              go_ret2
              exact ⟨by rw [HG2.out]; rfl, rfl⟩
            | some e =>
            have he64 := HBB.out e rfl
            by_cases c1 : 9007199254740992 ≤ m
            · have HG3 : Hid (GV = none) := by have h := HG2.out; rw [wM_some] at h; rw [if_pos (.inl c1)] at h; exact h
              have d4 : decide ((9007199254740992 : Int) ≤ (m : Int)) = true := decide_eq_true (by omega)
              clear c1
              go_wp2_with (go_at_call 45; first | (with_reducible refine (HA.out _).mono ?_; rintro e w' ⟨rfl, rfl⟩; simp only [numV]; (try simp only [Option.getD_some]); (try simp only [Option.getD_none]); (try simp only [Option.isSome_some]); (try simp only [Option.isSome_none])) | (with_reducible refine (HB.out _).mono ?_; rintro e w' ⟨rfl, rfl⟩; simp only [numV]; (try simp only [Option.getD_some]); (try simp only [Option.getD_none]); (try simp only [Option.isSome_some]); (try simp only [Option.isSome_none])))
              go_ret2
              exact ⟨by rw [HG3.out]; rfl, rfl⟩
            have d4 : decide ((9007199254740992 : Int) ≤ (m : Int)) = false := decide_eq_false (by omega)
            by_cases c2 : 1074 < e
            · have HG3 : Hid (GV = none) := by have h := HG2.out; rw [wM_some] at h; rw [if_pos (.inr c2)] at h; exact h
              have d5 : decide ((1074 : Int) < (e : Int)) = true := decide_eq_true (by omega)
              clear c1 c2
              go_wp2_with (go_at_call 45; first | (with_reducible refine (HA.out _).mono ?_; rintro e w' ⟨rfl, rfl⟩; simp only [numV]; (try simp only [Option.getD_some]); (try simp only [Option.getD_none]); (try simp only [Option.isSome_some]); (try simp only [Option.isSome_none])) | (with_reducible refine (HB.out _).mono ?_; rintro e w' ⟨rfl, rfl⟩; simp only [numV]; (try simp only [Option.getD_some]); (try simp only [Option.getD_none]); (try simp only [Option.isSome_some]); (try simp only [Option.isSome_none])))
              go_ret2
              exact ⟨by rw [HG3.out]; rfl, rfl⟩
            have d5 : decide ((1074 : Int) < (e : Int)) = false := decide_eq_false (by omega)
            have HG3 : Hid (GV = some (9223372036854775808 + realBits m (-(e : Int)))) := by have h := HG2.out; rw [wM_some] at h; rw [if_neg (by omega), if_pos rfl] at h; exact h
            have h2 : m < 9007199254740992 := by omega
            have hx : e ≤ 1074 := by omega
            have HH : Hid (∀ j : Nat, j < e → ∀ t w, (binOp .quo t (.float .f64 (realBits m (-(j : Int)))) (.float .f64 4611686018427387904)).run Tryz.prog w = .ok (.float .f64 (realBits m (-((j + 1 : Nat) : Int)))) w) := by
              have : ∀ j : Nat, j < e → ∀ t w, (binOp .quo t (.float .f64 (realBits m (-(j : Int)))) (.float .f64 4611686018427387904)).run Tryz.prog w = .ok (.float .f64 (realBits m (-((j + 1 : Nat) : Int)))) w := by
                intro j hj t w
                rcases Nat.eq_zero_or_pos m with rfl | hm
                · rw [real_zeroN, real_zeroN]
                  exact run_float_arith (h := zero_half) ..
                have hk2 := log2_le hm h2
                have h := half m (-(j : Int)) hm h2 (by omega) (by omega)
                rw [show -(j : Int) - 1 = -((j + 1 : Nat) : Int) by omega] at h
                exact run_float_arith (h := h) ..
              exact this
            have HF : Hid (∀ t w, (binOp .mul t (.float .f64 13830554455654793216) (.float .f64 (realBits m (-(e : Int))))).run Tryz.prog w = .ok (.float .f64 (9223372036854775808 + realBits m (-(e : Int)))) w) := by
              have : ∀ t w, (binOp .mul t (.float .f64 13830554455654793216) (.float .f64 (realBits m (-(e : Int))))).run Tryz.prog w = .ok (.float .f64 (9223372036854775808 + realBits m (-(e : Int)))) w := by
                intro t w
                have h := mul_minus m (-(e : Int)) h2 (by omega)
                skip
                exact run_float_arith (h := h) ..
              exact this
            have hoi := of_int m
            obtain ⟨r0, hr0⟩ : ∃ r0, r0 = realBits m 0 := ⟨_, rfl⟩
            rw [← hr0] at hoi
            have HR0 := Lib.hid hr0
            clear hr0 h2 c1 c2
            go_upto_region 23 with (go_at_call 45; first | (with_reducible refine (HA.out _).mono ?_; rintro e w' ⟨rfl, rfl⟩; simp only [numV]; (try simp only [Option.getD_some]); (try simp only [Option.getD_none]); (try simp only [Option.isSome_some]); (try simp only [Option.isSome_none])) | (with_reducible refine (HB.out _).mono ?_; rintro e w' ⟨rfl, rfl⟩; simp only [numV]; (try simp only [Option.getD_some]); (try simp only [Option.getD_none]); (try simp only [Option.isSome_some]); (try simp only [Option.isSome_none])))
            go_wp2
            clear hoi
            go_loop [12, 13] (fun v i => ∃ j : Nat, j ≤ e ∧ i = .int .u64 j ∧ v = .float .f64 (realBits m (-(j : Int)))) (fun _ i => e - (intOf i).toNat)
            case atStart => exact ⟨0, Nat.zero_le _, rfl, by rw [HR0.out]; rfl⟩
            case round =>
              obtain ⟨j, hj, rfl, rfl⟩ := hrel
              rcases Nat.lt_or_ge j e with hlt2 | hge2
              · have hq := HH.out j hlt2
                obtain ⟨r1, hr1⟩ : ∃ r1, r1 = realBits m (-(j : Int)) := ⟨_, rfl⟩
                obtain ⟨r2, hr2⟩ : ∃ r2, r2 = realBits m (-((j + 1 : Nat) : Int)) := ⟨_, rfl⟩
                rw [← hr1, ← hr2] at hq
                rw [← hr1]
                have HR2 := Lib.hid hr2
                clear hr1 hr2
                go_wp2
                go_round
                case rel => exact ⟨j + 1, by omega, by go_num, by rw [HR2.out]⟩
                case measure => simp [intOf]; omega
              · obtain rfl : j = e := by omega
                have hq := HF.out
                obtain ⟨r1, hr1⟩ : ∃ r1, r1 = realBits m (-(j : Int)) := ⟨_, rfl⟩
                rw [← hr1] at hq ⊢
                have HR1 := Lib.hid hr1
                clear hr1
                go_wp2
                go_ret2
                exact ⟨by rw [HG3.out, ← HR1.out]; rfl, rfl⟩
          · rw [if_neg hb, decide_eq_false hb] at hG2
            have hB := fun W => number_any u husz W
            obtain ⟨B, hBB⟩ : ∃ B, B = numQ u.data.toList := ⟨_, rfl⟩
            rw [← hBB] at hB hG2
            have HG2 := Lib.hid hG2
            clear hG2
            have HB := Lib.hid hB
            have HBB : Hid (∀ m, B = some m → m < 18446744073709551616) := Lib.hid fun m hm => numQ_lt (by rw [← hBB]; exact hm)
            rcases Nat.eq_zero_or_pos u.size with hu0 | hu0
            · have q0 : decide ((0 : Int) < (u.size : Int)) = false := decide_eq_false (by omega)
              have HUE := Lib.hid hue
              clear hB hBB hb hue
              have hue := HUE.out.symm
              cases A with
              | none =>
                cases B with
                | none =>
                  go_wp2_with (go_at_call 45; first | (with_reducible refine (HA.out _).mono ?_; rintro e w' ⟨rfl, rfl⟩; simp only [numV]; (try simp only [Option.getD_some]); (try simp only [Option.getD_none]); (try simp only [Option.isSome_some]); (try simp only [Option.isSome_none])) | (with_reducible refine (HB.out _).mono ?_; rintro e w' ⟨rfl, rfl⟩; simp only [numV]; (try simp only [Option.getD_some]); (try simp only [Option.getD_none]); (try simp only [Option.isSome_some]); (try simp only [Option.isSome_none])))
                  go_ret2
                  exact ⟨by rw [HG2.out]; rfl, rfl⟩
                | some e =>
                  go_wp2_with (go_at_call 45; first | (with_reducible refine (HA.out _).mono ?_; rintro e w' ⟨rfl, rfl⟩; simp only [numV]; (try simp only [Option.getD_some]); (try simp only [Option.getD_none]); (try simp only [Option.isSome_some]); (try simp only [Option.isSome_none])) | (with_reducible refine (HB.out _).mono ?_; rintro e w' ⟨rfl, rfl⟩; simp only [numV]; (try simp only [Option.getD_some]); (try simp only [Option.getD_none]); (try simp only [Option.isSome_some]); (try simp only [Option.isSome_none])))
                  go_ret2
                  exact ⟨by rw [HG2.out]; rfl, rfl⟩
              | some m =>
              have hm64 := HAA.out m rfl
              cases B with
              | none =>
                go_wp2_with (go_at_call 45; first | (with_reducible refine (HA.out _).mono ?_; rintro e w' ⟨rfl, rfl⟩; simp only [numV]; (try simp only [Option.getD_some]); (try simp only [Option.getD_none]); (try simp only [Option.isSome_some]); (try simp only [Option.isSome_none])) | (with_reducible refine (HB.out _).mono ?_; rintro e w' ⟨rfl, rfl⟩; simp only [numV]; (try simp only [Option.getD_some]); (try simp only [Option.getD_none]); (try simp only [Option.isSome_some]); (try simp only [Option.isSome_none])))
                go_ret2
                exact ⟨by rw [HG2.out]; rfl, rfl⟩
              | some e =>
              have he64 := HBB.out e rfl
              by_cases c1 : 9007199254740992 ≤ m
              · have HG3 : Hid (GV = none) := by have h := HG2.out; rw [wM_some] at h; rw [if_pos (.inl c1)] at h; exact h
                have d4 : decide ((9007199254740992 : Int) ≤ (m : Int)) = true := decide_eq_true (by omega)
                clear c1
                go_wp2_with (go_at_call 45; first | (with_reducible refine (HA.out _).mono ?_; rintro e w' ⟨rfl, rfl⟩; simp only [numV]; (try simp only [Option.getD_some]); (try simp only [Option.getD_none]); (try simp only [Option.isSome_some]); (try simp only [Option.isSome_none])) | (with_reducible refine (HB.out _).mono ?_; rintro e w' ⟨rfl, rfl⟩; simp only [numV]; (try simp only [Option.getD_some]); (try simp only [Option.getD_none]); (try simp only [Option.isSome_some]); (try simp only [Option.isSome_none])))
                go_ret2
                exact ⟨by rw [HG3.out]; rfl, rfl⟩
              have d4 : decide ((9007199254740992 : Int) ≤ (m : Int)) = false := decide_eq_false (by omega)
              by_cases c2 : 1074 < e
              · have HG3 : Hid (GV = none) := by have h := HG2.out; rw [wM_some] at h; rw [if_pos (.inr c2)] at h; exact h
                have d5 : decide ((1074 : Int) < (e : Int)) = true := decide_eq_true (by omega)
                clear c1 c2
                go_wp2_with (go_at_call 45; first | (with_reducible refine (HA.out _).mono ?_; rintro e w' ⟨rfl, rfl⟩; simp only [numV]; (try simp only [Option.getD_some]); (try simp only [Option.getD_none]); (try simp only [Option.isSome_some]); (try simp only [Option.isSome_none])) | (with_reducible refine (HB.out _).mono ?_; rintro e w' ⟨rfl, rfl⟩; simp only [numV]; (try simp only [Option.getD_some]); (try simp only [Option.getD_none]); (try simp only [Option.isSome_some]); (try simp only [Option.isSome_none])))
                go_ret2
                exact ⟨by rw [HG3.out]; rfl, rfl⟩
              have d5 : decide ((1074 : Int) < (e : Int)) = false := decide_eq_false (by omega)
              have HG3 : Hid (GV = some (9223372036854775808 + realBits m (e : Int))) := by have h := HG2.out; rw [wM_some] at h; rw [if_neg (by omega), if_neg (by decide)] at h; exact h
              have h2 : m < 9007199254740992 := by omega
              have hx : e ≤ 1074 := by omega
              have HH : Hid (∀ j : Nat, j < e → ∀ t w, (binOp .mul t (.float .f64 (realBits m (j : Int))) (.float .f64 4611686018427387904)).run Tryz.prog w = .ok (.float .f64 (realBits m ((j + 1 : Nat) : Int))) w) := by
                have : ∀ j : Nat, j < e → ∀ t w, (binOp .mul t (.float .f64 (realBits m (j : Int))) (.float .f64 4611686018427387904)).run Tryz.prog w = .ok (.float .f64 (realBits m ((j + 1 : Nat) : Int))) w := by
                  intro j hj t w
                  rcases Nat.eq_zero_or_pos m with rfl | hm
                  · rw [real_zeroN, real_zeroN]
                    exact run_float_arith (h := zero_two) ..
                  have hk2 := log2_le hm h2
                  have h := twice m (j : Int) hm h2 (by omega)
                  rw [show (j : Int) + 1 = ((j + 1 : Nat) : Int) by omega] at h
                  exact run_float_arith (h := h) ..
                exact this
              have HF : Hid (∀ t w, (binOp .mul t (.float .f64 13830554455654793216) (.float .f64 (realBits m (e : Int)))).run Tryz.prog w = .ok (.float .f64 (9223372036854775808 + realBits m (e : Int))) w) := by
                have : ∀ t w, (binOp .mul t (.float .f64 13830554455654793216) (.float .f64 (realBits m (e : Int)))).run Tryz.prog w = .ok (.float .f64 (9223372036854775808 + realBits m (e : Int))) w := by
                  intro t w
                  have h := mul_minus m (e : Int) h2 (by omega)
                  skip
                  exact run_float_arith (h := h) ..
                exact this
              have hoi := of_int m
              obtain ⟨r0, hr0⟩ : ∃ r0, r0 = realBits m 0 := ⟨_, rfl⟩
              rw [← hr0] at hoi
              have HR0 := Lib.hid hr0
              clear hr0 h2 c1 c2
              go_upto_region 23 with (go_at_call 45; first | (with_reducible refine (HA.out _).mono ?_; rintro e w' ⟨rfl, rfl⟩; simp only [numV]; (try simp only [Option.getD_some]); (try simp only [Option.getD_none]); (try simp only [Option.isSome_some]); (try simp only [Option.isSome_none])) | (with_reducible refine (HB.out _).mono ?_; rintro e w' ⟨rfl, rfl⟩; simp only [numV]; (try simp only [Option.getD_some]); (try simp only [Option.getD_none]); (try simp only [Option.isSome_some]); (try simp only [Option.isSome_none])))
              go_wp2
              clear hoi
              go_loop [12, 13] (fun v i => ∃ j : Nat, j ≤ e ∧ i = .int .u64 j ∧ v = .float .f64 (realBits m (j : Int))) (fun _ i => e - (intOf i).toNat)
              case atStart => exact ⟨0, Nat.zero_le _, rfl, by rw [HR0.out]; rfl⟩
              case round =>
                obtain ⟨j, hj, rfl, rfl⟩ := hrel
                rcases Nat.lt_or_ge j e with hlt2 | hge2
                · have hq := HH.out j hlt2
                  obtain ⟨r1, hr1⟩ : ∃ r1, r1 = realBits m (j : Int) := ⟨_, rfl⟩
                  obtain ⟨r2, hr2⟩ : ∃ r2, r2 = realBits m ((j + 1 : Nat) : Int) := ⟨_, rfl⟩
                  rw [← hr1, ← hr2] at hq
                  rw [← hr1]
                  have HR2 := Lib.hid hr2
                  clear hr1 hr2
                  go_wp2
                  go_round
                  case rel => exact ⟨j + 1, by omega, by go_num, by rw [HR2.out]⟩
                  case measure => simp [intOf]; omega
                · obtain rfl : j = e := by omega
                  have hq := HF.out
                  obtain ⟨r1, hr1⟩ : ∃ r1, r1 = realBits m (j : Int) := ⟨_, rfl⟩
                  rw [← hr1] at hq ⊢
                  have HR1 := Lib.hid hr1
                  clear hr1
                  go_wp2
                  go_ret2
                  exact ⟨by rw [HG3.out, ← HR1.out]; rfl, rfl⟩
            · have hbx : (u[0]'hu0) ≠ 45 := fun h => hb (by rw [bAt_get hu0, h])
              have q1 : (((u[0]'hu0).toNat : Int) == 45) = false := beq_eq_false_iff_ne.2 (fun h => hbx (UInt8.toNat_inj.1 (by show (u[0]'hu0).toNat = 45; omega)))
              have q0 : decide ((0 : Int) < (u.size : Int)) = true := decide_eq_true (by omega)
              have HUE := Lib.hid hue
              clear hB hBB hb hbx hue
              have hue := HUE.out.symm
              cases A with
              | none =>
                cases B with
                | none =>
                  go_wp2_with (go_at_call 45; first | (with_reducible refine (HA.out _).mono ?_; rintro e w' ⟨rfl, rfl⟩; simp only [numV]; (try simp only [Option.getD_some]); (try simp only [Option.getD_none]); (try simp only [Option.isSome_some]); (try simp only [Option.isSome_none])) | (with_reducible refine (HB.out _).mono ?_; rintro e w' ⟨rfl, rfl⟩; simp only [numV]; (try simp only [Option.getD_some]); (try simp only [Option.getD_none]); (try simp only [Option.isSome_some]); (try simp only [Option.isSome_none])))
                  go_ret2
                  exact ⟨by rw [HG2.out]; rfl, rfl⟩
                | some e =>
                  go_wp2_with (go_at_call 45; first | (with_reducible refine (HA.out _).mono ?_; rintro e w' ⟨rfl, rfl⟩; simp only [numV]; (try simp only [Option.getD_some]); (try simp only [Option.getD_none]); (try simp only [Option.isSome_some]); (try simp only [Option.isSome_none])) | (with_reducible refine (HB.out _).mono ?_; rintro e w' ⟨rfl, rfl⟩; simp only [numV]; (try simp only [Option.getD_some]); (try simp only [Option.getD_none]); (try simp only [Option.isSome_some]); (try simp only [Option.isSome_none])))
                  go_ret2
                  exact ⟨by rw [HG2.out]; rfl, rfl⟩
              | some m =>
              have hm64 := HAA.out m rfl
              cases B with
              | none =>
                go_wp2_with (go_at_call 45; first | (with_reducible refine (HA.out _).mono ?_; rintro e w' ⟨rfl, rfl⟩; simp only [numV]; (try simp only [Option.getD_some]); (try simp only [Option.getD_none]); (try simp only [Option.isSome_some]); (try simp only [Option.isSome_none])) | (with_reducible refine (HB.out _).mono ?_; rintro e w' ⟨rfl, rfl⟩; simp only [numV]; (try simp only [Option.getD_some]); (try simp only [Option.getD_none]); (try simp only [Option.isSome_some]); (try simp only [Option.isSome_none])))
                go_ret2
                exact ⟨by rw [HG2.out]; rfl, rfl⟩
              | some e =>
              have he64 := HBB.out e rfl
              by_cases c1 : 9007199254740992 ≤ m
              · have HG3 : Hid (GV = none) := by have h := HG2.out; rw [wM_some] at h; rw [if_pos (.inl c1)] at h; exact h
                have d4 : decide ((9007199254740992 : Int) ≤ (m : Int)) = true := decide_eq_true (by omega)
                clear c1
                go_wp2_with (go_at_call 45; first | (with_reducible refine (HA.out _).mono ?_; rintro e w' ⟨rfl, rfl⟩; simp only [numV]; (try simp only [Option.getD_some]); (try simp only [Option.getD_none]); (try simp only [Option.isSome_some]); (try simp only [Option.isSome_none])) | (with_reducible refine (HB.out _).mono ?_; rintro e w' ⟨rfl, rfl⟩; simp only [numV]; (try simp only [Option.getD_some]); (try simp only [Option.getD_none]); (try simp only [Option.isSome_some]); (try simp only [Option.isSome_none])))
                go_ret2
                exact ⟨by rw [HG3.out]; rfl, rfl⟩
              have d4 : decide ((9007199254740992 : Int) ≤ (m : Int)) = false := decide_eq_false (by omega)
              by_cases c2 : 1074 < e
              · have HG3 : Hid (GV = none) := by have h := HG2.out; rw [wM_some] at h; rw [if_pos (.inr c2)] at h; exact h
                have d5 : decide ((1074 : Int) < (e : Int)) = true := decide_eq_true (by omega)
                clear c1 c2
                go_wp2_with (go_at_call 45; first | (with_reducible refine (HA.out _).mono ?_; rintro e w' ⟨rfl, rfl⟩; simp only [numV]; (try simp only [Option.getD_some]); (try simp only [Option.getD_none]); (try simp only [Option.isSome_some]); (try simp only [Option.isSome_none])) | (with_reducible refine (HB.out _).mono ?_; rintro e w' ⟨rfl, rfl⟩; simp only [numV]; (try simp only [Option.getD_some]); (try simp only [Option.getD_none]); (try simp only [Option.isSome_some]); (try simp only [Option.isSome_none])))
                go_ret2
                exact ⟨by rw [HG3.out]; rfl, rfl⟩
              have d5 : decide ((1074 : Int) < (e : Int)) = false := decide_eq_false (by omega)
              have HG3 : Hid (GV = some (9223372036854775808 + realBits m (e : Int))) := by have h := HG2.out; rw [wM_some] at h; rw [if_neg (by omega), if_neg (by decide)] at h; exact h
              have h2 : m < 9007199254740992 := by omega
              have hx : e ≤ 1074 := by omega
              have HH : Hid (∀ j : Nat, j < e → ∀ t w, (binOp .mul t (.float .f64 (realBits m (j : Int))) (.float .f64 4611686018427387904)).run Tryz.prog w = .ok (.float .f64 (realBits m ((j + 1 : Nat) : Int))) w) := by
                have : ∀ j : Nat, j < e → ∀ t w, (binOp .mul t (.float .f64 (realBits m (j : Int))) (.float .f64 4611686018427387904)).run Tryz.prog w = .ok (.float .f64 (realBits m ((j + 1 : Nat) : Int))) w := by
                  intro j hj t w
                  rcases Nat.eq_zero_or_pos m with rfl | hm
                  · rw [real_zeroN, real_zeroN]
                    exact run_float_arith (h := zero_two) ..
                  have hk2 := log2_le hm h2
                  have h := twice m (j : Int) hm h2 (by omega)
                  rw [show (j : Int) + 1 = ((j + 1 : Nat) : Int) by omega] at h
                  exact run_float_arith (h := h) ..
                exact this
              have HF : Hid (∀ t w, (binOp .mul t (.float .f64 13830554455654793216) (.float .f64 (realBits m (e : Int)))).run Tryz.prog w = .ok (.float .f64 (9223372036854775808 + realBits m (e : Int))) w) := by
                have : ∀ t w, (binOp .mul t (.float .f64 13830554455654793216) (.float .f64 (realBits m (e : Int)))).run Tryz.prog w = .ok (.float .f64 (9223372036854775808 + realBits m (e : Int))) w := by
                  intro t w
                  have h := mul_minus m (e : Int) h2 (by omega)
                  skip
                  exact run_float_arith (h := h) ..
                exact this
              have hoi := of_int m
              obtain ⟨r0, hr0⟩ : ∃ r0, r0 = realBits m 0 := ⟨_, rfl⟩
              rw [← hr0] at hoi
              have HR0 := Lib.hid hr0
              clear hr0 h2 c1 c2
              go_upto_region 23 with (go_at_call 45; first | (with_reducible refine (HA.out _).mono ?_; rintro e w' ⟨rfl, rfl⟩; simp only [numV]; (try simp only [Option.getD_some]); (try simp only [Option.getD_none]); (try simp only [Option.isSome_some]); (try simp only [Option.isSome_none])) | (with_reducible refine (HB.out _).mono ?_; rintro e w' ⟨rfl, rfl⟩; simp only [numV]; (try simp only [Option.getD_some]); (try simp only [Option.getD_none]); (try simp only [Option.isSome_some]); (try simp only [Option.isSome_none])))
              go_wp2
              clear hoi
              go_loop [12, 13] (fun v i => ∃ j : Nat, j ≤ e ∧ i = .int .u64 j ∧ v = .float .f64 (realBits m (j : Int))) (fun _ i => e - (intOf i).toNat)
              case atStart => exact ⟨0, Nat.zero_le _, rfl, by rw [HR0.out]; rfl⟩
              case round =>
                obtain ⟨j, hj, rfl, rfl⟩ := hrel
                rcases Nat.lt_or_ge j e with hlt2 | hge2
                · have hq := HH.out j hlt2
                  obtain ⟨r1, hr1⟩ : ∃ r1, r1 = realBits m (j : Int) := ⟨_, rfl⟩
                  obtain ⟨r2, hr2⟩ : ∃ r2, r2 = realBits m ((j + 1 : Nat) : Int) := ⟨_, rfl⟩
                  rw [← hr1, ← hr2] at hq
                  rw [← hr1]
                  have HR2 := Lib.hid hr2
                  clear hr1 hr2
                  go_wp2
                  go_round
                  case rel => exact ⟨j + 1, by omega, by go_num, by rw [HR2.out]⟩
                  case measure => simp [intOf]; omega
                · obtain rfl : j = e := by omega
                  have hq := HF.out
                  obtain ⟨r1, hr1⟩ : ∃ r1, r1 = realBits m (j : Int) := ⟨_, rfl⟩
                  rw [← hr1] at hq ⊢
                  have HR1 := Lib.hid hr1
                  clear hr1
                  go_wp2
                  go_ret2
                  exact ⟨by rw [HG3.out, ← HR1.out]; rfl, rfl⟩
        · have hp2 : t[k]'hlt ≠ 112 := fun h => hp (by rw [h]; rfl)
          rw [ixG_step hd hp2] at hx
          have HX := Lib.hid hx
          have d1 : (((t[k]'hlt).toNat : Int) == 112) = false := beq_eq_false_iff_ne.2 (by omega)
          have d2 : (((t[k]'hlt).toNat : Int) != 112) = true := by rw [bne, d1]; rfl
          clear hx hd hp hp2 d1
          go_wp2
          go_round
          case rel => exact ⟨k + 1, by omega, by go_num, HX.out⟩
          case measure => simp [intOf]; omega
      · obtain rfl : k = t.size := by omega
        rw [ixG_end _ _ (by omega)] at hx
        have hg1 : wG 9223372036854775808 t.data.toList = none := by
          unfold wG
          rw [if_neg hninf, ← hx, if_pos (by omega)]
        have HG3 : Hid (GV = none) := hG.trans hg1
        clear hx hG hg1
        go_wp2
        go_ret2
        exact ⟨by rw [HG3.out]; rfl, rfl⟩
  · rw [if_neg hm]
    have htz : s.data.toList.length = s.size := rfl
    rcases Nat.eq_zero_or_pos s.size with h0 | h0
    · have e0 : s.data.toList = [] := List.eq_nil_of_length_eq_zero (by omega)
      have e1 : wG 0 s.data.toList = none := by rw [e0]; rfl
      rw [e1]
      have t2 : (s.toList == [105, 110, 102]) = false := by rw [tl_data, e0]; rfl
      have q0 : decide ((0 : Int) < (s.size : Int)) = false := decide_eq_false (by omega)
      have q2 : ((0 : Int) == (s.size : Int)) = true := beq_iff_eq.2 (by omega)
      clear e0 e1 hm
      go_enter Tryz.func44, Tryz.ntmps44
      go_wp2
      go_loop [5] (fun a => a = .int .i64 0) (fun _ => 0)
      case atStart => rfl
      case round =>
        subst hrel
        go_wp2
        go_ret2
        exact ⟨rfl, rfl⟩
    have hbx : (s[0]'h0) ≠ 45 := fun h => hm (by rw [bAt_get h0, h])
    have q1 : (((s[0]'h0).toNat : Int) == 45) = false := beq_eq_false_iff_ne.2 (fun h => hbx (UInt8.toNat_inj.1 (by show (s[0]'h0).toNat = 45; omega)))
    have q0 : decide ((0 : Int) < (s.size : Int)) = true := decide_eq_true (by omega)
    clear hm hbx
    cases t2 : (s.toList == [105, 110, 102]) with
    | true =>
      have e1 : s.data.toList = [105, 110, 102] := by rw [← tl_data]; exact eq_of_beq t2
      have hG : wG 0 s.data.toList = some 9218868437227405312 := by unfold wG; rw [if_pos e1]
      rw [hG]
      have hmul : ∀ ty w, (binOp .mul ty (.float .f64 4607182418800017408) (.float .f64 9218868437227405312)).run Tryz.prog w = .ok (.float .f64 9218868437227405312) w := fun ty w => run_float_arith (h := inf_one) ..
      clear e1 hG
      go_enter Tryz.func44, Tryz.ntmps44
      go_wp2_with (go_at_call 69; refine (inf_exact 1 _).mono ?_; rintro e w' ⟨rfl, rfl⟩)
      go_ret2
      exact ⟨rfl, rfl⟩
    | false =>
    have hninf : s.data.toList ≠ [105, 110, 102] := fun e => by rw [← tl_data] at e; rw [e] at t2; cases t2
    obtain ⟨GV, hG⟩ : ∃ GV, wG 0 s.data.toList = GV := ⟨_, rfl⟩
    have HNI := Lib.hid hninf
    rw [hG]
    have HGG := Lib.hid hG
    clear hninf hG
    go_enter Tryz.func44, Tryz.ntmps44
    go_wp2
    have hninf := HNI.out
    have hG : GV = wG 0 s.data.toList := HGG.out.symm
    clear HNI HGG
    go_loop [5] (fun a => ∃ k : Nat, k ≤ s.size ∧ a = .int .i64 k ∧ ixG s.data.toList k = Lib.indexByte s.data.toList 112) (fun a => s.size - (intOf a).toNat)
    case atStart => exact ⟨0, Nat.zero_le _, rfl, ixG_zero _⟩
    case round =>
      obtain ⟨k, hk, rfl, hx⟩ := hrel
      rcases Nat.lt_or_ge k s.size with hlt | hge
      · have hd : s.data.toList.drop k = s[k]'hlt :: s.data.toList.drop (k + 1) := List.drop_eq_getElem_cons (by rw [htz]; exact hlt)
        have hcl := (s[k]'hlt).toNat_lt
        by_cases hp : (s[k]'hlt).toNat = 112
        · have hp2 : s[k]'hlt = 112 := UInt8.toNat_inj.1 hp
          rw [hp2] at hd
          rw [ixG_hit hd] at hx
          have d1 : (((s[k]'hlt).toNat : Int) == 112) = true := beq_iff_eq.2 (by omega)
          have d2 : (((s[k]'hlt).toNat : Int) != 112) = false := by rw [bne, d1]; rfl
          have d3 : ((k : Int) == (s.size : Int)) = false := beq_eq_false_iff_ne.2 (by omega)
          have hu : (s.extract (k + 1) s.size).data.toList = s.data.toList.drop (k + 1) := by rw [ex_list, List.take_of_length_le (by omega)]
          have hD : (s.extract 0 k).data.toList = s.data.toList.take k := by rw [ex_list, List.drop_zero]
          have hA := fun W => number_any (s.extract 0 k) (by rw [ByteArray.size_extract]; omega) W
          rw [hD] at hA
          have hg1 : wG 0 s.data.toList = wM 0 (decide (bAt (s.data.toList.drop (k + 1)) 0 = 45)) (numQ (s.data.toList.take k)) (numQ (if bAt (s.data.toList.drop (k + 1)) 0 = 45 then (s.data.toList.drop (k + 1)).drop 1 else s.data.toList.drop (k + 1))) := by
            unfold wG
            rw [if_neg hninf, ← hx, if_neg (by omega), Int.toNat_natCast]
          obtain ⟨A, hAA⟩ : ∃ A, A = numQ (s.data.toList.take k) := ⟨_, rfl⟩
          rw [← hAA] at hA hg1
          have HA := Lib.hid hA
          obtain ⟨u, hue⟩ : ∃ u, u = s.extract (k + 1) s.size := ⟨_, rfl⟩
          rw [← hue] at hu
          have husz : u.size ≤ 140737488355328 := by rw [hue, ByteArray.size_extract]; omega
          have huz : u.data.toList.length = u.size := rfl
          rw [← hu] at hg1
          have hG2 := hG.trans hg1
          have HAA : Hid (∀ m, A = some m → m < 18446744073709551616) := Lib.hid fun m hm => numQ_lt (by rw [← hAA]; exact hm)
          clear hA hAA hg1 hu hx hd hD hG hp hp2 d1
          have htail : (0 < u.size ∧ bAt u.data.toList 0 = 45 ∧ ((0 : Int) < (u.size : Int))) ∨ (¬ bAt u.data.toList 0 = 45) := by
            by_cases hb : bAt u.data.toList 0 = 45
            · refine .inl ⟨?_, hb, ?_⟩
              · rcases Nat.eq_zero_or_pos u.size with h | h
                · rw [bAt_ge (by omega)] at hb; exact absurd hb (by decide)
                · exact h
              · rcases Nat.eq_zero_or_pos u.size with h | h
                · rw [bAt_ge (by omega)] at hb; exact absurd hb (by decide)
                · omega
            · exact .inr hb
          rcases htail with ⟨hu0, hb, _⟩ | hb
          · rw [if_pos hb, decide_eq_true hb] at hG2
            have hbx : (u[0]'hu0) = 45 := by rw [← hb]; exact (bAt_get hu0).symm
            have q1 : (((u[0]'hu0).toNat : Int) == 45) = true := by rw [hbx]; rfl
            have q0 : decide ((0 : Int) < (u.size : Int)) = true := decide_eq_true (by omega)
            have hv : (u.extract 1 u.size).data.toList = u.data.toList.drop 1 := by rw [ex_list, List.take_of_length_le (by omega)]
            have hB := fun W => number_any (u.extract 1 u.size) (by rw [ByteArray.size_extract]; omega) W
            rw [hv] at hB
            obtain ⟨B, hBB⟩ : ∃ B, B = numQ (u.data.toList.drop 1) := ⟨_, rfl⟩
            rw [← hBB] at hB hG2
            have HG2 := Lib.hid hG2
            clear hG2
            have HB := Lib.hid hB
            have HBB : Hid (∀ m, B = some m → m < 18446744073709551616) := Lib.hid fun m hm => numQ_lt (by rw [← hBB]; exact hm)
            have HUE := Lib.hid hue
            clear hB hBB hb hbx hv hue
            have hue := HUE.out.symm
            cases A with
            | none =>
              cases B with
              | none =>
                go_wp2_with (go_at_call 45; first | (with_reducible refine (HA.out _).mono ?_; rintro e w' ⟨rfl, rfl⟩; simp only [numV]; (try simp only [Option.getD_some]); (try simp only [Option.getD_none]); (try simp only [Option.isSome_some]); (try simp only [Option.isSome_none])) | (with_reducible refine (HB.out _).mono ?_; rintro e w' ⟨rfl, rfl⟩; simp only [numV]; (try simp only [Option.getD_some]); (try simp only [Option.getD_none]); (try simp only [Option.isSome_some]); (try simp only [Option.isSome_none])))
                go_ret2
                exact ⟨by rw [HG2.out]; rfl, rfl⟩
              | some e =>
                go_wp2_with (go_at_call 45; first | (with_reducible refine (HA.out _).mono ?_; rintro e w' ⟨rfl, rfl⟩; simp only [numV]; (try simp only [Option.getD_some]); (try simp only [Option.getD_none]); (try simp only [Option.isSome_some]); (try simp only [Option.isSome_none])) | (with_reducible refine (HB.out _).mono ?_; rintro e w' ⟨rfl, rfl⟩; simp only [numV]; (try simp only [Option.getD_some]); (try simp only [Option.getD_none]); (try simp only [Option.isSome_some]); (try simp only [Option.isSome_none])))
                go_ret2
                exact ⟨by rw [HG2.out]; rfl, rfl⟩
            | some m =>
            have hm64 := HAA.out m rfl
            cases B with
            | none =>
              go_wp2_with (go_at_call 45; first | (with_reducible refine (HA.out _).mono ?_; rintro e w' ⟨rfl, rfl⟩; simp only [numV]; (try simp only [Option.getD_some]); (try simp only [Option.getD_none]); (try simp only [Option.isSome_some]); (try simp only [Option.isSome_none])) | (with_reducible refine (HB.out _).mono ?_; rintro e w' ⟨rfl, rfl⟩; simp only [numV]; (try simp only [Option.getD_some]); (try simp only [Option.getD_none]); (try simp only [Option.isSome_some]); (try simp only [Option.isSome_none])))
              go_ret2
              exact ⟨by rw [HG2.out]; rfl, rfl⟩
            | some e =>
            have he64 := HBB.out e rfl
            by_cases c1 : 9007199254740992 ≤ m
            · have HG3 : Hid (GV = none) := by have h := HG2.out; rw [wM_some] at h; rw [if_pos (.inl c1)] at h; exact h
              have d4 : decide ((9007199254740992 : Int) ≤ (m : Int)) = true := decide_eq_true (by omega)
              clear c1
              go_wp2_with (go_at_call 45; first | (with_reducible refine (HA.out _).mono ?_; rintro e w' ⟨rfl, rfl⟩; simp only [numV]; (try simp only [Option.getD_some]); (try simp only [Option.getD_none]); (try simp only [Option.isSome_some]); (try simp only [Option.isSome_none])) | (with_reducible refine (HB.out _).mono ?_; rintro e w' ⟨rfl, rfl⟩; simp only [numV]; (try simp only [Option.getD_some]); (try simp only [Option.getD_none]); (try simp only [Option.isSome_some]); (try simp only [Option.isSome_none])))
              go_ret2
              exact ⟨by rw [HG3.out]; rfl, rfl⟩
            have d4 : decide ((9007199254740992 : Int) ≤ (m : Int)) = false := decide_eq_false (by omega)
            by_cases c2 : 1074 < e
            · have HG3 : Hid (GV = none) := by have h := HG2.out; rw [wM_some] at h; rw [if_pos (.inr c2)] at h; exact h
              have d5 : decide ((1074 : Int) < (e : Int)) = true := decide_eq_true (by omega)
              clear c1 c2
              go_wp2_with (go_at_call 45; first | (with_reducible refine (HA.out _).mono ?_; rintro e w' ⟨rfl, rfl⟩; simp only [numV]; (try simp only [Option.getD_some]); (try simp only [Option.getD_none]); (try simp only [Option.isSome_some]); (try simp only [Option.isSome_none])) | (with_reducible refine (HB.out _).mono ?_; rintro e w' ⟨rfl, rfl⟩; simp only [numV]; (try simp only [Option.getD_some]); (try simp only [Option.getD_none]); (try simp only [Option.isSome_some]); (try simp only [Option.isSome_none])))
              go_ret2
              exact ⟨by rw [HG3.out]; rfl, rfl⟩
            have d5 : decide ((1074 : Int) < (e : Int)) = false := decide_eq_false (by omega)
            have HG3 : Hid (GV = some (0 + realBits m (-(e : Int)))) := by have h := HG2.out; rw [wM_some] at h; rw [if_neg (by omega), if_pos rfl] at h; exact h
            have h2 : m < 9007199254740992 := by omega
            have hx : e ≤ 1074 := by omega
            have HH : Hid (∀ j : Nat, j < e → ∀ t w, (binOp .quo t (.float .f64 (realBits m (-(j : Int)))) (.float .f64 4611686018427387904)).run Tryz.prog w = .ok (.float .f64 (realBits m (-((j + 1 : Nat) : Int)))) w) := by
              have : ∀ j : Nat, j < e → ∀ t w, (binOp .quo t (.float .f64 (realBits m (-(j : Int)))) (.float .f64 4611686018427387904)).run Tryz.prog w = .ok (.float .f64 (realBits m (-((j + 1 : Nat) : Int)))) w := by
                intro j hj t w
                rcases Nat.eq_zero_or_pos m with rfl | hm
                · rw [real_zeroN, real_zeroN]
                  exact run_float_arith (h := zero_half) ..
                have hk2 := log2_le hm h2
                have h := half m (-(j : Int)) hm h2 (by omega) (by omega)
                rw [show -(j : Int) - 1 = -((j + 1 : Nat) : Int) by omega] at h
                exact run_float_arith (h := h) ..
              exact this
            have HF : Hid (∀ t w, (binOp .mul t (.float .f64 4607182418800017408) (.float .f64 (realBits m (-(e : Int))))).run Tryz.prog w = .ok (.float .f64 (0 + realBits m (-(e : Int)))) w) := by
              have : ∀ t w, (binOp .mul t (.float .f64 4607182418800017408) (.float .f64 (realBits m (-(e : Int))))).run Tryz.prog w = .ok (.float .f64 (0 + realBits m (-(e : Int)))) w := by
                intro t w
                have h := mul_one m (-(e : Int)) h2 (by omega)
                rw [Nat.zero_add]
                exact run_float_arith (h := h) ..
              exact this
            have hoi := of_int m
            obtain ⟨r0, hr0⟩ : ∃ r0, r0 = realBits m 0 := ⟨_, rfl⟩
            rw [← hr0] at hoi
            have HR0 := Lib.hid hr0
            clear hr0 h2 c1 c2
            go_upto_region 23 with (go_at_call 45; first | (with_reducible refine (HA.out _).mono ?_; rintro e w' ⟨rfl, rfl⟩; simp only [numV]; (try simp only [Option.getD_some]); (try simp only [Option.getD_none]); (try simp only [Option.isSome_some]); (try simp only [Option.isSome_none])) | (with_reducible refine (HB.out _).mono ?_; rintro e w' ⟨rfl, rfl⟩; simp only [numV]; (try simp only [Option.getD_some]); (try simp only [Option.getD_none]); (try simp only [Option.isSome_some]); (try simp only [Option.isSome_none])))
            go_wp2
            clear hoi
            go_loop [12, 13] (fun v i => ∃ j : Nat, j ≤ e ∧ i = .int .u64 j ∧ v = .float .f64 (realBits m (-(j : Int)))) (fun _ i => e - (intOf i).toNat)
            case atStart => exact ⟨0, Nat.zero_le _, rfl, by rw [HR0.out]; rfl⟩
            case round =>
              obtain ⟨j, hj, rfl, rfl⟩ := hrel
              rcases Nat.lt_or_ge j e with hlt2 | hge2
              · have hq := HH.out j hlt2
                obtain ⟨r1, hr1⟩ : ∃ r1, r1 = realBits m (-(j : Int)) := ⟨_, rfl⟩
                obtain ⟨r2, hr2⟩ : ∃ r2, r2 = realBits m (-((j + 1 : Nat) : Int)) := ⟨_, rfl⟩
                rw [← hr1, ← hr2] at hq
                rw [← hr1]
                have HR2 := Lib.hid hr2
                clear hr1 hr2
                go_wp2
                go_round
                case rel => exact ⟨j + 1, by omega, by go_num, by rw [HR2.out]⟩
                case measure => simp [intOf]; omega
              · obtain rfl : j = e := by omega
                have hq := HF.out
                obtain ⟨r1, hr1⟩ : ∃ r1, r1 = realBits m (-(j : Int)) := ⟨_, rfl⟩
                rw [← hr1] at hq ⊢
                have HR1 := Lib.hid hr1
                clear hr1
                go_wp2
                go_ret2
                exact ⟨by rw [HG3.out, ← HR1.out, Nat.zero_add]; rfl, rfl⟩
          · rw [if_neg hb, decide_eq_false hb] at hG2
            have hB := fun W => number_any u husz W
            obtain ⟨B, hBB⟩ : ∃ B, B = numQ u.data.toList := ⟨_, rfl⟩
            rw [← hBB] at hB hG2
            have HG2 := Lib.hid hG2
            clear hG2
            have HB := Lib.hid hB
            have HBB : Hid (∀ m, B = some m → m < 18446744073709551616) := Lib.hid fun m hm => numQ_lt (by rw [← hBB]; exact hm)
            rcases Nat.eq_zero_or_pos u.size with hu0 | hu0
            · have q0 : decide ((0 : Int) < (u.size : Int)) = false := decide_eq_false (by omega)
              have HUE := Lib.hid hue
              clear hB hBB hb hue
              have hue := HUE.out.symm
              cases A with
              | none =>
                cases B with
                | none =>
                  go_wp2_with (go_at_call 45; first | (with_reducible refine (HA.out _).mono ?_; rintro e w' ⟨rfl, rfl⟩; simp only [numV]; (try simp only [Option.getD_some]); (try simp only [Option.getD_none]); (try simp only [Option.isSome_some]); (try simp only [Option.isSome_none])) | (with_reducible refine (HB.out _).mono ?_; rintro e w' ⟨rfl, rfl⟩; simp only [numV]; (try simp only [Option.getD_some]); (try simp only [Option.getD_none]); (try simp only [Option.isSome_some]); (try simp only [Option.isSome_none])))
                  go_ret2
                  exact ⟨by rw [HG2.out]; rfl, rfl⟩
                | some e =>
                  go_wp2_with (go_at_call 45; first | (with_reducible refine (HA.out _).mono ?_; rintro e w' ⟨rfl, rfl⟩; simp only [numV]; (try simp only [Option.getD_some]); (try simp only [Option.getD_none]); (try simp only [Option.isSome_some]); (try simp only [Option.isSome_none])) | (with_reducible refine (HB.out _).mono ?_; rintro e w' ⟨rfl, rfl⟩; simp only [numV]; (try simp only [Option.getD_some]); (try simp only [Option.getD_none]); (try simp only [Option.isSome_some]); (try simp only [Option.isSome_none])))
                  go_ret2
                  exact ⟨by rw [HG2.out]; rfl, rfl⟩
              | some m =>
              have hm64 := HAA.out m rfl
              cases B with
              | none =>
                go_wp2_with (go_at_call 45; first | (with_reducible refine (HA.out _).mono ?_; rintro e w' ⟨rfl, rfl⟩; simp only [numV]; (try simp only [Option.getD_some]); (try simp only [Option.getD_none]); (try simp only [Option.isSome_some]); (try simp only [Option.isSome_none])) | (with_reducible refine (HB.out _).mono ?_; rintro e w' ⟨rfl, rfl⟩; simp only [numV]; (try simp only [Option.getD_some]); (try simp only [Option.getD_none]); (try simp only [Option.isSome_some]); (try simp only [Option.isSome_none])))
                go_ret2
                exact ⟨by rw [HG2.out]; rfl, rfl⟩
              | some e =>
              have he64 := HBB.out e rfl
              by_cases c1 : 9007199254740992 ≤ m
              · have HG3 : Hid (GV = none) := by have h := HG2.out; rw [wM_some] at h; rw [if_pos (.inl c1)] at h; exact h
                have d4 : decide ((9007199254740992 : Int) ≤ (m : Int)) = true := decide_eq_true (by omega)
                clear c1
                go_wp2_with (go_at_call 45; first | (with_reducible refine (HA.out _).mono ?_; rintro e w' ⟨rfl, rfl⟩; simp only [numV]; (try simp only [Option.getD_some]); (try simp only [Option.getD_none]); (try simp only [Option.isSome_some]); (try simp only [Option.isSome_none])) | (with_reducible refine (HB.out _).mono ?_; rintro e w' ⟨rfl, rfl⟩; simp only [numV]; (try simp only [Option.getD_some]); (try simp only [Option.getD_none]); (try simp only [Option.isSome_some]); (try simp only [Option.isSome_none])))
                go_ret2
                exact ⟨by rw [HG3.out]; rfl, rfl⟩
              have d4 : decide ((9007199254740992 : Int) ≤ (m : Int)) = false := decide_eq_false (by omega)
              by_cases c2 : 1074 < e
              · have HG3 : Hid (GV = none) := by have h := HG2.out; rw [wM_some] at h; rw [if_pos (.inr c2)] at h; exact h
                have d5 : decide ((1074 : Int) < (e : Int)) = true := decide_eq_true (by omega)
                clear c1 c2
                go_wp2_with (go_at_call 45; first | (with_reducible refine (HA.out _).mono ?_; rintro e w' ⟨rfl, rfl⟩; simp only [numV]; (try simp only [Option.getD_some]); (try simp only [Option.getD_none]); (try simp only [Option.isSome_some]); (try simp only [Option.isSome_none])) | (with_reducible refine (HB.out _).mono ?_; rintro e w' ⟨rfl, rfl⟩; simp only [numV]; (try simp only [Option.getD_some]); (try simp only [Option.getD_none]); (try simp only [Option.isSome_some]); (try simp only [Option.isSome_none])))
                go_ret2
                exact ⟨by rw [HG3.out]; rfl, rfl⟩
              have d5 : decide ((1074 : Int) < (e : Int)) = false := decide_eq_false (by omega)
              have HG3 : Hid (GV = some (0 + realBits m (e : Int))) := by have h := HG2.out; rw [wM_some] at h; rw [if_neg (by omega), if_neg (by decide)] at h; exact h
              have h2 : m < 9007199254740992 := by omega
              have hx : e ≤ 1074 := by omega
              have HH : Hid (∀ j : Nat, j < e → ∀ t w, (binOp .mul t (.float .f64 (realBits m (j : Int))) (.float .f64 4611686018427387904)).run Tryz.prog w = .ok (.float .f64 (realBits m ((j + 1 : Nat) : Int))) w) := by
                have : ∀ j : Nat, j < e → ∀ t w, (binOp .mul t (.float .f64 (realBits m (j : Int))) (.float .f64 4611686018427387904)).run Tryz.prog w = .ok (.float .f64 (realBits m ((j + 1 : Nat) : Int))) w := by
                  intro j hj t w
                  rcases Nat.eq_zero_or_pos m with rfl | hm
                  · rw [real_zeroN, real_zeroN]
                    exact run_float_arith (h := zero_two) ..
                  have hk2 := log2_le hm h2
                  have h := twice m (j : Int) hm h2 (by omega)
                  rw [show (j : Int) + 1 = ((j + 1 : Nat) : Int) by omega] at h
                  exact run_float_arith (h := h) ..
                exact this
              have HF : Hid (∀ t w, (binOp .mul t (.float .f64 4607182418800017408) (.float .f64 (realBits m (e : Int)))).run Tryz.prog w = .ok (.float .f64 (0 + realBits m (e : Int))) w) := by
                have : ∀ t w, (binOp .mul t (.float .f64 4607182418800017408) (.float .f64 (realBits m (e : Int)))).run Tryz.prog w = .ok (.float .f64 (0 + realBits m (e : Int))) w := by
                  intro t w
                  have h := mul_one m (e : Int) h2 (by omega)
                  rw [Nat.zero_add]
                  exact run_float_arith (h := h) ..
                exact this
              have hoi := of_int m
              obtain ⟨r0, hr0⟩ : ∃ r0, r0 = realBits m 0 := ⟨_, rfl⟩
              rw [← hr0] at hoi
              have HR0 := Lib.hid hr0
              clear hr0 h2 c1 c2
              go_upto_region 23 with (go_at_call 45; first | (with_reducible refine (HA.out _).mono ?_; rintro e w' ⟨rfl, rfl⟩; simp only [numV]; (try simp only [Option.getD_some]); (try simp only [Option.getD_none]); (try simp only [Option.isSome_some]); (try simp only [Option.isSome_none])) | (with_reducible refine (HB.out _).mono ?_; rintro e w' ⟨rfl, rfl⟩; simp only [numV]; (try simp only [Option.getD_some]); (try simp only [Option.getD_none]); (try simp only [Option.isSome_some]); (try simp only [Option.isSome_none])))
              go_wp2
              clear hoi
              go_loop [12, 13] (fun v i => ∃ j : Nat, j ≤ e ∧ i = .int .u64 j ∧ v = .float .f64 (realBits m (j : Int))) (fun _ i => e - (intOf i).toNat)
              case atStart => exact ⟨0, Nat.zero_le _, rfl, by rw [HR0.out]; rfl⟩
              case round =>
                obtain ⟨j, hj, rfl, rfl⟩ := hrel
                rcases Nat.lt_or_ge j e with hlt2 | hge2
                · have hq := HH.out j hlt2
                  obtain ⟨r1, hr1⟩ : ∃ r1, r1 = realBits m (j : Int) := ⟨_, rfl⟩
                  obtain ⟨r2, hr2⟩ : ∃ r2, r2 = realBits m ((j + 1 : Nat) : Int) := ⟨_, rfl⟩
                  rw [← hr1, ← hr2] at hq
                  rw [← hr1]
                  have HR2 := Lib.hid hr2
                  clear hr1 hr2
                  go_wp2
                  go_round
                  case rel => exact ⟨j + 1, by omega, by go_num, by rw [HR2.out]⟩
                  case measure => simp [intOf]; omega
                · obtain rfl : j = e := by omega
                  have hq := HF.out
                  obtain ⟨r1, hr1⟩ : ∃ r1, r1 = realBits m (j : Int) := ⟨_, rfl⟩
                  rw [← hr1] at hq ⊢
                  have HR1 := Lib.hid hr1
                  clear hr1
                  go_wp2
                  go_ret2
                  exact ⟨by rw [HG3.out, ← HR1.out, Nat.zero_add]; rfl, rfl⟩
            · have hbx : (u[0]'hu0) ≠ 45 := fun h => hb (by rw [bAt_get hu0, h])
              have q1 : (((u[0]'hu0).toNat : Int) == 45) = false := beq_eq_false_iff_ne.2 (fun h => hbx (UInt8.toNat_inj.1 (by show (u[0]'hu0).toNat = 45; omega)))
              have q0 : decide ((0 : Int) < (u.size : Int)) = true := decide_eq_true (by omega)
              have HUE := Lib.hid hue
              clear hB hBB hb hbx hue
              have hue := HUE.out.symm
              cases A with
              | none =>
                cases B with
                | none =>
                  go_wp2_with (go_at_call 45; first | (with_reducible refine (HA.out _).mono ?_; rintro e w' ⟨rfl, rfl⟩; simp only [numV]; (try simp only [Option.getD_some]); (try simp only [Option.getD_none]); (try simp only [Option.isSome_some]); (try simp only [Option.isSome_none])) | (with_reducible refine (HB.out _).mono ?_; rintro e w' ⟨rfl, rfl⟩; simp only [numV]; (try simp only [Option.getD_some]); (try simp only [Option.getD_none]); (try simp only [Option.isSome_some]); (try simp only [Option.isSome_none])))
                  go_ret2
                  exact ⟨by rw [HG2.out]; rfl, rfl⟩
                | some e =>
                  go_wp2_with (go_at_call 45; first | (with_reducible refine (HA.out _).mono ?_; rintro e w' ⟨rfl, rfl⟩; simp only [numV]; (try simp only [Option.getD_some]); (try simp only [Option.getD_none]); (try simp only [Option.isSome_some]); (try simp only [Option.isSome_none])) | (with_reducible refine (HB.out _).mono ?_; rintro e w' ⟨rfl, rfl⟩; simp only [numV]; (try simp only [Option.getD_some]); (try simp only [Option.getD_none]); (try simp only [Option.isSome_some]); (try simp only [Option.isSome_none])))
                  go_ret2
                  exact ⟨by rw [HG2.out]; rfl, rfl⟩
              | some m =>
              have hm64 := HAA.out m rfl
              cases B with
              | none =>
                go_wp2_with (go_at_call 45; first | (with_reducible refine (HA.out _).mono ?_; rintro e w' ⟨rfl, rfl⟩; simp only [numV]; (try simp only [Option.getD_some]); (try simp only [Option.getD_none]); (try simp only [Option.isSome_some]); (try simp only [Option.isSome_none])) | (with_reducible refine (HB.out _).mono ?_; rintro e w' ⟨rfl, rfl⟩; simp only [numV]; (try simp only [Option.getD_some]); (try simp only [Option.getD_none]); (try simp only [Option.isSome_some]); (try simp only [Option.isSome_none])))
                go_ret2
                exact ⟨by rw [HG2.out]; rfl, rfl⟩
              | some e =>
              have he64 := HBB.out e rfl
              by_cases c1 : 9007199254740992 ≤ m
              · have HG3 : Hid (GV = none) := by have h := HG2.out; rw [wM_some] at h; rw [if_pos (.inl c1)] at h; exact h
                have d4 : decide ((9007199254740992 : Int) ≤ (m : Int)) = true := decide_eq_true (by omega)
                clear c1
                go_wp2_with (go_at_call 45; first | (with_reducible refine (HA.out _).mono ?_; rintro e w' ⟨rfl, rfl⟩; simp only [numV]; (try simp only [Option.getD_some]); (try simp only [Option.getD_none]); (try simp only [Option.isSome_some]); (try simp only [Option.isSome_none])) | (with_reducible refine (HB.out _).mono ?_; rintro e w' ⟨rfl, rfl⟩; simp only [numV]; (try simp only [Option.getD_some]); (try simp only [Option.getD_none]); (try simp only [Option.isSome_some]); (try simp only [Option.isSome_none])))
                go_ret2
                exact ⟨by rw [HG3.out]; rfl, rfl⟩
              have d4 : decide ((9007199254740992 : Int) ≤ (m : Int)) = false := decide_eq_false (by omega)
              by_cases c2 : 1074 < e
              · have HG3 : Hid (GV = none) := by have h := HG2.out; rw [wM_some] at h; rw [if_pos (.inr c2)] at h; exact h
                have d5 : decide ((1074 : Int) < (e : Int)) = true := decide_eq_true (by omega)
                clear c1 c2
                go_wp2_with (go_at_call 45; first | (with_reducible refine (HA.out _).mono ?_; rintro e w' ⟨rfl, rfl⟩; simp only [numV]; (try simp only [Option.getD_some]); (try simp only [Option.getD_none]); (try simp only [Option.isSome_some]); (try simp only [Option.isSome_none])) | (with_reducible refine (HB.out _).mono ?_; rintro e w' ⟨rfl, rfl⟩; simp only [numV]; (try simp only [Option.getD_some]); (try simp only [Option.getD_none]); (try simp only [Option.isSome_some]); (try simp only [Option.isSome_none])))
                go_ret2
                exact ⟨by rw [HG3.out]; rfl, rfl⟩
              have d5 : decide ((1074 : Int) < (e : Int)) = false := decide_eq_false (by omega)
              have HG3 : Hid (GV = some (0 + realBits m (e : Int))) := by have h := HG2.out; rw [wM_some] at h; rw [if_neg (by omega), if_neg (by decide)] at h; exact h
              have h2 : m < 9007199254740992 := by omega
              have hx : e ≤ 1074 := by omega
              have HH : Hid (∀ j : Nat, j < e → ∀ t w, (binOp .mul t (.float .f64 (realBits m (j : Int))) (.float .f64 4611686018427387904)).run Tryz.prog w = .ok (.float .f64 (realBits m ((j + 1 : Nat) : Int))) w) := by
                have : ∀ j : Nat, j < e → ∀ t w, (binOp .mul t (.float .f64 (realBits m (j : Int))) (.float .f64 4611686018427387904)).run Tryz.prog w = .ok (.float .f64 (realBits m ((j + 1 : Nat) : Int))) w := by
                  intro j hj t w
                  rcases Nat.eq_zero_or_pos m with rfl | hm
                  · rw [real_zeroN, real_zeroN]
                    exact run_float_arith (h := zero_two) ..
                  have hk2 := log2_le hm h2
                  have h := twice m (j : Int) hm h2 (by omega)
                  rw [show (j : Int) + 1 = ((j + 1 : Nat) : Int) by omega] at h
                  exact run_float_arith (h := h) ..
                exact this
              have HF : Hid (∀ t w, (binOp .mul t (.float .f64 4607182418800017408) (.float .f64 (realBits m (e : Int)))).run Tryz.prog w = .ok (.float .f64 (0 + realBits m (e : Int))) w) := by
                have : ∀ t w, (binOp .mul t (.float .f64 4607182418800017408) (.float .f64 (realBits m (e : Int)))).run Tryz.prog w = .ok (.float .f64 (0 + realBits m (e : Int))) w := by
                  intro t w
                  have h := mul_one m (e : Int) h2 (by omega)
                  rw [Nat.zero_add]
                  exact run_float_arith (h := h) ..
                exact this
              have hoi := of_int m
              obtain ⟨r0, hr0⟩ : ∃ r0, r0 = realBits m 0 := ⟨_, rfl⟩
              rw [← hr0] at hoi
              have HR0 := Lib.hid hr0
              clear hr0 h2 c1 c2
              go_upto_region 23 with (go_at_call 45; first | (with_reducible refine (HA.out _).mono ?_; rintro e w' ⟨rfl, rfl⟩; simp only [numV]; (try simp only [Option.getD_some]); (try simp only [Option.getD_none]); (try simp only [Option.isSome_some]); (try simp only [Option.isSome_none])) | (with_reducible refine (HB.out _).mono ?_; rintro e w' ⟨rfl, rfl⟩; simp only [numV]; (try simp only [Option.getD_some]); (try simp only [Option.getD_none]); (try simp only [Option.isSome_some]); (try simp only [Option.isSome_none])))
              go_wp2
              clear hoi
              go_loop [12, 13] (fun v i => ∃ j : Nat, j ≤ e ∧ i = .int .u64 j ∧ v = .float .f64 (realBits m (j : Int))) (fun _ i => e - (intOf i).toNat)
              case atStart => exact ⟨0, Nat.zero_le _, rfl, by rw [HR0.out]; rfl⟩
              case round =>
                obtain ⟨j, hj, rfl, rfl⟩ := hrel
                rcases Nat.lt_or_ge j e with hlt2 | hge2
                · have hq := HH.out j hlt2
                  obtain ⟨r1, hr1⟩ : ∃ r1, r1 = realBits m (j : Int) := ⟨_, rfl⟩
                  obtain ⟨r2, hr2⟩ : ∃ r2, r2 = realBits m ((j + 1 : Nat) : Int) := ⟨_, rfl⟩
                  rw [← hr1, ← hr2] at hq
                  rw [← hr1]
                  have HR2 := Lib.hid hr2
                  clear hr1 hr2
                  go_wp2
                  go_round
                  case rel => exact ⟨j + 1, by omega, by go_num, by rw [HR2.out]⟩
                  case measure => simp [intOf]; omega
                · obtain rfl : j = e := by omega
                  have hq := HF.out
                  obtain ⟨r1, hr1⟩ : ∃ r1, r1 = realBits m (j : Int) := ⟨_, rfl⟩
                  rw [← hr1] at hq ⊢
                  have HR1 := Lib.hid hr1
                  clear hr1
                  go_wp2
                  go_ret2
                  exact ⟨by rw [HG3.out, ← HR1.out, Nat.zero_add]; rfl, rfl⟩
        · have hp2 : s[k]'hlt ≠ 112 := fun h => hp (by rw [h]; rfl)
          rw [ixG_step hd hp2] at hx
          have HX := Lib.hid hx
          have d1 : (((s[k]'hlt).toNat : Int) == 112) = false := beq_eq_false_iff_ne.2 (by omega)
          have d2 : (((s[k]'hlt).toNat : Int) != 112) = true := by rw [bne, d1]; rfl
          clear hx hd hp hp2 d1
          go_wp2
          go_round
          case rel => exact ⟨k + 1, by omega, by go_num, HX.out⟩
          case measure => simp [intOf]; omega
      · obtain rfl : k = s.size := by omega
        rw [ixG_end _ _ (by omega)] at hx
        have hg1 : wG 0 s.data.toList = none := by
          unfold wG
          rw [if_neg hninf, ← hx, if_pos (by omega)]
        have HG3 : Hid (GV = none) := hG.trans hg1
        clear hx hG hg1
        go_wp2
        go_ret2
        exact ⟨by rw [HG3.out]; rfl, rfl⟩
end Go.Proofs.YtofjbakepneilaaGreatDoor
