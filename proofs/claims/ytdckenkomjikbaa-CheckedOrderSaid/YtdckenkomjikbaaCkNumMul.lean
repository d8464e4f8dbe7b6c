/- The reference's numbers: products. -/
import Derived.Test.YtdckenkomjikbaaCkNumAdd
import Derived.Test.YtdckenkomjikbaaCkMulPlain
namespace Go.Proofs.Ytdckenkomjikbaa
open Go.RowKit
set_option maxRecDepth 100000

def sgn (b : Bool) (x : Int) : Int := if b then -x else x
theorem mul_zero_end {b1 b2 : Bool} {v x y : Int} (h : v = x * y) (h0 : v = 0) : (if false = true then -v else v) = sgn b1 x * sgn b2 y := by
  have : x * y = 0 := by omega
  cases b1 <;> cases b2 <;> simp [sgn, h0, Int.neg_mul, Int.mul_neg, this]
theorem mul_sign_end {b1 b2 : Bool} {v x y : Int} (h : v = x * y) : (if (b1 != b2) = true then -v else v) = sgn b1 x * sgn b2 y := by
  cases b1 <;> cases b2 <;> simp [sgn, h, Int.neg_mul, Int.mul_neg]
/-- what holds of the world in the midst of a product: the two numbers and the place for the answer stand -/
def MulW (w : World) (b1 b2 : Bool) (s1 s2 : Value) (a1 : Option Addr) (n1 c1 : Nat) (d1 : List Int) (yb yo : Nat) (d2 : List Int) (W : World) : Prop :=
  Below w.heap.size w W ∧ Box2 W w.heap.size (.bool b1) s1 ∧ Box2 W (w.heap.size + 1) (.bool b2) s2 ∧ Box2 W (w.heap.size + 1 + 1) (.bool false) (.slice none 0 0) ∧ Ints W a1 n1 c1 d1 ∧ (∀ i (h : i < d2.length), W.cell? ⟨yb, yo + i, none⟩ = some (.int .i64 d2[i]))

set_option maxHeartbeats 8000000 in
theorem nummul_some {w : World} {b1 b2 : Bool} {a1 : Option Addr} {yb yo n1 n2 c1 c2 : Nat} {d1 d2 : List Int} (h1 : Ints w a1 n1 c1 d1) (h2 : Ints w (some ⟨yb, yo, none⟩) n2 c2 d2) (h2c : ∀ i (h : i < d2.length), w.cell? ⟨yb, yo + i, none⟩ = some (.int .i64 d2[i])) (hn2 : 0 < n2) (e1 : Dig d1) (e2 : Dig d2) (g1 : n1 ≤ 400) (g2 : n2 ≤ 400) :
    Calls Try.prog 37 #[.agg #[.bool b1, .slice a1 n1 c1], .agg #[.bool b2, .slice (some ⟨yb, yo, none⟩) n2 c2]] w (NumP w (sgn b1 (val d1) * sgn b2 (val d2))) := by
  obtain ⟨i0, hi, hz0, hz1, hz2⟩ := info_parts info_int
  obtain ⟨W0, hW0⟩ : ∃ W0, W0 = addW w #[.bool b1, .slice a1 n1 c1] #[.bool b2, .slice (some ⟨yb, yo, none⟩) n2 c2] := ⟨_, rfl⟩
  have hB := addW_below w #[.bool b1, .slice a1 n1 c1] #[.bool b2, .slice (some ⟨yb, yo, none⟩) n2 c2]
  have x0 := addW_0 w (.bool b1) (.slice a1 n1 c1) (.bool b2) (.slice (some ⟨yb, yo, none⟩) n2 c2)
  have x1 := addW_1 w (.bool b1) (.slice a1 n1 c1) (.bool b2) (.slice (some ⟨yb, yo, none⟩) n2 c2)
  have x2 := addW_2 w (.bool b1) (.slice a1 n1 c1) (.bool b2) (.slice (some ⟨yb, yo, none⟩) n2 c2)
  have hz := addW_size w #[.bool b1, .slice a1 n1 c1] #[.bool b2, .slice (some ⟨yb, yo, none⟩) n2 c2]
  rw [← hW0] at hB x0 x1 x2 hz
  have hyl : yb < w.heap.size := by
    have := World.block_lt_of_cell? w _ (h2c 0 (by rw [h2.1]; omega)); simpa using this
  have HM : Hid (∀ W, Below W0.heap.size W0 W → MulW w b1 b2 (.slice a1 n1 c1) (.slice (some ⟨yb, yo, none⟩) n2 c2) a1 n1 c1 d1 yb yo d2 W) := Lib.hid fun W hW => by
    have hb : Below w.heap.size w W := hB.trans (hW.mono (by omega))
    exact ⟨hb, x0.keep hW (by omega), x1.keep hW (by omega), x2.keep hW (by omega), h1.below hb (Nat.le_refl _), fun i h => (hb.cell (p := ⟨yb, yo + i, none⟩) hyl).trans (h2c i h)⟩
  have HZ := Lib.hid hz
  have HW0 := Lib.hid hW0
  have HL1 := Lib.hid h1.1
  have HL2 := Lib.hid h2.1
  have hcc := h2.2.1
  have hcm := h2.2.2.1
  unfold maxLen at hcm
  clear hW0 hB hz x0 x1 x2 h1 h2 h2c hyl
  go_enter Try.func37, Try.ntmps37
  go_wp2_with fail
  have e := HW0.out
  unfold addW at e
  rw [← e]
  clear e
  go_loopw [5, 6] (fun v i wr => ∃ (k : Nat) (av : Option Addr) (ac : Nat) (da : List Int), i = .int .i64 k ∧ k ≤ n2 ∧ v = .slice av da.length ac ∧ Hid (RowsR d1 d2 k da) ∧ Hid (Ints wr av da.length ac da) ∧ Hid (Below W0.heap.size W0 wr))
    (fun _ i _ => n2 - (intOf i).toNat)
  case atStart => exact ⟨0, none, 0, [], rfl, Nat.zero_le _, rfl, Lib.hid (RowsR.start d1 d2), Lib.hid ⟨rfl, Nat.le_refl _, Nat.zero_le _, Dig.nil.allIn, .inl ⟨rfl, rfl, rfl⟩⟩, Lib.hid (Below.refl _ _)⟩
  case round =>
    obtain ⟨k, av, ac, da, rfl, hk, rfl, HR, HA, HBR⟩ := hrel
    obtain ⟨wo, rfl⟩ : ∃ wo : World, wo = wr := ⟨_, rfl⟩
    have M := Lib.hid (HM.out wo HBR.out)
    have q1 := M.out.2.2.1.c1
    by_cases hlt : k < n2
    · have hk2 : k < d2.length := by rw [HL2.out]; exact hlt
      go_wp2_with fail
      go_loopw [7, 8] (fun v j wr => ∃ (m : Nat), j = .int .i64 m ∧ m ≤ k ∧ Hid (wr.ownsRow wo.heap.size 3 1 v m ((List.replicate m (0 : Int)).map (Value.int .i64))) ∧ Hid (Below wo.heap.size wo wr)) (fun _ j _ => k - (intOf j).toNat)
      case atStart => exact ⟨0, rfl, Nat.zero_le _, Lib.hid (World.ownsRow_nil _ _ _ _), Lib.hid (Below.refl _ _)⟩
      case round =>
        obtain ⟨m, rfl, hm, HO, HB1⟩ := hrel
        have hsz := HB1.out.size
        by_cases hmk : m < k
        · go_wp2_with (at_builtin; refine wpList_append_own _ rfl (.tmp 24) (.tmp 25) 35 rfl wo.heap.size 3 i0 (.int .i64 0) 1 8 Try.underlying35 hi hz0 hz1 hz2 rfl (by decide) _ _ _ rfl (HO.out.alloc _) ⟨wr.heap.size, 0, none⟩ 1 1 [.int .i64 0] rfl rfl (cells_one _ _ _) (by intro u hu; simp at hu; subst hu; rfl) (by unfold maxLen; omega) (by omega) (by simp; omega) ?_; intro v' w1 hown1 hgrow1 _)
          have hb1 : Below wo.heap.size wo w1 := (HB1.out.alloc hsz _).grown hgrow1 (by simp; omega) (fun b hb => (HO.out.lt b hb).1)
          rw [map_snoc, noughts_snoc] at hown1
          have hown1 := Lib.hid hown1
          clear hgrow1
          go_roundw
          case rel => exact ⟨m + 1, by go_num, by omega, hown1, Lib.hid hb1⟩
          case measure => simp [intOf]; omega
        · obtain rfl : k = m := by omega
          go_wp2_with fail
          go_loopw [7, 9, 10] (fun v c kk wr => ∃ (j : Nat) (cc : Int) (ds : List Int), kk = .int .i64 j ∧ c = .int .i64 cc ∧ 0 ≤ cc ∧ cc ≤ 9 ∧ j ≤ n1 + 1 ∧ Hid (MulR d1 d2[k] k j cc ds) ∧ Hid (wr.ownsRow wo.heap.size 3 1 v ds.length (ds.map (Value.int .i64))) ∧ Hid (Below wo.heap.size wo wr)) (fun _ _ kk _ => n1 + 1 - (intOf kk).toNat)
          case atStart => exact ⟨0, 0, List.replicate k 0, rfl, rfl, by omega, by omega, by omega, Lib.hid (MulR.start d1 d2[k] k), by rw [List.length_replicate]; exact HO, HB1⟩
          case round =>
            clear HO HB1 hsz
            obtain ⟨j, cc, ds, rfl, rfl, c0, c9, hj, HR2, HO, HB1⟩ := hrel
            have hsz := HB1.out.size
            have hbx : Below W0.heap.size W0 wr := HBR.out.trans (HB1.out.mono HBR.out.size)
            have M2 := Lib.hid (HM.out wr hbx)
            have p1 := M2.out.2.1.c1
            have p2 := M2.out.2.2.1.c1
            have p3 := M2.out.2.2.2.2.2 k hk2
            clear hbx
            have hlen : ds.length ≤ 1000 := by have := HR2.out.1; omega
            by_cases hc : j < d1.length ∨ 0 < cc
            · obtain ⟨y0, y9⟩ := e2.get k hk2
              have HN := HR2.out.step e1 y0 y9 hc
              obtain ⟨f0, f9⟩ := dg_in e1 j
              obtain ⟨u1, u2, u3, u4, u5, u6, u7, u8⟩ := mul_digit f0 f9 y0 y9 c0 c9
              have hj1 : j + 1 ≤ n1 + 1 := by have := HN.2.2.2.2.2.2; have := HL1.out; omega
              have HN := Lib.hid HN
              have K2 : Hid (∀ q, Calls Try.prog 44 #[.slice a1 n1 c1, .int .i64 j] (wr.drewN q) fun e w' => e = .returned (.int .i64 (dg d1 j)) ∧ wr.drewN q = w') := Lib.hid fun q => digit_any (M2.out.2.2.2.2.1.drewN q) j
              have s1 : IntKind.i64.wrap (dg d1 j * d2[k]) = dg d1 j * d2[k] := IntWalk.i64_in _ (by omega)
              have s2 : IntKind.i64.wrap (dg d1 j * d2[k] + cc) = dg d1 j * d2[k] + cc := IntWalk.i64_in _ (by omega)
              have hcase : (decide (j < n1) = true) ∨ (decide (j < n1) = false ∧ 0 < cc) := by
                have := HL1.out
                by_cases h1 : j < n1
                · exact .inl (by simpa using h1)
                · exact .inr ⟨by simpa using h1, by omega⟩
              clear hc
              rcases hcase with t1 | ⟨t1, t3⟩
              all_goals
                go_wp2_with fail
                go_quiet ((go_at_call 44; exact Calls.quiet_of_same ((K2.out _).mono fun _ _ hh => ⟨hh.1, hh.2.symm⟩)))
                clear s1 s2 p1 p2 p3
                have hownd : (wr.drewN nq).ownsRow wo.heap.size 3 1 _ ds.length (ds.map (Value.int .i64)) := HO.out
                have hbd : Below wo.heap.size wo (wr.drewN nq) := below_drewN HB1.out nq
                generalize wr.drewN nq = wd at hownd hbd ⊢
                have hsd := hbd.size
                have HBD := Lib.hid hbd
                have HOD := Lib.hid hownd
                clear hbd hownd
                go_wp2_with (at_builtin; refine wpList_append_own _ rfl (.tmp 50) (.tmp 53) 35 rfl wo.heap.size 3 i0 (.int .i64 0) 1 8 Try.underlying35 hi hz0 hz1 hz2 rfl (by decide) _ _ _ rfl (HOD.out.alloc _) ⟨wd.heap.size, 0, none⟩ 1 1 [.int .i64 ((dg d1 j * d2[k] + cc) % 10)] rfl rfl (cells_one _ _ _) (by intro u hu; simp at hu; subst hu; rfl) (by unfold maxLen; omega) (by omega) (by simp; omega) ?_; intro v' w1 hown1 hgrow1 _)
                have hb1 : Below wo.heap.size wo w1 := (HBD.out.alloc hsd _).grown hgrow1 (by simp; omega) (fun b hb => (HOD.out.lt b hb).1)
                rw [map_snoc] at hown1
                have hown2 : w1.ownsRow wo.heap.size 3 1 v' (ds ++ [(dg d1 j * d2[k] + cc) % 10]).length ((ds ++ [(dg d1 j * d2[k] + cc) % 10]).map (Value.int .i64)) := by simpa using hown1
                have hown2 := Lib.hid hown2
                have hb1 := Lib.hid hb1
                clear hown1 hgrow1
                go_roundw
                case rel => exact ⟨j + 1, _, _, by go_num, rfl, u3, u4, hj1, HN, hown2, hb1⟩
                case measure => simp [intOf]; omega
            · have t1 : decide (j < n1) = false := by have := HL1.out; simp; omega
              have t3 : decide (0 < cc) = false := by simp; omega
              have HS := Lib.hid (HR2.out.stop hc)
              clear hc
              obtain ⟨ra, rc, rfl⟩ := own_form HO.out
              have HRow := Lib.hid (digits_owned HS.out.2.1 HO.out)
              have HAll := Lib.hid (HA.out.below HB1.out (Nat.le_refl _))
              have hk1 : da.length ≤ 1000 := by have := HR.out.2.2; have := HL1.out; omega
              go_wp2_with fail
              refine (tog_any HAll.out HRow.out HR.out.1 HS.out.2.1 hk1 hlen).mono ?_
              rintro e w3 ⟨v3, d3, rfl, ⟨a3, cc3, rfl, hI3, hb3⟩, hv3, hd3, _, hl3⟩
              have HN := Lib.hid (HR.out.step hk2 HS.out hv3 hd3 hl3)
              have hI3 := Lib.hid hI3
              have HB3 : Hid (Below W0.heap.size W0 w3) := Lib.hid ((HBR.out.trans (HB1.out.mono HBR.out.size)).trans (hb3.mono (Nat.le_trans HBR.out.size HB1.out.size)))
              clear hb3 hv3 hd3 hl3 p1 p2 p3
              go_wp2
              go_roundw
              case rel => exact ⟨k + 1, a3, cc3, d3, by go_num, by omega, rfl, HN, hI3, HB3⟩
              case measure => simp [intOf]; omega
    · have hkn : k = d2.length := by rw [HL2.out]; omega
      have HV : Hid (val da = val d1 * val d2) := Lib.hid (by have := HR.out.2.1; rw [hkn, List.take_length] at this; exact this)
      have t1 : decide (k < n2) = false := by simpa using hlt
      clear hkn hlt
      have p0 := M.out.2.1.c0
      have p2 := M.out.2.2.1.c0
      have X2 := Lib.hid M.out.2.2.2.1
      have j3 := X2.out.c0
      have j4 := X2.out.c1
      have j5 := X2.out.fz 0
      have j6 := X2.out.fz 1
      have j7 := X2.out.lt
      go_wp2_with fail
      refine (cut_any HA.out HR.out.1).mono ?_
      rintro e w3 ⟨ra, rc, ds, rfl, hri, hv, hd, hc, rfl⟩
      have hzz := hc.zero
      have hri := Lib.hid hri
      have hv := Lib.hid (hv.trans HV.out)
      have hc := Lib.hid hc
      have hd := Lib.hid hd
      rcases Nat.eq_zero_or_pos ds.length with hl0 | hl0
      · have hz := Lib.hid (hzz.1 hl0)
        have t2 : decide ((0 : Int) < (ds.length : Int)) = false := decide_eq_false (by omega)
        have t3 : decide (0 < ds.length) = false := decide_eq_false (by omega)
        clear hzz hl0
        go_wp2
        have Z0 := (X2.out.set0 (.bool false)).set1 (.slice ra ds.length rc)
        have z0 := Z0.c0
        have z1 := Z0.c1
        exact bodyPost_ret (v := .agg #[.bool false, .slice ra ds.length rc]) (by simp [results, Try.results37, go_sem, z0, z1]) rfl (numEnd M.out.1 X2.out (by omega) hri.out hd.out hc.out (mul_zero_end hv.out hz.out))
      · have t2 : decide ((0 : Int) < (ds.length : Int)) = true := decide_eq_true (by omega)
        have t3 : decide (0 < ds.length) = true := decide_eq_true (by omega)
        clear hzz hl0
        obtain ⟨br, hbr⟩ : ∃ br, br = (b1 != b2) := ⟨_, rfl⟩
        have HBr := Lib.hid hbr
        go_wp2
        have Z0 := (X2.out.set0 (.bool (!(b1 == b2)))).set1 (.slice ra ds.length rc)
        have z0 := Z0.c0
        have z1 := Z0.c1
        exact bodyPost_ret (v := .agg #[.bool (!(b1 == b2)), .slice ra ds.length rc]) (by simp [results, Try.results37, go_sem, z0, z1]) rfl (numEnd M.out.1 X2.out (by omega) hri.out hd.out hc.out (mul_sign_end hv.out))

theorem nummul_zero {w : World} {b1 b2 : Bool} {a1 a2 : Option Addr} {n1 c1 c2 : Nat} :
    Calls Try.prog 37 #[.agg #[.bool b1, .slice a1 n1 c1], .agg #[.bool b2, .slice a2 0 c2]] w (NumP w 0) := by
  obtain ⟨W0, hW0⟩ : ∃ W0, W0 = addW w #[.bool b1, .slice a1 n1 c1] #[.bool b2, .slice a2 0 c2] := ⟨_, rfl⟩
  have hB := addW_below w #[.bool b1, .slice a1 n1 c1] #[.bool b2, .slice a2 0 c2]
  have x0 := addW_0 w (.bool b1) (.slice a1 n1 c1) (.bool b2) (.slice a2 0 c2)
  have x1 := addW_1 w (.bool b1) (.slice a1 n1 c1) (.bool b2) (.slice a2 0 c2)
  have x2 := addW_2 w (.bool b1) (.slice a1 n1 c1) (.bool b2) (.slice a2 0 c2)
  rw [← hW0] at hB x0 x1 x2
  have HB := Lib.hid hB
  have X2 := Lib.hid x2
  have HW0 := Lib.hid hW0
  have p0 := x0.c0
  have q1 := x1.c1
  have p2 := x1.c0
  have j3 := x2.c0
  have j4 := x2.c1
  have j5 := x2.fz 0
  have j6 := x2.fz 1
  have j7 := x2.lt
  clear hW0 hB x0 x1 x2
  go_enter Try.func37, Try.ntmps37
  go_wp2_with fail
  have e := HW0.out
  unfold addW at e
  rw [← e]
  clear e
  refine wp_loop_rounds 1 ?_
  rw [rounds_succ]
  go_wp2_with ((go_at_call 45; (with_reducible refine (cut_none _ _ _).mono ?_); rintro e w' ⟨rfl, rfl⟩))
  have Z0 := (X2.out.set0 (.bool false)).set1 (.slice none 0 0)
  have z0 := Z0.c0
  have z1 := Z0.c1
  exact bodyPost_ret (v := .agg #[.bool false, .slice none 0 0]) (by simp [results, Try.results37, go_sem, z0, z1]) rfl (numEnd (ds := []) HB.out X2.out (by omega) ⟨rfl, Nat.le_refl _, Nat.zero_le _, Dig.nil.allIn, .inl ⟨rfl, rfl, rfl⟩⟩ Dig.nil Can.nil rfl)

theorem nummul_any {w : World} {x y : Value} {p q : Int} (hx : NumAt w x p) (hy : NumAt w y q) (bp : -P10 300 < p ∧ p < P10 300) (bq : -P10 300 < q ∧ q < P10 300) :
    Calls Try.prog 37 #[x, y] w (NumP w (p * q)) := by
  obtain ⟨b1, a1, n1, c1, d1, rfl, h1, e1, f1, rfl⟩ := hx
  obtain ⟨b2, a2, n2, c2, d2, rfl, h2, e2, f2, rfl⟩ := hy
  have g1 : n1 ≤ 400 := by
    have := f1.len (k := 300) (by cases b1 <;> simp at bp <;> omega)
    have := h1.1; omega
  have g2 : n2 ≤ 400 := by
    have := f2.len (k := 300) (by cases b2 <;> simp at bq <;> omega)
    have := h2.1; omega
  rcases Nat.eq_zero_or_pos n2 with rfl | hn
  · have : val d2 = 0 := f2.zero.1 h2.1
    rw [this]
    have e : (if b1 then -val d1 else val d1) * (if b2 then -0 else 0) = (0 : Int) := by cases b2 <;> simp
    rw [e]; exact nummul_zero
  · have h2' := h2
    obtain ⟨yb, yo, rfl, hc⟩ := h2.cell hn
    exact nummul_some h1 h2' hc hn e1 e2 g1 g2
end Go.Proofs.Ytdckenkomjikbaa
