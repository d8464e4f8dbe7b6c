/- Wire: the payload with which bytes begin: ReadPayload. -/
import Derived.Test.YtloofajopgbfmaaWjPay
namespace Go.Proofs.Ytloofajopgbfmaa
set_option linter.all false
open Go.RowKit
set_option maxRecDepth 100000
theorem info_parts3 {o : Option TypeInfo} {z : Option Value} {s b : Nat} (h : o.map (fun i => (i.zero, i.size, i.bytes)) = some (z, s, b)) : ∃ i, o = some i ∧ i.zero = z ∧ i.size = s ∧ i.bytes = b := by
  cases o with
  | none => cases h
  | some i =>
    simp only [Option.map_some, Option.some.injEq, Prod.mk.injEq] at h
    exact ⟨i, rfl, h.1, h.2.1, h.2.2⟩
theorem cells_laid (w : World) (l : List Value) (t : TypeId) : ∀ j u, l[j]? = some u → (w.alloc (.cells l.toArray t)).cell? ((⟨w.heap.size, 0, none⟩ : Addr).add j) = some u := by
  intro j u h
  have hadd : (⟨w.heap.size, 0, none⟩ : Addr).add j = ⟨w.heap.size, j, none⟩ := by unfold Addr.add; split <;> simp_all
  rw [hadd, cell_of_row _ _ j _ _ _ (heap_alloc_new w _)]
  simpa using h
theorem own_base9 {w : World} {B B' n sz : Nat} {T : TypeId} {v : Value} {xs : List Value} (h : w.ownsRow B T sz v n xs) (hb : B' ≤ B) : w.ownsRow B' T sz v n xs := by
  refine ⟨h.1, ?_⟩
  rcases h.2 with hn | ⟨g, cap, cur, hv, hbs, rest⟩
  · exact .inl hn
  · exact .inr ⟨g, cap, cur, hv, Nat.le_trans hb hbs, rest⟩
theorem own_keep9 {w w' : World} {B n sz : Nat} {T : TypeId} {v : Value} {xs : List Value} (h : w.ownsRow B T sz v n xs) (hb : Below w.heap.size w w') : w'.ownsRow B T sz v n xs := by
  refine ⟨h.1, ?_⟩
  rcases h.2 with hn | ⟨g, cap, cur, hv, hbs, hg, rest⟩
  · exact .inl hn
  · have hlt := (h.lt g (by rw [hv]; rfl)).2
    exact .inr ⟨g, cap, cur, hv, hbs, (hb.block g hlt).trans hg, rest⟩
theorem info27 : (Try.prog.info? 27).map (fun i => (i.zero, i.size, i.bytes)) = some (some (.agg #[.int .i64 0, .int .i64 0, .float .f64 0, .complex .f64 0 0, .string ⟨#[]⟩]), 5, 56) := by kernel_rfl
/-- what reading a payload answers -/
def PlA (o : Option (List V9 × Nat)) (B : Nat) (e : Ending) (w' : World) : Prop :=
  match o with
  | some (vs, k) => ∃ a cap, e = .returned (.tuple #[.slice a vs.length cap, .int .i64 k, .int .i64 0]) ∧ w'.ownsRow B 27 5 (.slice a vs.length cap) vs.length (cellsP vs)
  | none => e = .returned (.tuple #[.slice none 0 0, .int .i64 0, .int .i64 110])
set_option maxHeartbeats 4000000 in
theorem readPayload_any (a : Option Addr) (n cap : Nat) (l : List UInt8) (w : World) (ht : Txt w a n cap l) : Calls Try.prog 8 #[.slice a n cap] w fun e w' => PlA (rdP l) w.heap.size e w' ∧ Below w.heap.size w w' := by
  have hl := ht.1
  have hnm : n ≤ 9223372036854775807 := by have := ht.2.1; have := ht.2.2.1; unfold maxLen at *; omega
  cases l with
  | nil =>
    obtain rfl : n = 0 := by simpa using hl.symm
    have hr : rdP [] = none := rfl
    rw [hr]
    unfold PlA
    clear hl ht
    go_enter Try.func8, Try.ntmps8
    go_wp2_with fail
    refine wp_scope_fwd 0 rfl ?_
    go_wp2_with fail
    try go_step3
    refine And.intro rfl ?_
    go_wp2_with fail
    rw [Exit.noGoto_ret]
    go_ret3
    exact ⟨rfl, Below.refl _ _⟩
  | cons c r =>
    have hl2 : r.length + 1 = n := by simpa using hl
    obtain ⟨b, o, rfl, hc⟩ := txt_cells ht (by omega)
    have c0 : w.cell? ⟨b, o, none⟩ = some (.int .u8 (c.toNat : Int)) := hc 0 (by simp)
    have d0 : decide (n = 0) = false := decide_eq_false (by omega)
    have d1 : ((n : Int) == 0) = false := by rw [beq_eq_false_iff_ne]; omega
    have d2 : 0 < n := by omega
    obtain ⟨O, hO⟩ : ∃ O, O = rdP (c :: r) := ⟨_, rfl⟩
    rw [← hO]
    rw [rdP_cons] at hO
    have hcl : c.toNat ≤ 255 := by have := c.toNat_lt; omega
    have hdr : ∀ k, (c :: r).drop (1 + k) = r.drop k := fun k => by rw [Nat.add_comm, List.drop_succ_cons]
    have HD := Lib.hid hdr
    have HT := Lib.hid ht
    have HLN := Lib.hid hl2
    generalize c.toNat = C at *
    have HO := Lib.hid hO
    obtain ⟨i0, hi, hz0, hz1, hz2⟩ := info_parts3 info27
    have sf : ∀ (p : Addr) (b : Nat) (mo : Mode) (w' : World), (store p (.float .f64 b) mo).run Try.prog w' = stored Try.prog w' p (.float .f64 b) mo := fun p b mo w' => run_store _ w' p _ mo rfl
    have sc : ∀ (p : Addr) (b c : Nat) (mo : Mode) (w' : World), (store p (.complex .f64 b c) mo).run Try.prog w' = stored Try.prog w' p (.complex .f64 b c) mo := fun p b c mo w' => run_store _ w' p _ mo rfl
    clear hO hdr ht hl2 hl hc
    go_enter Try.func8, Try.ntmps8
    go_wp2_with fail
    refine wp_scope_fwd 0 rfl ?_
    go_wp2_with fail
    go_loopw [16, 5, 6] (fun ii vv aa wr => ∃ (i k at9 : Nat) (acc : List V9) (al : Option Addr) (cp : Nat), ii = .int .u8 i ∧ i ≤ C ∧ vv = .slice al acc.length cp ∧ aa = .int .i64 at9 ∧ Hid (at9 = 1 + k) ∧ Hid (rdVs i r = some (acc, k)) ∧ Hid (wr.ownsRow w.heap.size 27 5 (.slice al acc.length cp) acc.length (cellsP acc)) ∧ Hid (Below w.heap.size w wr)) (fun ii _ _ _ => C - (intOf ii).toNat)
    case atStart => exact ⟨0, 0, 1, [], none, 0, rfl, Nat.zero_le _, rfl, rfl, Lib.hid rfl, Lib.hid rfl, Lib.hid (World.ownsRow_nil _ _ _ _), Lib.hid (Below.refl _ _)⟩
    case round =>
      obtain ⟨i, k, at9, acc, al, cp, rfl, hiC, rfl, rfl, HA, HV, HR, HB⟩ := hrel
      obtain ⟨hk, hfv, hpl, hlen⟩ := rdVs_form _ _ _ _ HV.out
      have hle : acc.length ≤ i := by omega
      clear hfv hlen
      have hat : at9 ≤ n := by rw [HA.out, ← HLN.out]; omega
      rcases Nat.lt_or_ge i C with hlt | hge
      · obtain ⟨a', hs, ht'⟩ := slice_from at9 (HT.out.below HB.out (Nat.le_refl _)) hat
        rw [HA.out, HD.out k, ← HA.out] at ht'
        have hcall := readValue_any a' (n - at9) (cap - at9) (r.drop k) wr ht'
        cases hv : rdV (r.drop k) with
        | none =>
          rw [hv] at hcall
          unfold ansV valV at hcall
          have HC := Lib.hid hcall
          have HE : Hid (O = none) := Lib.hid (by rw [HO.out, rdVs_stop HV.out hv C hlt]; rfl)
          clear hcall hv ht' hpl hk
          go_wp2_with (go_at_call 7; (with_reducible refine HC.out.mono ?_); rintro e w1 ⟨rfl, hb1⟩; have HB1 := Lib.hid (HB.out.trans (hb1.mono HB.out.size)); clear hb1)
          try go_step3
          refine And.intro rfl ?_
          go_wp2_with fail
          rw [Exit.noGoto_ret]
          go_ret3
          exact ⟨by rw [HE.out]; rfl, HB1.out.alloc HB1.out.size _⟩
        | some q =>
          obtain ⟨x, m⟩ := q
          rw [hv] at hcall
          unfold ansV valO valV at hcall
          have HC := Lib.hid hcall
          have HV2 := Lib.hid (rdVs_snoc HV.out hv)
          have hm9 := (rdV_form hv).1
          have hm8 : m ≤ n - at9 := by rw [HA.out, ← HLN.out]; simp only [List.length_drop] at hm9; omega
          clear hcall hv ht' hpl hk hm9
          go_upto_region 8 with (go_at_call 7; (with_reducible refine HC.out.mono ?_); rintro e w1 ⟨rfl, hb1⟩; have HB1 := Lib.hid (HB.out.trans (hb1.mono HB.out.size)); have HR1 := Lib.hid (own_keep9 HR.out hb1); clear hb1)
          obtain ⟨W2, hW2⟩ : ∃ W2, W2 = w1.alloc (.cells #[.int .i64 x.kd, .int .i64 x.iv, .float .f64 x.rl, .complex .f64 x.re x.im, .string ⟨x.tx.toArray⟩] 27) := ⟨_, rfl⟩
          have hx2 : Bk W2 w1.heap.size 27 (cellsO x) := by rw [hW2]; exact Bk.new w1 _ _
          have hb2 : Below w.heap.size w W2 := by rw [hW2]; exact HB1.out.alloc HB1.out.size _
          have hr2 : W2.ownsRow w.heap.size 27 5 (.slice al acc.length cp) acc.length (cellsP acc) := by rw [hW2]; exact HR1.out.alloc _
          have HB2 := Lib.hid hb2
          have HR2 := Lib.hid hr2
          rw [← hW2]
          have d0 := hx2.c 0 rfl
          have d1' := hx2.c 1 rfl
          have d2' := hx2.c 2 rfl
          have d3 := hx2.c 3 rfl
          have d4 := hx2.c 4 rfl
          clear hW2 hx2 hb2 hr2 HC HB1 HR1
          have hal : acc.length ≤ 254 := by omega
          go_wp2_with (at_builtin; refine wpList_append_own _ rfl (.tmp 28) (.tmp 30) 31 rfl w.heap.size 27 i0 (.agg #[.int .i64 0, .int .i64 0, .float .f64 0, .complex .f64 0 0, .string ⟨#[]⟩]) 5 56 Try.underlying31 hi hz0 hz1 hz2 rfl (by decide) (.slice al acc.length cp) acc.length (cellsP acc) rfl (HR2.out.alloc (.cells (cellsO x).toArray 27)) ⟨W2.heap.size, 0, none⟩ 1 1 (cellsO x) rfl rfl (cells_laid W2 (cellsO x) 27) (by rw [← List.append_nil (cellsO x), ← show cellsP [x] = cellsO x ++ [] from rfl]; exact cellsP_one [x]) (by unfold maxLen; omega) (by omega) (Nat.le_trans HB2.out.size (by simp)) ?_; intro v3 w3 hown hgrow hnil)
          obtain ⟨g3, c3, rfl⟩ := ownsRow_succ hown
          have HB3 : Hid (Below w.heap.size w w3) := Lib.hid ((HB2.out.alloc HB2.out.size _).grown hgrow (Nat.le_trans HB2.out.size (by simp)) (fun b hb => (HR2.out.lt b hb).1))
          have HR3 : Hid (w3.ownsRow w.heap.size 27 5 (.slice (some ⟨g3, 0, none⟩) (acc ++ [x]).length c3) (acc ++ [x]).length (cellsP (acc ++ [x]))) := Lib.hid (by rw [cellsP_snoc, List.length_append]; exact hown)
          have HLL := Lib.hid (show (acc ++ [x]).length = acc.length + 1 by simp)
          clear hown hgrow hnil d0 d1' d2' d3 d4
          go_wp2
          go_roundw
          case rel => exact ⟨i + 1, k + m, at9 + m, acc ++ [x], some ⟨g3, 0, none⟩, c3, by go_num, by omega, by rw [HLL.out], by go_num, Lib.hid (by rw [HA.out]; omega), HV2, HR3, HB3⟩
          case measure => simp [intOf]; omega
      · obtain rfl : i = C := by omega
        have hmp := mayPayload_any acc _ wr hpl (own_base9 HR.out (Nat.zero_le _)) (by omega)
        have HM := Lib.hid hmp
        rw [HV.out] at HO
        have hoo : O = if 6 < acc.length ∨ 1024 < sizeP acc then none else some (acc, 1 + k) := HO.out
        have HOO := Lib.hid hoo
        clear hmp hpl hoo
        by_cases hd : acc.length ≤ 6 ∧ sizeP acc ≤ 1024
        · have HE : Hid (O = some (acc, 1 + k)) := Lib.hid (by rw [HOO.out, if_neg (by omega)])
          have hdd := decide_eq_true hd
          rw [hdd] at HM
          clear hdd hd
          go_wp2_with (go_at_call 30; (with_reducible refine HM.out.mono ?_); rintro e w1 ⟨rfl, hb1⟩; have HB1 := Lib.hid (HB.out.trans (hb1.mono HB.out.size)); have HR1 := Lib.hid (own_keep9 HR.out hb1); clear hb1)
          rw [jump_ret]
          go_ret3
          exact ⟨by rw [HE.out, ← HA.out]; exact ⟨al, cp, rfl, HR1.out⟩, HB1.out⟩
        · have HE : Hid (O = none) := Lib.hid (by rw [HOO.out, if_pos (by omega)])
          have hdd := decide_eq_false hd
          rw [hdd] at HM
          clear hdd hd
          go_wp2_with (go_at_call 30; (with_reducible refine HM.out.mono ?_); rintro e w1 ⟨rfl, hb1⟩; have HB1 := Lib.hid (HB.out.trans (hb1.mono HB.out.size)); clear hb1)
          try go_step3
          refine And.intro rfl ?_
          go_wp2_with fail
          rw [Exit.noGoto_ret]
          go_ret3
          exact ⟨by rw [HE.out]; rfl, HB1.out⟩
end Go.Proofs.Ytloofajopgbfmaa
