/- Wire, the reference's reading of a payload of so many values. -/
import Derived.Test.YtloofajopgbfmaaWjRef9
namespace Go.Proofs.Ytloofajopgbfmaa
set_option linter.all false
open Go.RowKit
set_option maxRecDepth 100000
/-- where a reading of so many values stands: so many are read, or it is bad -/
def St9 (C : Nat) (r : List UInt8) (k1 i : Nat) (acc : List V9) (o : Option Nat) : Prop := (∃ kk, rdVs i r = some (acc, kk) ∧ o = some (k1 + kk)) ∨ (o = none ∧ rdVs C r = none ∧ ∀ x ∈ acc, OkZ x)
theorem St9.okz {C : Nat} {r : List UInt8} {k1 i : Nat} {acc : List V9} {o : Option Nat} (h : St9 C r k1 i acc o) : ∀ x ∈ acc, OkZ x := by
  rcases h with ⟨kk, h1, _⟩ | ⟨_, _, h3⟩
  · exact fun x hx => .inl ((rdVs_form _ _ _ _ h1).2.2.1 x hx)
  · exact h3
theorem St9.step {C : Nat} {l : List UInt8} {k1 i kk : Nat} {acc : List V9} (h : rdVs i (l.drop k1) = some (acc, kk)) (hi : i < C) : St9 C (l.drop k1) k1 (i + 1) (acc ++ [(valR l (k1 + kk)).1]) (valR l (k1 + kk)).2 := by
  have hd : (l.drop k1).drop kk = l.drop (k1 + kk) := by rw [List.drop_drop]
  cases hv : rdV (l.drop (k1 + kk)) with
  | none =>
    rw [valR_none hv]
    refine .inr ⟨rfl, rdVs_stop h (by rw [hd]; exact hv) C hi, fun x hx => ?_⟩
    rcases List.mem_append.1 hx with hx | hx
    · exact .inl ((rdVs_form _ _ _ _ h).2.2.1 x hx)
    · simp only [List.mem_singleton] at hx
      exact .inr hx
  | some q =>
    obtain ⟨v, m⟩ := q
    rw [valR_some hv]
    exact .inl ⟨kk + m, rdVs_snoc h (by rw [hd]; exact hv), by rw [Nat.add_assoc]⟩
/-- what reading so many values answers -/
def plC (C : Nat) (r : List UInt8) (k1 : Nat) : List V9 × Option Nat :=
  match rdVs C r with
  | some (vs, m) => if 1024 < sizeP vs then ([], none) else (vs, some (k1 + m))
  | none => ([], none)
theorem St9.bad {C : Nat} {r : List UInt8} {k1 i : Nat} {acc : List V9} (h : St9 C r k1 i acc none) : plC C r k1 = ([], none) := by
  rcases h with ⟨kk, _, h⟩ | ⟨_, h, _⟩
  · cases h
  · unfold plC; rw [h]
theorem St9.end {C : Nat} {r : List UInt8} {k1 k2 : Nat} {acc : List V9} (h : St9 C r k1 C acc (some k2)) : plC C r k1 = if 1024 < sizeZ acc then ([], none) else (acc, some k2) := by
  rcases h with ⟨kk, h1, h2⟩ | ⟨h, _, _⟩
  · cases h2
    unfold plC
    rw [h1, sizeZ_plain (rdVs_form _ _ _ _ h1).2.2.1]
  · cases h
set_option maxHeartbeats 8000000 in
theorem refPayload_few (p C k1 : Nat) (a : Option Addr) (n cap : Nat) (l : List UInt8) (o : Option Nat) (w : World) (h : RSt w p a n cap l o) (hq : nuR l n o 1 = (C, some k1)) (hC : C ≤ 6) : Calls Try.prog 11 #[.pointer (some ⟨p, 0, none⟩)] w (PaA w p a n cap l (plC C (l.drop k1) k1)) := by
  have hn1 := number_r p a n cap 1 l o w h (by omega)
  rw [hq] at hn1
  unfold NuA at hn1
  have HN1 : Hid (Calls Try.prog 32 #[.pointer (some ⟨p, 0, none⟩), .int .i64 1] w fun e w' => e = .returned (.int .u64 C) ∧ RSt w' p a n cap l (some k1) ∧ Eff9 p w w') := Lib.hid hn1
  have hw : IntKind.i64.wrap (C : Int) = (C : Int) := by rw [IntKind.wrap_i64]; omega
  have HH := Lib.hid h
  have hplt := h.lt
  obtain ⟨i0, hi, hz0, hz1, hz2⟩ := info_parts3 info27
  unfold PaA
  clear hn1 hq h
  have d1 : decide ((6 : Int) < (C : Int)) = false := decide_eq_false (by omega)
  have d2 : decide (6 < C) = false := decide_eq_false (by omega)
  go_enter Try.func11, Try.ntmps11
  go_upto_region 2 with (go_at_call 32; (with_reducible refine HN1.out.mono ?_); rintro e w1 ⟨rfl, hs1, he1⟩; have HS1 := Lib.hid hs1; have HE1 := Lib.hid he1; clear hs1 he1)
  go_wp2_with fail
  go_loopw [5, 4] (fun ii vv wr => ∃ (i : Nat) (acc : List V9) (al : Option Addr) (cp : Nat) (o : Option Nat), ii = .int .i64 i ∧ i ≤ C ∧ vv = .slice al acc.length cp ∧ acc.length ≤ i ∧ Hid (wr.ownsRow w.heap.size 27 5 (.slice al acc.length cp) acc.length (cellsP acc)) ∧ Hid (RSt wr p a n cap l o) ∧ Hid (Eff9 p w wr) ∧ Hid (St9 C (l.drop k1) k1 i acc o)) (fun ii _ _ => C - (intOf ii).toNat)
  case atStart => exact ⟨0, [], none, 0, some k1, rfl, Nat.zero_le _, rfl, Nat.le_refl _, Lib.hid (World.ownsRow_nil _ _ _ _), HS1, HE1, Lib.hid (.inl ⟨0, rfl, rfl⟩)⟩
  case round =>
    clear HS1 HE1 HN1
    obtain ⟨i, acc, al, cp, o, rfl, hiC, rfl, hle, HR, HS, HE, HST⟩ := hrel
    cases o with
    | some k2 =>
      obtain ⟨hb9, hk9⟩ := HS.out.at
      have HB9 := Lib.hid hb9
      have p2 := hb9.c 2 rfl
      clear hb9
      rcases Nat.lt_or_ge i C with hlt | hge
      · have hst2 : St9 C (l.drop k1) k1 (i + 1) (acc ++ [(valR l k2).1]) (valR l k2).2 := by
          rcases HST.out with ⟨kk, g1, g2⟩ | ⟨g, _, _⟩
          · cases g2
            exact St9.step g1 hlt
          · cases g
        have hv := refValue_any p k2 a n cap l wr HS.out
        generalize valR l k2 = q at *
        obtain ⟨x, o2⟩ := q
        unfold VaA valO valV at hv
        have HV := Lib.hid hv
        have HST2 := Lib.hid hst2
        have hal : acc.length ≤ 5 := by omega
        clear hv hst2
        go_wp2_with (first
          | (go_at_call 10; (with_reducible refine HV.out.mono ?_); rintro e w2 ⟨rfl, hs2, he2⟩; have HS2 := Lib.hid hs2; have HR2 := Lib.hid (HR.out.kept he2 (by right; intro e; have h1 := HR.out.lt p e; omega)); have HE2 := Lib.hid (HE.out.trans he2); clear hs2 he2)
          | (at_builtin; refine wpList_append_own _ rfl (.tmp 26) (.tmp 29) 31 rfl w.heap.size 27 i0 (.agg #[.int .i64 0, .int .i64 0, .float .f64 0, .complex .f64 0 0, .string ⟨#[]⟩]) 5 56 Try.underlying31 hi hz0 hz1 hz2 rfl (by decide) (.slice al acc.length cp) acc.length (cellsP acc) rfl (HR2.out.alloc (.cells (cellsO x).toArray 27)) ⟨w2.heap.size, 0, none⟩ 1 1 (cellsO x) rfl rfl (cells_laid w2 (cellsO x) 27) (by rw [← List.append_nil (cellsO x), ← show cellsP [x] = cellsO x ++ [] from rfl]; exact cellsP_one [x]) (by unfold maxLen; omega) (by omega) (Nat.le_trans HE2.out.size (by simp)) ?_; intro v3 w3 hown hgrow hnil))
        obtain ⟨g3, c3, rfl⟩ := ownsRow_succ hown
        have hrow9 : ∀ g, (Value.slice al acc.length cp).ownBlock = some g → w.heap.size ≤ g := fun g hg => (HR2.out.lt g hg).1
        have hba : Below w2.heap.size w2 (w2.alloc (.cells (cellsO x).toArray 27)) := (Below.refl _ w2).alloc (Nat.le_refl _) _
        have HS3 := Lib.hid (RSt.grown HH.out (HS2.out.below hba) hgrow hrow9)
        have HE3 := Lib.hid ((HE2.out.below hba).grown hgrow hrow9)
        have HR3 : Hid (w3.ownsRow w.heap.size 27 5 (.slice (some ⟨g3, 0, none⟩) (acc ++ [x]).length c3) (acc ++ [x]).length (cellsP (acc ++ [x]))) := Lib.hid (by rw [cellsP_snoc, List.length_append]; exact hown)
        have HLL := Lib.hid (show (acc ++ [x]).length = acc.length + 1 by simp)
        clear hown hgrow hnil hba hrow9 p2
        go_wp2
        go_roundw
        case rel => exact ⟨i + 1, acc ++ [x], some ⟨g3, 0, none⟩, c3, o2, by go_num, by omega, by rw [HLL.out], by rw [HLL.out]; omega, HR3, HS3, HE3, HST2⟩
        case measure => simp [intOf]; omega
      · obtain rfl : i = C := by omega
        have d3 : decide (i < i) = false := decide_eq_false (by omega)
        have hz := rsizes_z acc _ wr HST.out.okz (own_base9 HR.out (Nat.zero_le _)) (by omega)
        have hzl : sizeZ acc ≤ 256 * acc.length := sizeZ_le HST.out.okz
        by_cases hs : 1024 < sizeZ acc
        · have e1 : decide ((1024 : Int) < (sizeZ acc : Int)) = true := decide_eq_true (by omega)
          have HP : Hid (plC i (l.drop k1) k1 = ([], none)) := Lib.hid (by rw [HST.out.end, if_pos hs])
          generalize sizeZ acc = z at *
          have HZ := Lib.hid hz
          clear hz hs
          go_wp2_with fail
          refine HZ.out.mono ?_
          rintro e w3 ⟨rfl, hb3⟩
          have HS3 := Lib.hid (HS.out.below hb3)
          have HE3 := Lib.hid (HE.out.below hb3)
          have HR3 := Lib.hid (own_keep9 HR.out hb3)
          have hb9 := HB9.out.keep hb3 HB9.out.lt
          have HB3 := Lib.hid hb9
          have p3 := hb9.c 2 rfl
          have fp3 := hb9.fz 2
          have lp3 := hb9.lt
          clear hb3 p2 hb9
          go_upto_region 11 with (fail)
          have he4 : Eff9 p w3 (w3.setCell ⟨p, 2, none⟩ (.bool true)) := (Eff9.refl p w3).set 2 _
          have HB4 := Lib.hid (HB3.out.set 2 (.bool true))
          have HS4 := Lib.hid (HS3.out.none he4 HB4.out hk9)
          have HE4 := Lib.hid (HE3.out.trans he4)
          clear he4 p3 fp3 lp3
          generalize w3.setCell ⟨p, 2, none⟩ (.bool true) = w4 at *
          have p4 := HB4.out.c 2 rfl
          go_wp2_with fail
          go_ret
          exact ⟨none, 0, by rw [HP.out]; rfl, by rw [HP.out]; exact World.ownsRow_nil _ _ _ _, by rw [HP.out]; exact HS4.out, HE4.out⟩
        · have e1 : decide ((1024 : Int) < (sizeZ acc : Int)) = false := decide_eq_false (by omega)
          have HP : Hid (plC i (l.drop k1) k1 = (acc, some k2)) := Lib.hid (by rw [HST.out.end, if_neg hs])
          generalize sizeZ acc = z at *
          have HZ := Lib.hid hz
          clear hz hs
          go_wp2_with fail
          refine HZ.out.mono ?_
          rintro e w3 ⟨rfl, hb3⟩
          have HS3 := Lib.hid (HS.out.below hb3)
          have HE3 := Lib.hid (HE.out.below hb3)
          have HR3 := Lib.hid (own_keep9 HR.out hb3)
          have hb9 := HB9.out.keep hb3 HB9.out.lt
          have HB3 := Lib.hid hb9
          have p3 := hb9.c 2 rfl
          have fp3 := hb9.fz 2
          have lp3 := hb9.lt
          clear hb3 p2 hb9
          go_wp2_with fail
          go_ret
          exact ⟨al, cp, by rw [HP.out]; rfl, by rw [HP.out]; exact HR3.out, by rw [HP.out]; exact HS3.out, HE3.out⟩
    | none =>
      obtain ⟨k9, hb9, hk9⟩ := HS.out.bad
      have HB9 := Lib.hid hb9
      have p2 := hb9.c 2 rfl
      clear hb9
      rcases Nat.lt_or_ge i C with hlt | hge
      · have d3 : decide (i < C) = true := decide_eq_true hlt
        have d4 : decide ((i : Int) < (C : Int)) = true := decide_eq_true (by omega)
        have hz := rsizes_z acc _ wr HST.out.okz (own_base9 HR.out (Nat.zero_le _)) (by omega)
        have hzl : sizeZ acc ≤ 256 * acc.length := sizeZ_le HST.out.okz
        by_cases hs : 1024 < sizeZ acc
        · have e1 : decide ((1024 : Int) < (sizeZ acc : Int)) = true := decide_eq_true (by omega)
          have HP : Hid (plC C (l.drop k1) k1 = ([], none)) := Lib.hid HST.out.bad
          generalize sizeZ acc = z at *
          have HZ := Lib.hid hz
          clear hz hs
          go_wp2_with fail
          refine HZ.out.mono ?_
          rintro e w3 ⟨rfl, hb3⟩
          have HS3 := Lib.hid (HS.out.below hb3)
          have HE3 := Lib.hid (HE.out.below hb3)
          have HR3 := Lib.hid (own_keep9 HR.out hb3)
          have hb9 := HB9.out.keep hb3 HB9.out.lt
          have HB3 := Lib.hid hb9
          have p3 := hb9.c 2 rfl
          have fp3 := hb9.fz 2
          have lp3 := hb9.lt
          clear hb3 p2 hb9
          go_upto_region 11 with (fail)
          have he4 : Eff9 p w3 (w3.setCell ⟨p, 2, none⟩ (.bool true)) := (Eff9.refl p w3).set 2 _
          have HB4 := Lib.hid (HB3.out.set 2 (.bool true))
          have HS4 := Lib.hid (HS3.out.none he4 HB4.out hk9)
          have HE4 := Lib.hid (HE3.out.trans he4)
          clear he4 p3 fp3 lp3
          generalize w3.setCell ⟨p, 2, none⟩ (.bool true) = w4 at *
          have p4 := HB4.out.c 2 rfl
          go_wp2_with fail
          go_ret
          exact ⟨none, 0, by rw [HP.out]; rfl, by rw [HP.out]; exact World.ownsRow_nil _ _ _ _, by rw [HP.out]; exact HS4.out, HE4.out⟩
        · have e1 : decide ((1024 : Int) < (sizeZ acc : Int)) = false := decide_eq_false (by omega)
          have HP : Hid (plC C (l.drop k1) k1 = ([], none)) := Lib.hid HST.out.bad
          generalize sizeZ acc = z at *
          have HZ := Lib.hid hz
          clear hz hs
          go_wp2_with fail
          refine HZ.out.mono ?_
          rintro e w3 ⟨rfl, hb3⟩
          have HS3 := Lib.hid (HS.out.below hb3)
          have HE3 := Lib.hid (HE.out.below hb3)
          have HR3 := Lib.hid (own_keep9 HR.out hb3)
          have hb9 := HB9.out.keep hb3 HB9.out.lt
          have HB3 := Lib.hid hb9
          have p3 := hb9.c 2 rfl
          have fp3 := hb9.fz 2
          have lp3 := hb9.lt
          clear hb3 p2 hb9
          go_wp2_with fail
          go_ret
          exact ⟨none, 0, by rw [HP.out]; rfl, by rw [HP.out]; exact World.ownsRow_nil _ _ _ _, by rw [HP.out]; exact HS3.out, HE3.out⟩
      · obtain rfl : i = C := by omega
        have d3 : decide (i < i) = false := decide_eq_false (by omega)
        have hz := rsizes_z acc _ wr HST.out.okz (own_base9 HR.out (Nat.zero_le _)) (by omega)
        have hzl : sizeZ acc ≤ 256 * acc.length := sizeZ_le HST.out.okz
        by_cases hs : 1024 < sizeZ acc
        · have e1 : decide ((1024 : Int) < (sizeZ acc : Int)) = true := decide_eq_true (by omega)
          have HP : Hid (plC i (l.drop k1) k1 = ([], none)) := Lib.hid HST.out.bad
          generalize sizeZ acc = z at *
          have HZ := Lib.hid hz
          clear hz hs
          go_wp2_with fail
          refine HZ.out.mono ?_
          rintro e w3 ⟨rfl, hb3⟩
          have HS3 := Lib.hid (HS.out.below hb3)
          have HE3 := Lib.hid (HE.out.below hb3)
          have HR3 := Lib.hid (own_keep9 HR.out hb3)
          have hb9 := HB9.out.keep hb3 HB9.out.lt
          have HB3 := Lib.hid hb9
          have p3 := hb9.c 2 rfl
          have fp3 := hb9.fz 2
          have lp3 := hb9.lt
          clear hb3 p2 hb9
          go_upto_region 11 with (fail)
          have he4 : Eff9 p w3 (w3.setCell ⟨p, 2, none⟩ (.bool true)) := (Eff9.refl p w3).set 2 _
          have HB4 := Lib.hid (HB3.out.set 2 (.bool true))
          have HS4 := Lib.hid (HS3.out.none he4 HB4.out hk9)
          have HE4 := Lib.hid (HE3.out.trans he4)
          clear he4 p3 fp3 lp3
          generalize w3.setCell ⟨p, 2, none⟩ (.bool true) = w4 at *
          have p4 := HB4.out.c 2 rfl
          go_wp2_with fail
          go_ret
          exact ⟨none, 0, by rw [HP.out]; rfl, by rw [HP.out]; exact World.ownsRow_nil _ _ _ _, by rw [HP.out]; exact HS4.out, HE4.out⟩
        · have e1 : decide ((1024 : Int) < (sizeZ acc : Int)) = false := decide_eq_false (by omega)
          have HP : Hid (plC i (l.drop k1) k1 = ([], none)) := Lib.hid HST.out.bad
          generalize sizeZ acc = z at *
          have HZ := Lib.hid hz
          clear hz hs
          go_wp2_with fail
          refine HZ.out.mono ?_
          rintro e w3 ⟨rfl, hb3⟩
          have HS3 := Lib.hid (HS.out.below hb3)
          have HE3 := Lib.hid (HE.out.below hb3)
          have HR3 := Lib.hid (own_keep9 HR.out hb3)
          have hb9 := HB9.out.keep hb3 HB9.out.lt
          have HB3 := Lib.hid hb9
          have p3 := hb9.c 2 rfl
          have fp3 := hb9.fz 2
          have lp3 := hb9.lt
          clear hb3 p2 hb9
          go_wp2_with fail
          go_ret
          exact ⟨none, 0, by rw [HP.out]; rfl, by rw [HP.out]; exact World.ownsRow_nil _ _ _ _, by rw [HP.out]; exact HS3.out, HE3.out⟩
end Go.Proofs.Ytloofajopgbfmaa
