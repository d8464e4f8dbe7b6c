/- Wire: Message's bytes. -/
import Derived.Test.YtloofajopgbfmaaWjWr
import Derived.Test.YtloofajopgbfmaaWjRdM
set_option linter.all false
namespace Go.Proofs.Ytloofajopgbfmaa
open Go.RowKit
set_option maxRecDepth 100000
theorem formM_eq (m : M9) (h : m.tag.length ≤ 255) : formM m = ((beW 4 m.id ++ beW 1 m.tag.length) ++ m.tag) ++ formP m.vs := by
  have h1 : beW 1 m.tag.length = [UInt8.ofNat m.tag.length] := by
    have h1 : beW 1 m.tag.length = [UInt8.ofNat (m.tag.length % 256)] := by simp [beW]
    rw [h1, Nat.mod_eq_of_lt (by omega)]
  rw [h1]
  unfold formM
  simp
set_option maxHeartbeats 4000000 in
theorem wMessage_any (m : M9) (hp : PlainM m) (a : Option Addr) (cap Bv : Nat) (w : World) (hrow : w.ownsRow Bv 27 5 (.slice a m.vs.length cap) m.vs.length (cellsP m.vs)) :
    Calls Try.prog 24 #[.agg #[.int .i64 m.id, .string ⟨m.tag.toArray⟩, .slice a m.vs.length cap]] w (WrA w (formM m)) := by
  have hfm := formM_eq m (by have := hp.tag; omega)
  have hid := hp.id
  obtain ⟨ht1, ht2⟩ := hp.tag
  have hv := hp.vs
  obtain ⟨id, tg, vs⟩ := m
  simp only at hfm hid ht1 ht2 hv hrow ⊢
  have hts : (⟨tg.toArray⟩ : ByteArray).size = tg.length := rfl
  have htc : Lib.strCells ⟨tg.toArray⟩ = u8s tg := by unfold Lib.strCells u8s; simp
  generalize (⟨tg.toArray⟩ : ByteArray) = s at *
  have hss : s.size ≤ 32 := by omega
  have HTC := Lib.hid htc
  have HTS := Lib.hid hts
  have HFM := Lib.hid hfm
  obtain ⟨W0, hW0⟩ : ∃ W0, W0 = w.alloc (.cells #[.int .i64 id, .string s, .slice a vs.length cap] 35) := ⟨_, rfl⟩
  have hb0 : Below w.heap.size w W0 := by rw [hW0]; exact (Below.refl _ w).alloc (Nat.le_refl _) _
  have hx0 : Bk W0 w.heap.size 35 [.int .i64 id, .string s, .slice a vs.length cap] := by rw [hW0]; exact Bk.new w _ _
  have hmm := mayMessage_any id s.size s vs a cap W0 rfl (by omega) (by omega) hv (own_base9 (own_keep9 hrow hb0) (Nat.zero_le _))
  rw [decide_eq_true (And.intro hid (And.intro (by omega) hss))] at hmm
  have HM := Lib.hid hmm
  have HW0 := Lib.hid hW0
  have HB0 := Lib.hid hb0
  have HX0 := Lib.hid hx0
  have HR0 := Lib.hid (own_keep9 hrow hb0)
  have HV := Lib.hid hv
  have c0 := hx0.c 0 rfl
  have c1 := hx0.c 1 rfl
  have c2 := hx0.c 2 rfl
  have hu : IntKind.u64.wrap (id : Int) = ((id : Nat) : Int) := by rw [IntKind.wrap_u64]; omega
  have hl9 : IntKind.u64.wrap (s.size : Int) = ((s.size : Nat) : Int) := by rw [IntKind.wrap_u64]; omega
  unfold WrA
  clear hmm hW0 hb0 hx0 hrow hp hts htc hfm hv
  go_enter Try.func24, Try.ntmps24
  go_upto_region 1 with (fail)
  rw [← HW0.out]
  go_upto_region 3 with (go_at_call 31; (with_reducible refine HM.out.mono ?_); rintro e w1 ⟨rfl, hb1⟩; have HB1 := Lib.hid (HB0.out.trans (hb1.mono HB0.out.size)); have HX1 := Lib.hid (HX0.out.keep hb1 HX0.out.lt); have HR1 := Lib.hid (own_keep9 HR0.out hb1); clear hb1)
  clear c0 c1 c2 HM HX0 HR0 HB0 HW0
  have c0 := HX1.out.c 0 rfl
  have c1 := HX1.out.c 1 rfl
  have c2 := HX1.out.c 2 rfl
  have hc := addNumber_any 4 w.heap.size (.inr (.inr (.inl rfl))) (.slice none 0 0) 0 id [] (by omega) w1 (World.ownsRow_nil _ _ _ _) (by omega) HB1.out.size
  unfold AdP at hc
  have HC := Lib.hid hc
  clear hc
  go_upto_region 4 with (go_at_call 46; (refine HC.out.mono ?_); rintro e w2 ⟨v2, rfl, ho2, hb2, hk2⟩; have HO2 := Lib.hid ho2; have HB2 := Lib.hid (HB1.out.trans hb2); have HX2 := Lib.hid (HX1.out.kt (by decide) hk2); have HR2 := Lib.hid (own_kt HR1.out (by decide) hk2); clear ho2 hb2 hk2)
  clear c0 c1 c2 HC HX1 HR1 HB1
  have c0 := HX2.out.c 0 rfl
  have c1 := HX2.out.c 1 rfl
  have c2 := HX2.out.c 2 rfl
  have hc := addNumber_any 1 w.heap.size (.inl rfl) v2 (0 + 4) s.size ([] ++ beW 4 id) (by omega) w2 HO2.out (by omega) HB2.out.size
  unfold AdP at hc
  have HC := Lib.hid hc
  clear hc
  go_upto_region 5 with (go_at_call 46; (refine HC.out.mono ?_); rintro e w3 ⟨v3, rfl, ho3, hb3, hk3⟩; have HO3 := Lib.hid ho3; have HB3 := Lib.hid (HB2.out.trans hb3); have HX3 := Lib.hid (HX2.out.kt (by decide) hk3); have HR3 := Lib.hid (own_kt HR2.out (by decide) hk3); clear ho3 hb3 hk3)
  clear c0 c1 c2 HC HX2 HR2 HB2 HO2
  have c0 := HX3.out.c 0 rfl
  have c1 := HX3.out.c 1 rfl
  have c2 := HX3.out.c 2 rfl
  obtain ⟨i0, hi, hz0, hz1, hz2⟩ := info_parts3 info5
  go_upto_region 6 with (at_builtin; refine Lib.wpList_append_own_string _ rfl (.tmp 18) (.tmp 20) 22 9 rfl w.heap.size 5 i0 Try.underlying22 Try.underlying9 hi hz0 hz1 hz2 v3 (0 + 4 + 1) (u8s (([] ++ beW 4 id) ++ beW 1 s.size)) rfl HO3.out s rfl (by unfold maxLen; omega) (by omega) HB3.out.size ?_; intro v4 w4 hown4 hgrow4 hnil4)
  have hk4 := KT.of_grown HO3.out hgrow4
  have HO4 : Hid (w4.ownsRow w.heap.size 5 1 v4 (5 + s.size) (u8s (((beW 4 id) ++ beW 1 tg.length) ++ tg))) := Lib.hid (by rw [u8s_append, ← HTC.out, ← HTS.out]; exact hown4)
  have HB4 := Lib.hid (HB3.out.grown hgrow4 HB3.out.size (fun g hg => (HO3.out.lt g hg).1))
  have HX4 := Lib.hid (HX3.out.kt (by decide) hk4)
  have HR4 := Lib.hid (own_kt HR3.out (by decide) hk4)
  clear hown4 hgrow4 hnil4 hk4 c0 c1 c2 HX3 HR3 HB3 HO3 hi hz0 hz1 hz2
  have c0 := HX4.out.c 0 rfl
  have c1 := HX4.out.c 1 rfl
  have c2 := HX4.out.c 2 rfl
  have hc := addPayload_any vs HV.out.all HV.out.few a cap w.heap.size Bv v4 (5 + s.size) (((beW 4 id) ++ beW 1 tg.length) ++ tg) w4 HR4.out HO4.out (by omega) HB4.out.size
  unfold AdP at hc
  have HC := Lib.hid hc
  clear hc
  go_wp2_with fail
  refine HC.out.mono ?_
  rintro e w5 ⟨v5, rfl, ho5, hb5, _⟩
  rw [← HFM.out, show 5 + s.size + (formP vs).length = (formM ⟨id, tg, vs⟩).length by rw [HFM.out, List.length_append, List.length_append, List.length_append, beW_len, beW_len, HTS.out]] at ho5
  obtain ⟨a5, c5, rfl⟩ := own_slice ho5
  have HO5 := Lib.hid ho5
  have HB5 := Lib.hid (HB4.out.trans hb5)
  clear ho5 hb5
  go_wp2_with fail
  go_ret2
  exact ⟨a5, c5, rfl, HO5.out, HB5.out⟩
end Go.Proofs.Ytloofajopgbfmaa
