/- Wire, the law's awake. -/
import Derived.Test.YtloofajopgbfmaaWjWrM
import Derived.Test.YtloofajopgbfmaaWjUni
set_option linter.all false
namespace Go.Proofs.Ytloofajopgbfmaa
open Go.RowKit
set_option maxRecDepth 100000
theorem awk_v : Plain9 ⟨4, 0, 0, 0, 0, [97, 98]⟩ := ⟨.inr (.inr (.inr rfl)), fun _ => rfl, fun _ => rfl, fun _ => ⟨rfl, rfl⟩, fun h => absurd rfl h, i0, ⟨w0, w0, w0⟩, ⟨okR0, okR0, okR0⟩, by decide⟩
theorem awk_m : PlainM ⟨258, [112, 117, 116], []⟩ := ⟨by decide, by decide, ⟨fun v hv => (by cases hv), by decide, by decide⟩⟩
theorem awk_fv : formV ⟨4, 0, 0, 0, 0, [97, 98]⟩ = [4, 0, 2, 97, 98] := by decide
theorem awk_fm : formM ⟨258, [112, 117, 116], []⟩ = [0, 0, 1, 2, 3, 112, 117, 116, 0] := by decide
theorem awk_r1 : rdV [4, 0, 1, 97, 98] = some (⟨4, 0, 0, 0, 0, [97]⟩, 4) := by rfl
theorem awk_r2 : rdV [5, 0] = none := by rfl
theorem awk_value (w : World) : Calls Try.prog 20 #[.agg #[.int .i64 4, .int .i64 0, .float .f64 0, .complex .f64 0 0, .string ⟨#[97, 98]⟩]] w (WrA w [4, 0, 2, 97, 98]) := by
  have := wValue_any ⟨4, 0, 0, 0, 0, [97, 98]⟩ awk_v w
  rw [awk_fv] at this
  exact this
theorem awk_message (w : World) : Calls Try.prog 24 #[.agg #[.int .i64 258, .string ⟨#[112, 117, 116]⟩, .slice none 0 0]] w (WrA w [0, 0, 1, 2, 3, 112, 117, 116, 0]) := by
  have := wMessage_any ⟨258, [112, 117, 116], []⟩ awk_m none 0 0 w (World.ownsRow_nil _ _ _ _)
  rw [awk_fm] at this
  exact this
theorem awk_read1 (a : Option Addr) (w : World) (ht : Txt w a 5 5 [4, 0, 1, 97, 98]) : Calls Try.prog 7 #[.slice a 5 5] w fun e w' => e = .returned (.tuple #[.agg #[.int .i64 4, .int .i64 0, .float .f64 0, .complex .f64 0 0, .string ⟨#[97]⟩], .int .i64 4, .int .i64 0]) ∧ Below w.heap.size w w' := by
  have := readValue_any a 5 5 _ w ht
  rw [awk_r1] at this
  exact this
theorem awk_read2 (a : Option Addr) (w : World) (ht : Txt w a 2 2 [5, 0]) : Calls Try.prog 7 #[.slice a 2 2] w fun e w' => e = .returned (.tuple #[.agg #[.int .i64 0, .int .i64 0, .float .f64 0, .complex .f64 0 0, .string ⟨#[]⟩], .int .i64 0, .int .i64 110]) ∧ Below w.heap.size w w' := by
  have := readValue_any a 2 2 _ w ht
  rw [awk_r2] at this
  exact this
set_option maxHeartbeats 8000000 in
theorem awake_any (w : World) : Calls Try.prog 19 #[] w fun e w' => e = .returned (.bool true) ∧ Below w.heap.size w w' := by
  have sf : ∀ (p : Addr) (b : Nat) (mo : Mode) (w' : World), (store p (.float .f64 b) mo).run Try.prog w' = stored Try.prog w' p (.float .f64 b) mo := fun p b mo w' => run_store _ w' p _ mo rfl
  have sc : ∀ (p : Addr) (b c : Nat) (mo : Mode) (w' : World), (store p (.complex .f64 b c) mo).run Try.prog w' = stored Try.prog w' p (.complex .f64 b c) mo := fun p b c mo w' => run_store _ w' p _ mo rfl
  have h1 := awk_value w
  unfold WrA at h1
  have H1 := Lib.hid h1
  clear h1
  go_enter Try.func19, Try.ntmps19
  go_upto_region 2 with (go_at_call 20; (refine H1.out.mono ?_); rintro e w1 ⟨a1, c1, rfl, ho1, hb1⟩; have HO1 := Lib.hid ho1; have HB1 := Lib.hid hb1; clear ho1 hb1)
  have h2 := awk_message w1
  unfold WrA at h2
  have H2 := Lib.hid h2
  clear h2
  go_upto_region 3 with (go_at_call 24; (refine H2.out.mono ?_); rintro e w2 ⟨a2, c2, rfl, ho2, hb2⟩; have HO2 := Lib.hid ho2; have HB2 := Lib.hid (HB1.out.trans (hb2.mono HB1.out.size)); have HO12 := Lib.hid (own_keep9 HO1.out hb2); have HS2 := Lib.hid (show w.heap.size ≤ w1.heap.size from HB1.out.size); clear ho2 hb2)
  clear H1 H2 HO1
  obtain ⟨W2, hW2⟩ : ∃ W2, W2 = w2.alloc (.cells #[.int .u8 4, .int .u8 0, .int .u8 1, .int .u8 97, .int .u8 98] 5) := ⟨_, rfl⟩
  have hba : Below w2.heap.size w2 W2 := by rw [hW2]; exact (Below.refl _ w2).alloc (Nat.le_refl _) _
  have hx2 : Bk W2 w2.heap.size 5 (u8s [4, 0, 1, 97, 98]) := by rw [hW2]; exact Bk.new w2 _ _
  have H3 := Lib.hid (awk_read1 (some ⟨w2.heap.size, 0, none⟩) W2 (hx2.txt (by decide)))
  have HO2a := Lib.hid (own_keep9 HO2.out hba)
  have HO1a := Lib.hid (own_keep9 HO12.out hba)
  have HBa := Lib.hid (HB2.out.trans (hba.mono HB2.out.size))
  have HW2 := Lib.hid hW2
  clear hW2 hba hx2 HO2 HO12 HB2
  go_upto_region 4 with (go_at_call 7; (rw [← HW2.out]); (refine H3.out.mono ?_); rintro e w3 ⟨rfl, hb3⟩; have HB3 := Lib.hid (HBa.out.trans (hb3.mono HBa.out.size)); have HO13 := Lib.hid (own_keep9 HO1a.out hb3); have HO23 := Lib.hid (own_keep9 HO2a.out hb3); clear hb3)
  obtain ⟨W3, hW3⟩ : ∃ W3, W3 = w3.alloc (.cells #[.int .i64 4, .int .i64 0, .float .f64 0, .complex .f64 0 0, .string ⟨#[97]⟩] 27) := ⟨_, rfl⟩
  have hba : Below w3.heap.size w3 W3 := by rw [hW3]; exact (Below.refl _ w3).alloc (Nat.le_refl _) _
  have hx3 : Bk W3 w3.heap.size 27 [.int .i64 4, .int .i64 0, .float .f64 0, .complex .f64 0 0, .string ⟨#[97]⟩] := by rw [hW3]; exact Bk.new w3 _ _
  have HX3 := Lib.hid hx3
  have HO1b := Lib.hid (own_keep9 HO13.out hba)
  have HO2b := Lib.hid (own_keep9 HO23.out hba)
  have HBb := Lib.hid (HB3.out.trans (hba.mono HB3.out.size))
  rw [← hW3]
  clear hW3 hba hx3 HO13 HO23 HB3 H3 HW2 HO1a HO2a HBa
  generalize w3.heap.size = XV at *
  obtain ⟨W4, hW4⟩ : ∃ W4, W4 = W3.alloc (.cells #[.int .u8 5, .int .u8 0] 5) := ⟨_, rfl⟩
  have hba : Below W3.heap.size W3 W4 := by rw [hW4]; exact (Below.refl _ W3).alloc (Nat.le_refl _) _
  have hx4 : Bk W4 W3.heap.size 5 (u8s [5, 0]) := by rw [hW4]; exact Bk.new W3 _ _
  have H4 := Lib.hid (awk_read2 (some ⟨W3.heap.size, 0, none⟩) W4 (hx4.txt (by decide)))
  have HX4 := Lib.hid (HX3.out.keep hba HX3.out.lt)
  have HO1c := Lib.hid (own_keep9 HO1b.out hba)
  have HO2c := Lib.hid (own_keep9 HO2b.out hba)
  have HBc := Lib.hid (HBb.out.trans (hba.mono HBb.out.size))
  have HW4 := Lib.hid hW4
  clear hW4 hba hx4 HO1b HO2b HBb HX3
  go_upto_region 5 with (go_at_call 7; (rw [← HW4.out]); (refine H4.out.mono ?_); rintro e w5 ⟨rfl, hb5⟩; have HB5 := Lib.hid (HBc.out.trans (hb5.mono HBc.out.size)); have HO15 := Lib.hid (own_keep9 HO1c.out hb5); have HO25 := Lib.hid (own_keep9 HO2c.out hb5); have HX5 := Lib.hid (HX4.out.keep hb5 HX4.out.lt); clear hb5)
  obtain ⟨W5, hW5⟩ : ∃ W5, W5 = w5.alloc (.cells #[.int .i64 0, .int .i64 0, .float .f64 0, .complex .f64 0 0, .string ⟨#[]⟩] 27) := ⟨_, rfl⟩
  have hba : Below w5.heap.size w5 W5 := by rw [hW5]; exact (Below.refl _ w5).alloc (Nat.le_refl _) _
  have hx := HX5.out.keep hba HX5.out.lt
  have t1 := text_of (txt_of_owned (l := [4, 0, 2, 97, 98]) (own_keep9 HO15.out hba))
  have t2 := text_of (txt_of_owned (l := [0, 0, 1, 2, 3, 112, 117, 116, 0]) (own_keep9 HO25.out hba))
  simp only [List.length_cons, List.length_nil, Nat.reduceAdd] at t1 t2
  have x4 := hx.c 4 rfl
  have HB6 := Lib.hid (HB5.out.trans (hba.mono HB5.out.size))
  rw [← hW5]
  clear hW5 hba hx
  go_wp2_with fail
  go_ret
  exact ⟨rfl, HB6.out⟩
end Go.Proofs.Ytloofajopgbfmaa
