/- Wire: bytes that are added: a real, a value. -/
import Derived.Test.YtloofajopgbfmaaWjAdd
import Derived.Lib.AppendStr
namespace Go.Proofs.Ytloofajopgbfmaa
set_option linter.all false
open Go.RowKit
set_option maxRecDepth 100000
set_option maxHeartbeats 4000000 in
theorem addReal_any (B : Nat) (v : Value) (n f : Nat) (xs : List UInt8) (hf : f < 18446744073709551616) (w : World) (hown : w.ownsRow B 5 1 v n (u8s xs)) (hn : n ≤ 100000) (hB : B ≤ w.heap.size) :
    Calls Try.prog 53 #[v, .float .f64 f] w (AdP B w (n + 8) (xs ++ beW 8 (bitsW f))) := by
  have hby := fun W => realBytes_any f hf W
  obtain ⟨b0, b1, b2, b3, b4, b5, b6, b7, hbe⟩ := beW8 (bitsW f)
  rw [hbe] at hby ⊢
  simp only [agB, u8s, List.map_cons, List.map_nil] at hby
  have HBY := Lib.hid hby
  obtain ⟨i0, hi, hz0, hz1, hz2⟩ := info_parts3 info5
  have hal : Try.prog.arrayLen 69 = 8 := by simp [Program.arrayLen, Try.underlying69]
  have hsl : ∀ (G : Nat) W, (Instr.sliceAt 69 (.pointer (some ⟨G, 0, none⟩)) none none none).run Try.prog W = .ok (.slice (some ⟨G, 0, none⟩) 8 8) W := fun G W => by
    rw [run_sliceAt_array_all W 69 ⟨G, 0, none⟩ (by simp [Program.arrayLen, Program.elem, Try.underlying69])]
    rw [hal]
    go_simp
  have HSL := Lib.hid hsl
  have HO := Lib.hid hown
  unfold AdP
  clear hby hal hsl hown hbe
  go_enter Try.func53, Try.ntmps53
  go_upto_region 2 with (go_at_call 48; (with_reducible refine (HBY.out _).mono ?_); rintro e w1 ⟨rfl, hb⟩; have HB1 := Lib.hid hb; clear hb)
  obtain ⟨W2, hW2⟩ : ∃ W2, W2 = w1.alloc (.cells #[.int .u8 b0.toNat, .int .u8 b1.toNat, .int .u8 b2.toNat, .int .u8 b3.toNat, .int .u8 b4.toNat, .int .u8 b5.toNat, .int .u8 b6.toNat, .int .u8 b7.toNat] 69) := ⟨_, rfl⟩
  have hx2 : Bk W2 w1.heap.size 69 (u8s [b0, b1, b2, b3, b4, b5, b6, b7]) := by rw [hW2]; exact Bk.new w1 _ _
  have hba : Below w1.heap.size w1 W2 := by rw [hW2]; exact (Below.refl _ w1).alloc (Nat.le_refl _) _
  have HX2 := Lib.hid hx2
  have HB2 := Lib.hid (HB1.out.trans (hba.mono HB1.out.size))
  have HO2 := Lib.hid (own_keep9 (own_keep9 HO.out HB1.out) hba)
  have hsl := fun W => HSL.out w1.heap.size W
  rw [← hW2]
  clear hW2 hx2 hba
  have hnews : ∀ j u, (u8s [b0, b1, b2, b3, b4, b5, b6, b7])[j]? = some u → W2.cell? ((⟨w1.heap.size, 0, none⟩ : Addr).add j) = some u := fun j u hj => by
    have hadd : (⟨w1.heap.size, 0, none⟩ : Addr).add j = ⟨w1.heap.size, j, none⟩ := by unfold Addr.add; split <;> simp_all
    rw [hadd]
    exact HX2.out.c _ hj
  have HNW := Lib.hid hnews
  clear hnews
  go_wp2_with (at_builtin; refine wpList_append_own _ rfl (.tmp 8) (.tmp 9) 22 rfl B 5 i0 (.int .u8 0) 1 1 Try.underlying22 hi hz0 hz1 hz2 rfl (by decide) v n (u8s xs) rfl HO2.out ⟨w1.heap.size, 0, none⟩ 8 8 (u8s [b0, b1, b2, b3, b4, b5, b6, b7]) rfl rfl HNW.out (u8s_one _) (by unfold maxLen; omega) (by omega) (Nat.le_trans hB HB2.out.size) ?_; intro v3 w3 hown3 hgrow3 hnil3)
  have HO3 := Lib.hid hown3
  have HK3 := Lib.hid ((KT.of_below HB2.out).trans (KT.of_grown HO2.out hgrow3))
  have HB3 := Lib.hid (((HB2.out.mono hB)).grown hgrow3 (Nat.le_trans hB HB2.out.size) (fun g hg => (HO2.out.lt g hg).1))
  clear hown3 hgrow3 hnil3
  go_wp2
  go_ret
  exact ⟨v3, rfl, by rw [u8s_append]; exact HO3.out, HB3.out, HK3.out⟩
end Go.Proofs.Ytloofajopgbfmaa
