/- Wire: bytes that are added: numbers, reals. -/
import Derived.Test.YtloofajopgbfmaaWjRdM
namespace Go.Proofs.Ytloofajopgbfmaa
set_option linter.all false
open Go.RowKit
set_option maxRecDepth 100000
/-- all blocks that are no bytes are as they were -/
def KT (w w' : World) : Prop := ∀ (b : Nat) (cs : Array Value) (t : TypeId) (fr : Nat × Nat), t ≠ 5 → w.heap[b]? = some (.cells cs t fr) → w'.heap[b]? = some (.cells cs t fr)
theorem KT.refl (w : World) : KT w w := fun _ _ _ _ _ h => h
theorem KT.trans {a b c : World} (h : KT a b) (k : KT b c) : KT a c := fun x cs t fr ht hx => k x cs t fr ht (h x cs t fr ht hx)
theorem KT.of_below {w w' : World} (h : Below w.heap.size w w') : KT w w' := fun x cs t fr _ hx => (h.block x (by
  rcases Nat.lt_or_ge x w.heap.size with h' | h'
  · exact h'
  · rw [Array.getElem?_eq_none h'] at hx; cases hx)).trans hx
theorem KT.of_grown {w w' : World} {B n : Nat} {v : Value} {xs : List Value} (h : w.ownsRow B 5 1 v n xs) (hg : w.grownBy w' v.ownBlock) : KT w w' := fun x cs t fr ht hx => (hg.block x (by
  rcases Nat.lt_or_ge x w.heap.size with h' | h'
  · exact h'
  · rw [Array.getElem?_eq_none h'] at hx; cases hx) (fun e => by
    rcases h.2 with ⟨hv, _⟩ | ⟨g, cap, cur, hv, _, hgg, _⟩
    · rw [hv] at e; cases e
    · rw [hv] at e
      cases e
      rw [hgg] at hx
      cases hx
      exact ht rfl)).trans hx
theorem Bk.kt {w w' : World} {g : Nat} {T : TypeId} {cs : List Value} (h : Bk w g T cs) (hT : T ≠ 5) (hk : KT w w') : Bk w' g T cs := hk g _ T _ hT h
/-- a row of bytes of the call's own, longer -/
def AdP (B : Nat) (w : World) (n : Nat) (l : List UInt8) (e : Ending) (w' : World) : Prop := ∃ v, e = .returned v ∧ w'.ownsRow B 5 1 v n (u8s l) ∧ Below B w w' ∧ KT w w'
theorem info5 : (Try.prog.info? 5).map (fun i => (i.zero, i.size, i.bytes)) = some (some (.int .u8 0), 1, 1) := by kernel_rfl
set_option maxHeartbeats 4000000 in
theorem addNumber_any (k B : Nat) (hk : k = 1 ∨ k = 2 ∨ k = 4 ∨ k = 8) (v : Value) (n m : Nat) (xs : List UInt8) (hm : m < 18446744073709551616) (w : World) (hown : w.ownsRow B 5 1 v n (u8s xs)) (hn : n ≤ 100000) (hB : B ≤ w.heap.size) :
    Calls Try.prog 46 #[v, .int .u64 m, .int .i64 k] w (AdP B w (n + k) (xs ++ beW k m)) := by
  have hby := fun W => bytesOf_any m hm W
  obtain ⟨b0, b1, b2, b3, b4, b5, b6, b7, hbe⟩ := beW8 m
  have hb1 : beW 1 m = [b7] := by have : beW 1 m = (beW 8 m).drop 7 := rfl; rw [this, hbe]; rfl
  have hb2 : beW 2 m = [b6, b7] := by have : beW 2 m = (beW 8 m).drop 6 := rfl; rw [this, hbe]; rfl
  have hb4 : beW 4 m = [b4, b5, b6, b7] := by have : beW 4 m = (beW 8 m).drop 4 := rfl; rw [this, hbe]; rfl
  rw [hbe] at hby
  simp only [agB, u8s, List.map_cons, List.map_nil] at hby
  have HBY := Lib.hid hby
  obtain ⟨i0, hi, hz0, hz1, hz2⟩ := info_parts3 info5
  have hal : Try.prog.arrayLen 69 = 8 := by simp [Program.arrayLen, Try.underlying69]
  have hsl : ∀ (G j : Nat) W, j < 8 → (Instr.sliceAt 69 (.pointer (some ⟨G, 0, none⟩)) (some (.int .i64 (j : Int))) none none).run Try.prog W = .ok (.slice (some ⟨G, j, none⟩) (8 - j) (8 - j)) W := fun G j W hj => by
    rw [run_sliceAt_array_l W 69 ⟨G, 0, none⟩ (by simp [Program.arrayLen, Program.elem, Try.underlying69]) .i64 j (by omega) (by rw [hal]; omega)]
    rw [hal]
    go_simp
    omega
  have HSL := Lib.hid hsl
  have HO := Lib.hid hown
  unfold AdP
  clear hby hal hsl hown
  rcases hk with rfl | rfl | rfl | rfl
  · rw [hb1]
    clear hbe hb1 hb2 hb4
    go_enter Try.func46, Try.ntmps46
    go_upto_region 2 with (go_at_call 57; (with_reducible refine (HBY.out _).mono ?_); rintro e w1 ⟨rfl, hb⟩; have HB1 := Lib.hid hb; clear hb)
    obtain ⟨W2, hW2⟩ : ∃ W2, W2 = w1.alloc (.cells #[.int .u8 b0.toNat, .int .u8 b1.toNat, .int .u8 b2.toNat, .int .u8 b3.toNat, .int .u8 b4.toNat, .int .u8 b5.toNat, .int .u8 b6.toNat, .int .u8 b7.toNat] 69) := ⟨_, rfl⟩
    have hx2 : Bk W2 w1.heap.size 69 (u8s [b0, b1, b2, b3, b4, b5, b6, b7]) := by rw [hW2]; exact Bk.new w1 _ _
    have hba : Below w1.heap.size w1 W2 := by rw [hW2]; exact (Below.refl _ w1).alloc (Nat.le_refl _) _
    have HX2 := Lib.hid hx2
    have HB2 := Lib.hid (HB1.out.trans (hba.mono HB1.out.size))
    have HO2 := Lib.hid (own_keep9 (own_keep9 HO.out HB1.out) hba)
    have hsl := fun W => HSL.out w1.heap.size 7 W (by omega)
    have hsl' : ∀ W, (Instr.sliceAt 69 (.pointer (some ⟨w1.heap.size, 0, none⟩)) (some (.int .i64 7)) none none).run Try.prog W = .ok (.slice (some ⟨w1.heap.size, 7, none⟩) 1 1) W := hsl
    rw [← hW2]
    clear hW2 hx2 hba hsl
    have hnews : ∀ j u, (u8s [b7])[j]? = some u → W2.cell? ((⟨w1.heap.size, 7, none⟩ : Addr).add j) = some u := fun j u hj => by
      have hlt : j < 1 := by
        rcases Nat.lt_or_ge j 1 with h | h
        · exact h
        · rw [List.getElem?_eq_none (by simpa [u8s] using h)] at hj; cases hj
      have hadd : (⟨w1.heap.size, 7, none⟩ : Addr).add j = ⟨w1.heap.size, 7 + j, none⟩ := by unfold Addr.add; split <;> simp_all
      rw [hadd]
      refine HX2.out.c _ ?_
      rw [← hj]
      obtain rfl : j = 0 := by omega
      all_goals rfl
    have HNW := Lib.hid hnews
    clear hnews
    go_wp2_with (at_builtin; refine wpList_append_own _ rfl (.tmp 10) (.tmp 13) 22 rfl B 5 i0 (.int .u8 0) 1 1 Try.underlying22 hi hz0 hz1 hz2 rfl (by decide) v n (u8s xs) rfl HO2.out ⟨w1.heap.size, 7, none⟩ 1 1 (u8s [b7]) rfl rfl HNW.out (u8s_one _) (by unfold maxLen; omega) (by omega) (Nat.le_trans hB HB2.out.size) ?_; intro v3 w3 hown3 hgrow3 hnil3)
    have HO3 := Lib.hid hown3
    have HK3 := Lib.hid ((KT.of_below HB2.out).trans (KT.of_grown HO2.out hgrow3))
    have HB3 := Lib.hid (((HB2.out.mono hB)).grown hgrow3 (Nat.le_trans hB HB2.out.size) (fun g hg => (HO2.out.lt g hg).1))
    clear hown3 hgrow3 hnil3
    go_wp2
    go_ret
    exact ⟨v3, rfl, by rw [u8s_append]; exact HO3.out, HB3.out, HK3.out⟩
  · rw [hb2]
    clear hbe hb1 hb2 hb4
    go_enter Try.func46, Try.ntmps46
    go_upto_region 2 with (go_at_call 57; (with_reducible refine (HBY.out _).mono ?_); rintro e w1 ⟨rfl, hb⟩; have HB1 := Lib.hid hb; clear hb)
    obtain ⟨W2, hW2⟩ : ∃ W2, W2 = w1.alloc (.cells #[.int .u8 b0.toNat, .int .u8 b1.toNat, .int .u8 b2.toNat, .int .u8 b3.toNat, .int .u8 b4.toNat, .int .u8 b5.toNat, .int .u8 b6.toNat, .int .u8 b7.toNat] 69) := ⟨_, rfl⟩
    have hx2 : Bk W2 w1.heap.size 69 (u8s [b0, b1, b2, b3, b4, b5, b6, b7]) := by rw [hW2]; exact Bk.new w1 _ _
    have hba : Below w1.heap.size w1 W2 := by rw [hW2]; exact (Below.refl _ w1).alloc (Nat.le_refl _) _
    have HX2 := Lib.hid hx2
    have HB2 := Lib.hid (HB1.out.trans (hba.mono HB1.out.size))
    have HO2 := Lib.hid (own_keep9 (own_keep9 HO.out HB1.out) hba)
    have hsl := fun W => HSL.out w1.heap.size 6 W (by omega)
    have hsl' : ∀ W, (Instr.sliceAt 69 (.pointer (some ⟨w1.heap.size, 0, none⟩)) (some (.int .i64 6)) none none).run Try.prog W = .ok (.slice (some ⟨w1.heap.size, 6, none⟩) 2 2) W := hsl
    rw [← hW2]
    clear hW2 hx2 hba hsl
    have hnews : ∀ j u, (u8s [b6, b7])[j]? = some u → W2.cell? ((⟨w1.heap.size, 6, none⟩ : Addr).add j) = some u := fun j u hj => by
      have hlt : j < 2 := by
        rcases Nat.lt_or_ge j 2 with h | h
        · exact h
        · rw [List.getElem?_eq_none (by simpa [u8s] using h)] at hj; cases hj
      have hadd : (⟨w1.heap.size, 6, none⟩ : Addr).add j = ⟨w1.heap.size, 6 + j, none⟩ := by unfold Addr.add; split <;> simp_all
      rw [hadd]
      refine HX2.out.c _ ?_
      rw [← hj]
      obtain rfl | rfl : j = 0 ∨ j = 1 := by omega
      all_goals rfl
    have HNW := Lib.hid hnews
    clear hnews
    go_wp2_with (at_builtin; refine wpList_append_own _ rfl (.tmp 10) (.tmp 13) 22 rfl B 5 i0 (.int .u8 0) 1 1 Try.underlying22 hi hz0 hz1 hz2 rfl (by decide) v n (u8s xs) rfl HO2.out ⟨w1.heap.size, 6, none⟩ 2 2 (u8s [b6, b7]) rfl rfl HNW.out (u8s_one _) (by unfold maxLen; omega) (by omega) (Nat.le_trans hB HB2.out.size) ?_; intro v3 w3 hown3 hgrow3 hnil3)
    have HO3 := Lib.hid hown3
    have HK3 := Lib.hid ((KT.of_below HB2.out).trans (KT.of_grown HO2.out hgrow3))
    have HB3 := Lib.hid (((HB2.out.mono hB)).grown hgrow3 (Nat.le_trans hB HB2.out.size) (fun g hg => (HO2.out.lt g hg).1))
    clear hown3 hgrow3 hnil3
    go_wp2
    go_ret
    exact ⟨v3, rfl, by rw [u8s_append]; exact HO3.out, HB3.out, HK3.out⟩
  · rw [hb4]
    clear hbe hb1 hb2 hb4
    go_enter Try.func46, Try.ntmps46
    go_upto_region 2 with (go_at_call 57; (with_reducible refine (HBY.out _).mono ?_); rintro e w1 ⟨rfl, hb⟩; have HB1 := Lib.hid hb; clear hb)
    obtain ⟨W2, hW2⟩ : ∃ W2, W2 = w1.alloc (.cells #[.int .u8 b0.toNat, .int .u8 b1.toNat, .int .u8 b2.toNat, .int .u8 b3.toNat, .int .u8 b4.toNat, .int .u8 b5.toNat, .int .u8 b6.toNat, .int .u8 b7.toNat] 69) := ⟨_, rfl⟩
    have hx2 : Bk W2 w1.heap.size 69 (u8s [b0, b1, b2, b3, b4, b5, b6, b7]) := by rw [hW2]; exact Bk.new w1 _ _
    have hba : Below w1.heap.size w1 W2 := by rw [hW2]; exact (Below.refl _ w1).alloc (Nat.le_refl _) _
    have HX2 := Lib.hid hx2
    have HB2 := Lib.hid (HB1.out.trans (hba.mono HB1.out.size))
    have HO2 := Lib.hid (own_keep9 (own_keep9 HO.out HB1.out) hba)
    have hsl := fun W => HSL.out w1.heap.size 4 W (by omega)
    have hsl' : ∀ W, (Instr.sliceAt 69 (.pointer (some ⟨w1.heap.size, 0, none⟩)) (some (.int .i64 4)) none none).run Try.prog W = .ok (.slice (some ⟨w1.heap.size, 4, none⟩) 4 4) W := hsl
    rw [← hW2]
    clear hW2 hx2 hba hsl
    have hnews : ∀ j u, (u8s [b4, b5, b6, b7])[j]? = some u → W2.cell? ((⟨w1.heap.size, 4, none⟩ : Addr).add j) = some u := fun j u hj => by
      have hlt : j < 4 := by
        rcases Nat.lt_or_ge j 4 with h | h
        · exact h
        · rw [List.getElem?_eq_none (by simpa [u8s] using h)] at hj; cases hj
      have hadd : (⟨w1.heap.size, 4, none⟩ : Addr).add j = ⟨w1.heap.size, 4 + j, none⟩ := by unfold Addr.add; split <;> simp_all
      rw [hadd]
      refine HX2.out.c _ ?_
      rw [← hj]
      obtain rfl | rfl | rfl | rfl : j = 0 ∨ j = 1 ∨ j = 2 ∨ j = 3 := by omega
      all_goals rfl
    have HNW := Lib.hid hnews
    clear hnews
    go_wp2_with (at_builtin; refine wpList_append_own _ rfl (.tmp 10) (.tmp 13) 22 rfl B 5 i0 (.int .u8 0) 1 1 Try.underlying22 hi hz0 hz1 hz2 rfl (by decide) v n (u8s xs) rfl HO2.out ⟨w1.heap.size, 4, none⟩ 4 4 (u8s [b4, b5, b6, b7]) rfl rfl HNW.out (u8s_one _) (by unfold maxLen; omega) (by omega) (Nat.le_trans hB HB2.out.size) ?_; intro v3 w3 hown3 hgrow3 hnil3)
    have HO3 := Lib.hid hown3
    have HK3 := Lib.hid ((KT.of_below HB2.out).trans (KT.of_grown HO2.out hgrow3))
    have HB3 := Lib.hid (((HB2.out.mono hB)).grown hgrow3 (Nat.le_trans hB HB2.out.size) (fun g hg => (HO2.out.lt g hg).1))
    clear hown3 hgrow3 hnil3
    go_wp2
    go_ret
    exact ⟨v3, rfl, by rw [u8s_append]; exact HO3.out, HB3.out, HK3.out⟩
  · rw [hbe]
    clear hbe hb1 hb2 hb4
    go_enter Try.func46, Try.ntmps46
    go_upto_region 2 with (go_at_call 57; (with_reducible refine (HBY.out _).mono ?_); rintro e w1 ⟨rfl, hb⟩; have HB1 := Lib.hid hb; clear hb)
    obtain ⟨W2, hW2⟩ : ∃ W2, W2 = w1.alloc (.cells #[.int .u8 b0.toNat, .int .u8 b1.toNat, .int .u8 b2.toNat, .int .u8 b3.toNat, .int .u8 b4.toNat, .int .u8 b5.toNat, .int .u8 b6.toNat, .int .u8 b7.toNat] 69) := ⟨_, rfl⟩
    have hx2 : Bk W2 w1.heap.size 69 (u8s [b0, b1, b2, b3, b4, b5, b6, b7]) := by rw [hW2]; exact Bk.new w1 _ _
    have hba : Below w1.heap.size w1 W2 := by rw [hW2]; exact (Below.refl _ w1).alloc (Nat.le_refl _) _
    have HX2 := Lib.hid hx2
    have HB2 := Lib.hid (HB1.out.trans (hba.mono HB1.out.size))
    have HO2 := Lib.hid (own_keep9 (own_keep9 HO.out HB1.out) hba)
    have hsl := fun W => HSL.out w1.heap.size 0 W (by omega)
    have hsl' : ∀ W, (Instr.sliceAt 69 (.pointer (some ⟨w1.heap.size, 0, none⟩)) (some (.int .i64 0)) none none).run Try.prog W = .ok (.slice (some ⟨w1.heap.size, 0, none⟩) 8 8) W := hsl
    rw [← hW2]
    clear hW2 hx2 hba hsl
    have hnews : ∀ j u, (u8s [b0, b1, b2, b3, b4, b5, b6, b7])[j]? = some u → W2.cell? ((⟨w1.heap.size, 0, none⟩ : Addr).add j) = some u := fun j u hj => by
      have hlt : j < 8 := by
        rcases Nat.lt_or_ge j 8 with h | h
        · exact h
        · rw [List.getElem?_eq_none (by simpa [u8s] using h)] at hj; cases hj
      have hadd : (⟨w1.heap.size, 0, none⟩ : Addr).add j = ⟨w1.heap.size, 0 + j, none⟩ := by unfold Addr.add; split <;> simp_all
      rw [hadd]
      refine HX2.out.c _ ?_
      rw [← hj]
      obtain rfl | rfl | rfl | rfl | rfl | rfl | rfl | rfl : j = 0 ∨ j = 1 ∨ j = 2 ∨ j = 3 ∨ j = 4 ∨ j = 5 ∨ j = 6 ∨ j = 7 := by omega
      all_goals rfl
    have HNW := Lib.hid hnews
    clear hnews
    go_wp2_with (at_builtin; refine wpList_append_own _ rfl (.tmp 10) (.tmp 13) 22 rfl B 5 i0 (.int .u8 0) 1 1 Try.underlying22 hi hz0 hz1 hz2 rfl (by decide) v n (u8s xs) rfl HO2.out ⟨w1.heap.size, 0, none⟩ 8 8 (u8s [b0, b1, b2, b3, b4, b5, b6, b7]) rfl rfl HNW.out (u8s_one _) (by unfold maxLen; omega) (by omega) (Nat.le_trans hB HB2.out.size) ?_; intro v3 w3 hown3 hgrow3 hnil3)
    have HO3 := Lib.hid hown3
    have HK3 := Lib.hid ((KT.of_below HB2.out).trans (KT.of_grown HO2.out hgrow3))
    have HB3 := Lib.hid (((HB2.out.mono hB)).grown hgrow3 (Nat.le_trans hB HB2.out.size) (fun g hg => (HO2.out.lt g hg).1))
    clear hown3 hgrow3 hnil3
    go_wp2
    go_ret
    exact ⟨v3, rfl, by rw [u8s_append]; exact HO3.out, HB3.out, HK3.out⟩
end Go.Proofs.Ytloofajopgbfmaa
