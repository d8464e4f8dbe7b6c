/- The walks of oneForm and scaled. -/
import Derived.Test.YtddeoemkjedonaaGreatDoorRows
import Derived.Test.YtddeoemkjedonaaGreatDoorMQuotePlain
import Derived.Test.YtddeoemkjedonaaGreatDoorMTextWalks
import Derived.Test.YtddeoemkjedonaaGreatDoorWhole
import Derived.Test.YtddeoemkjedonaaGreatDoorLdexp
import Derived.Test.YtddeoemkjedonaaGreatDoorShelf
import Derived.WalkKit
import Derived.WalkSpells
import Derived.WalkLawsBesides
import Derived.Lib.Hide
import Derived.Lib.BytesEntry
import Derived.Shelf.Bytes.SlCut
import Derived.Shelf.Bytes.SlSmallAll
namespace Go.Proofs.YtddeoemkjedonaaGreatDoor
open Go.RowKit
set_option maxRecDepth 100000

theorem bitLenAux_le (f x : Nat) : Lib.bitLenAux f x ≤ f := by
  induction f generalizing x with
  | zero => simp [Lib.bitLenAux]
  | succ f ih => unfold Lib.bitLenAux; split <;> (try have := ih (x / 2)) <;> omega
theorem bitLen_le (x : Nat) : Lib.bitLen x ≤ 64 := bitLenAux_le 64 x
theorem len64_any (m : Int) (w : World) (h0 : 0 ≤ m) (h1 : m ≤ 18446744073709551615) :
    Calls Tryz.prog 95 #[.int .u64 m] w fun e w' => e = .returned (.int .i64 (Lib.bitLen m.toNat)) ∧ w = w' :=
  (Tryz.bits_Len64 m w h0 h1).mono fun e w' ⟨he, hw⟩ => ⟨he, hw.symm⟩

theorem oneForm_any (m e : Int) (w : World) (hm : 0 ≤ m ∧ m ≤ 9223372036854775807) (he : -9223372036854775807 ≤ e ∧ e ≤ 9223372036854775807) :
    Calls Tryz.prog 76 #[.int .i64 m, .int .i64 e] w fun x w' => x = .returned (.bool (oneFormB m e)) ∧ w = w' := by
  obtain ⟨hm0, hm1⟩ := hm
  unfold oneFormB
  by_cases h0 : m = 0
  · subst h0
    rw [if_pos rfl]
    cases hz : (e == 0)
    · have : decide (e = 0) = false := by simpa using hz
      rw [this]
      go_enter Tryz.func76, Tryz.ntmps76
      go_wp2
      go_ret
      exact ⟨rfl, rfl⟩
    · have : decide (e = 0) = true := by simpa using hz
      rw [this]
      go_enter Tryz.func76, Tryz.ntmps76
      go_wp2
      go_ret
      exact ⟨rfl, rfl⟩
  · rw [if_neg h0]
    have z0 : (m == 0) = false := by simpa using h0
    by_cases h1 : m % 2 = 0
    · rw [if_pos (.inl h1)]
      have z1 : (m % 2 == 0) = true := by simpa using h1
      clear h0 h1
      go_enter Tryz.func76, Tryz.ntmps76
      go_wp2
      go_ret
      exact ⟨rfl, rfl⟩
    · have z1 : (m % 2 == 0) = false := by simpa using h1
      by_cases h2 : 9007199254740992 ≤ m
      · rw [if_pos (.inr (.inl h2))]
        have z2 : decide ((9007199254740992 : Int) ≤ m) = true := by simpa using h2
        clear h0 h1 h2
        go_enter Tryz.func76, Tryz.ntmps76
        go_wp2
        go_ret
        exact ⟨rfl, rfl⟩
      · have z2 : decide ((9007199254740992 : Int) ≤ m) = false := by simpa using h2
        by_cases h3 : e < -1074
        · rw [if_pos (.inr (.inr (.inl h3)))]
          have z3 : decide (e < -1074) = true := by simpa using h3
          clear h0 h1 h2 h3
          go_enter Tryz.func76, Tryz.ntmps76
          go_wp2
          go_ret
          exact ⟨rfl, rfl⟩
        · have z3 : decide (e < -1074) = false := by simpa using h3
          by_cases h4 : 1023 < e
          · rw [if_pos (.inr (.inr (.inr h4)))]
            have z4 : decide (1023 < e) = true := by simpa using h4
            clear h0 h1 h2 h3 h4
            go_enter Tryz.func76, Tryz.ntmps76
            go_wp2
            go_ret
            exact ⟨rfl, rfl⟩
          · have z4 : decide (1023 < e) = false := by simpa using h4
            have hcond : ¬ (m % 2 = 0 ∨ 9007199254740992 ≤ m ∨ e < -1074 ∨ 1023 < e) := by omega
            rw [if_neg hcond]
            have hbl := bitLen_le m.toNat
            have hlo : -1074 ≤ e := by omega
            have hhi : e ≤ 1023 := by omega
            clear h0 h1 h2 h3 h4 hcond
            go_enter Tryz.func76, Tryz.ntmps76
            go_wp2_with (go_at_call 95; refine (len64_any m _ hm0 (by omega)).mono ?_; rintro x w' ⟨rfl, rfl⟩)
            go_ret
            exact ⟨rfl, rfl⟩

theorem bytesOf_ints (l : List UInt8) : Lib.bytesOf (l.map fun b => (b.toNat : Int)) = l := by
  simp only [Lib.bytesOf, List.map_map]
  conv => rhs; rw [← List.map_id l]
  apply List.map_congr_left
  intro x _
  simp
theorem getD_ints (l : List UInt8) (i : Nat) (h : i < l.length) : (l.map fun b => (b.toNat : Int)).getD i 0 = (l[i].toNat : Int) := by
  rw [List.getD_eq_getElem?_getD, List.getElem?_map, List.getElem?_eq_getElem h]; rfl
theorem indexByte_room (l : List UInt8) (c : UInt8) : Lib.indexByte l c < l.length := by
  induction l with
  | nil => simp [Lib.indexByte]
  | cons b l ih =>
    unfold Lib.indexByte
    split
    · simp only [List.length_cons]; omega
    · split
      · simp only [List.length_cons]; omega
      · simp only [List.length_cons]; omega
theorem bytesIn {w : World} {a : Option Addr} {n cap : Nat} {l : List UInt8} (ht : Txt w a n cap l) : Lib.BytesIn w a n (l.map fun b => (b.toNat : Int)) := by
  obtain ⟨hl, hnc, hm, h4⟩ := ht
  rcases h4 with ⟨rfl, h0, h1⟩ | ⟨x, rfl, hx⟩
  · subst h0; exact Lib.BytesIn.nil _ _ _
  · exact Lib.BytesIn.of_cells fun i hi => by rw [getD_ints l i (by omega)]; exact hx i (by omega)

theorem cut_any (a : Option Addr) (n cap c : Nat) (l : List UInt8) (w : World) (ht : Txt w a n cap l) (hn : n ≤ 140737488351232) (hc : w.cell? ⟨c, 0, none⟩ = some (.int .u8 112)) :
    Calls Tryz.prog 74 #[.slice a n cap, .slice (some ⟨c, 0, none⟩) 1 1] w fun e w' => ∃ a1 n1 c1 a2 n2 c2 t, e = .returned (.tuple #[.slice a1 n1 c1, .slice a2 n2 c2, .bool t]) ∧ Txt w a1 n1 c1 (cutAt l).1 ∧ Txt w a2 n2 c2 (cutAt l).2 ∧ Below w.heap.size w w' := by
  have hl := ht.1
  have hroom := indexByte_room l 112
  have hge := Lib.indexByte_ge l 112
  have hidx : Calls Tryz.prog 93 #[.slice a n cap, .slice (some ⟨c, 0, none⟩) 1 1] w fun e w' => e = .returned (.int .i64 (Lib.indexByte l 112)) ∧ ∃ q, w' = w.drewN q := by
    obtain ⟨_, hnc, hm, h4⟩ := ht
    rcases h4 with ⟨rfl, h0, h1⟩ | ⟨x, rfl, hx⟩
    · subst h0 h1
      obtain rfl : l = [] := List.eq_nil_of_length_eq_zero hl
      refine (Tryz.bytes_Index_one_nil c 0 1 112 w hc).mono ?_
      rintro e w' ⟨rfl, rfl⟩
      exact ⟨rfl, 0, rfl⟩
    · refine (Tryz.bytes_Index_one_at x n cap c 0 1 (l.map fun b => (b.toNat : Int)) 112 w (by simpa using hl) (fun i hi => by rw [getD_ints l i (by omega)]; exact hx i (by omega)) hc).mono ?_
      rintro e w' ⟨rfl, rfl⟩
      exact ⟨by rw [bytesOf_ints]; rfl, 0, rfl⟩
  refine (Tryz.bytes_Cut_of a (some ⟨c, 0, none⟩) n cap 1 1 (Lib.indexByte l 112) w ht.2.1 hge (by omega) (by omega) hidx).mono ?_
  rintro e w' ⟨rfl, q, rfl⟩
  have hb : Below w.heap.size w (w.drewN q) := (Below.refl _ w).trans ⟨rfl, rfl, rfl, Nat.le_refl _, fun _ _ => rfl⟩
  unfold Lib.cutV cutAt
  by_cases h0 : 0 ≤ Lib.indexByte l 112
  · rw [if_pos h0, if_pos h0]
    exact ⟨_, _, _, _, _, _, _, rfl, txt_take _ ht (by omega), txt_drop _ ht (by omega), hb⟩
  · rw [if_neg h0, if_neg h0]
    exact ⟨_, _, _, _, _, _, _, rfl, ht, txt_none w, hb⟩

theorem prefix_any (a : Option Addr) (n cap c : Nat) (r : List UInt8) (w : World) (ht : Txt w a n cap r) (hc : w.cell? ⟨c, 0, none⟩ = some (.int .u8 45)) :
    Calls Tryz.prog 75 #[.slice a n cap, .slice (some ⟨c, 0, none⟩) 1 1] w fun e w' => ∃ a3 n3 c3, e = .returned (.tuple #[.slice a3 n3 c3, .bool (decide (bAt r 0 = 45))]) ∧ Txt w a3 n3 c3 (if bAt r 0 = 45 then r.drop 1 else r) ∧ w = w' := by
  have hl := ht.1
  refine (Tryz.bytes_CutPrefix_all a (some ⟨c, 0, none⟩) n cap 1 1 (r.map fun b => (b.toNat : Int)) [45] w (by simpa using hl) rfl ht.2.1 (bytesIn ht) (Lib.BytesIn.of_cells fun i hi => by
    obtain rfl : i = 0 := by omega
    simpa [Addr.add] using hc)).mono ?_
  rintro e w' ⟨rfl, rfl⟩
  have hp : Lib.hasPrefix (Lib.bytesOf (r.map fun b => (b.toNat : Int))) (Lib.bytesOf [45]) = decide (bAt r 0 = 45) := by
    rw [bytesOf_ints]
    cases r with
    | nil => rfl
    | cons x t =>
      show ((45 : UInt8) == x && true) = decide (bAt (x :: t) 0 = 45)
      have : bAt (x :: t) 0 = x := rfl
      rw [this, Bool.and_true]
      by_cases h : x = 45
      · subst h; rfl
      · rw [decide_eq_false h, beq_eq_false_iff_ne]; exact fun e => h e.symm
  rw [hp]
  by_cases h : bAt r 0 = 45
  · have hr : 0 < r.length := bAt_pos (by rw [h]; decide)
    obtain ⟨_, hnc, hm, h4⟩ := id ht
    rcases h4 with ⟨_, h0, _⟩ | ⟨x, rfl, hx⟩
    · omega
    · obtain ⟨b, o, s⟩ := x
      obtain ⟨rfl, hcells⟩ := hx.spot hr
      have hv : Lib.trimPrefixV (some ⟨b, o, none⟩) n cap (r.map fun b => (b.toNat : Int)) [45] = .slice (if cap = 1 then some ⟨b, o, none⟩ else some ⟨b, o + 1, none⟩) (n - 1) (cap - 1) := by
        show Lib.bytesTrimPrefix b o n cap _ _ = _
        unfold Lib.bytesTrimPrefix
        rw [hp, decide_eq_true h]
        rfl
      rw [hv, if_pos h]
      have := txt_drop 1 ht (by omega)
      have he : (if cap = 1 then some (⟨b, o, none⟩ : Addr) else (some (⟨b, o, none⟩ : Addr)).map (·.add 1)) = if cap = 1 then some ⟨b, o, none⟩ else some ⟨b, o + 1, none⟩ := by
        split
        · rfl
        · simp [Addr.add]
      rw [he] at this
      exact ⟨_, _, _, rfl, this, rfl⟩
  · have hv : Lib.trimPrefixV a n cap (r.map fun b => (b.toNat : Int)) [45] = .slice a n cap := by
      unfold Lib.trimPrefixV
      split
      · rename_i b o y t heq
        unfold Lib.bytesTrimPrefix
        rw [hp, decide_eq_false h]
        rfl
      · rfl
    rw [hv, if_neg h]
    exact ⟨_, _, _, rfl, ht, rfl⟩

/-- Ldexp, as a premise -/
def LdexpSaid : Prop := ∀ (m e : Int) (w : World), 0 ≤ m → oneFormB m e = true →
  Calls Tryz.prog 77 #[.float .f64 (floatOfInt .f64 m), .int .i64 e] w fun x w' => x = .returned (.float .f64 (realBits m e)) ∧ w = w'

def scaledV : Option (Int × Int) → Value
  | some (m, e) => .tuple #[.float .f64 (realBits m e), .int .i64 0]
  | none => .tuple #[.float .f64 0, .int .i64 12]

/-- the digits ahead of the p are digits -/
def ScaledOk (l : List UInt8) : Prop := ∀ m, wholeF (cutAt l).1 = some m → 0 ≤ m
def eOk (l : List UInt8) : Prop := ∀ e, wholeF (if bAt (cutAt l).2 0 = 45 then (cutAt l).2.drop 1 else (cutAt l).2) = some e → 0 ≤ e

set_option maxHeartbeats 1000000 in
theorem scaled_any (a : Option Addr) (n cap : Nat) (l : List UInt8) (w : World) (hF : LdexpSaid) (ht : Txt w a n cap l) (hn : n ≤ 140737488351232) (hg : Glob w) (hok : ScaledOk l) (heok : eOk l) :
    Calls Tryz.prog 53 #[.slice a n cap] w fun x w' => x = .returned (scaledV (scaledF l)) ∧ Below w.heap.size w w' := by
  have HF := Lib.hid hF
  have HT := Lib.hid ht
  have HG := Lib.hid hg
  have hcl : (cutAt l).1.length ≤ l.length ∧ (cutAt l).2.length ≤ l.length := by
    unfold cutAt; split <;> simp <;> omega
  have hl := ht.1
  have HCL := Lib.hid hcl
  clear hF ht hg hcl
  go_enter Tryz.func53, Tryz.ntmps53
  go_wp2_with fail
  refine (cut_any a n cap w.heap.size l _ (HT.out.below ((Below.refl w.heap.size w).alloc (Nat.le_refl _) _) (Nat.le_refl _)) hn (by simp)).mono ?_
  rintro x w1 ⟨a1, n1, c1, a2, n2, c2, t, rfl, ht1, ht2, hb1⟩
  have hb01 : Below w.heap.size w w1 := ((Below.refl w.heap.size w).alloc (Nat.le_refl _) _).trans (hb1.mono (by simp))
  have hz1 := hb01.size
  have hb1s := hb1.size
  have HB01 := Lib.hid hb01
  have HT1 := Lib.hid (ht1.below hb1 (Nat.le_refl _))
  have HT2 := Lib.hid (ht2.below hb1 (Nat.le_refl _))
  clear ht1 ht2 hb1 hb01
  go_wp2_with fail
  refine (prefix_any a2 n2 c2 w1.heap.size (cutAt l).2 _ (HT2.out.below ((Below.refl w1.heap.size w1).alloc (Nat.le_refl _) _) (Nat.le_refl _)) (by simp)).mono ?_
  rintro x w2' ⟨a3, n3, c3, rfl, ht3, hw2⟩
  obtain ⟨w2, hw2'⟩ : ∃ w2, w2 = w1.alloc (Obj.cells #[Value.int IntKind.u8 45] 5) := ⟨_, rfl⟩
  rw [← hw2'] at hw2 ht3
  subst hw2
  have hb12 : Below w1.heap.size w1 w2 := by rw [hw2']; exact (Below.refl w1.heap.size w1).alloc (Nat.le_refl _) _
  clear hw2'
  have hb02 : Below w.heap.size w w2 := HB01.out.trans (hb12.mono hz1)
  have hz2 := hb02.size
  have hz12 := hb12.size
  have HT3 := Lib.hid ht3
  have hn1 : n1 ≤ 140737488351232 := by have := HT1.out.1; have := HCL.out.1; omega
  have hn3 : n3 ≤ 140737488351232 := by
    have h1 := HT3.out.1
    have h2 := HCL.out.2
    split at h1 <;> (try simp at h1) <;> omega
  have hw1c := Lib.hid (whole_any a1 n1 c1 _ w2 (HT1.out.below hb12 (Nat.le_refl _)) hn1 (HG.out.below hb02 (Nat.le_refl _)))
  have HB02 := Lib.hid hb02
  have HB12 := Lib.hid hb12
  clear hb02 hb12 ht3
  have KE : ∀ w3, Below w2.heap.size w2 w3 → Calls Tryz.prog 52 #[.slice a3 n3 c3] w3 fun e w' => e = .returned (wholeV (wholeF (if bAt (cutAt l).2 0 = 45 then (cutAt l).2.drop 1 else (cutAt l).2))) ∧ Below w3.heap.size w3 w' :=
    fun w3 hb => whole_any a3 n3 c3 _ w3 (HT3.out.below hb (Nat.le_refl _)) hn3 ((HG.out.below HB02.out (Nat.le_refl _)).below hb (Nat.le_refl _))
  have HKE := Lib.hid KE
  clear KE
  have FIN : Hid (∀ v, v = scaledV (scaledF l) → Ending.returned v = Ending.returned (scaledV (scaledF l))) := fun v h => by rw [h]
  have hsc : scaledF l = match wholeF (cutAt l).1, wholeF (if bAt (cutAt l).2 0 = 45 then (cutAt l).2.drop 1 else (cutAt l).2) with
    | some m, some e => if bAt (cutAt l).2 0 = 45 then (if e = 0 then none else if oneFormB m (-e) = true then some (m, -e) else none) else if oneFormB m e = true then some (m, e) else none
    | _, _ => none := rfl
  have HSC := Lib.hid hsc
  have hok' := hok
  have heok' := heok
  unfold ScaledOk at hok'
  unfold eOk at heok'
  clear hsc hok heok
  cases hM : wholeF (cutAt l).1 with
  | none =>
    have HM := Lib.hid hM
    have K1 : Calls Tryz.prog 52 #[.slice a1 n1 c1] w2 fun e w' => e = .returned (.tuple #[.int .i64 0, .int .i64 12]) ∧ Below w2.heap.size w2 w' := by have := hw1c.out; rw [hM] at this; exact this
    have HK1 := Lib.hid K1
    clear K1 hM hok' heok'
    go_wp2_with fail
    refine HK1.out.mono ?_
    rintro x w3 ⟨rfl, hb3⟩
    have HB3 := Lib.hid hb3
    clear hb3
    cases hE : wholeF (if bAt (cutAt l).2 0 = 45 then (cutAt l).2.drop 1 else (cutAt l).2) with
    | none =>
      have K2 : Calls Tryz.prog 52 #[.slice a3 n3 c3] w3 fun e w' => e = .returned (.tuple #[.int .i64 0, .int .i64 12]) ∧ Below w3.heap.size w3 w' := by have := HKE.out w3 HB3.out; rw [hE] at this; exact this
      have HK2 := Lib.hid K2
      have HE := Lib.hid hE
      clear K2 hE
      go_wp2_with fail
      refine HK2.out.mono ?_
      rintro x w4 ⟨rfl, hb4⟩
      have HB4 := Lib.hid hb4
      clear hb4
      go_wp2
      go_ret2
      exact ⟨FIN.out _ (by rw [HSC.out, HM.out]; rfl), (HB02.out.trans (HB3.out.mono hz2)).trans (HB4.out.mono (by have := HB3.out.size; omega))⟩
    | some e =>
      have K2 : Calls Tryz.prog 52 #[.slice a3 n3 c3] w3 fun x w' => x = .returned (.tuple #[.int .i64 e, .int .i64 0]) ∧ Below w3.heap.size w3 w' := by have := HKE.out w3 HB3.out; rw [hE] at this; exact this
      have HK2 := Lib.hid K2
      have HE := Lib.hid hE
      clear K2 hE
      go_wp2_with fail
      refine HK2.out.mono ?_
      rintro x w4 ⟨rfl, hb4⟩
      have HB4 := Lib.hid hb4
      clear hb4
      go_wp2
      go_ret2
      exact ⟨FIN.out _ (by rw [HSC.out, HM.out]; rfl), (HB02.out.trans (HB3.out.mono hz2)).trans (HB4.out.mono (by have := HB3.out.size; omega))⟩
  | some m =>
    have hm0 := hok' m hM
    have hmr := wholeF_range hM
    have HM := Lib.hid hM
    have K1 : Calls Tryz.prog 52 #[.slice a1 n1 c1] w2 fun e w' => e = .returned (.tuple #[.int .i64 m, .int .i64 0]) ∧ Below w2.heap.size w2 w' := by have := hw1c.out; rw [hM] at this; exact this
    have HK1 := Lib.hid K1
    clear K1 hM hok'
    go_wp2_with fail
    refine HK1.out.mono ?_
    rintro x w3 ⟨rfl, hb3⟩
    have HB3 := Lib.hid hb3
    clear hb3
    cases hE : wholeF (if bAt (cutAt l).2 0 = 45 then (cutAt l).2.drop 1 else (cutAt l).2) with
    | none =>
      have K2 : Calls Tryz.prog 52 #[.slice a3 n3 c3] w3 fun e w' => e = .returned (.tuple #[.int .i64 0, .int .i64 12]) ∧ Below w3.heap.size w3 w' := by have := HKE.out w3 HB3.out; rw [hE] at this; exact this
      have HK2 := Lib.hid K2
      have HE := Lib.hid hE
      clear K2 hE heok'
      go_wp2_with fail
      refine HK2.out.mono ?_
      rintro x w4 ⟨rfl, hb4⟩
      have HB4 := Lib.hid hb4
      clear hb4
      go_wp2
      go_ret2
      exact ⟨FIN.out _ (by rw [HSC.out, HM.out, HE.out]; rfl), (HB02.out.trans (HB3.out.mono hz2)).trans (HB4.out.mono (by have := HB3.out.size; omega))⟩
    | some e =>
      have he0 := heok' e hE
      have her := wholeF_range hE
      have K2 : Calls Tryz.prog 52 #[.slice a3 n3 c3] w3 fun x w' => x = .returned (.tuple #[.int .i64 e, .int .i64 0]) ∧ Below w3.heap.size w3 w' := by have := HKE.out w3 HB3.out; rw [hE] at this; exact this
      have HK2 := Lib.hid K2
      have HE := Lib.hid hE
      clear K2 hE heok'
      go_wp2_with fail
      refine HK2.out.mono ?_
      rintro x w4 ⟨rfl, hb4⟩
      have hb04 : Below w.heap.size w w4 := (HB02.out.trans (HB3.out.mono hz2)).trans (hb4.mono (by have := HB3.out.size; omega))
      have HB04 := Lib.hid hb04
      clear hb4 hb04
      by_cases hneg : bAt (cutAt l).2 0 = 45
      · have hd : decide (bAt (cutAt l).2 0 = 45) = true := decide_eq_true hneg
        have HN := Lib.hid hneg
        clear hneg
        rw [hd]
        by_cases he : e = 0
        · subst he
          go_wp2
          go_ret2
          exact ⟨FIN.out _ (by rw [HSC.out, HM.out, HE.out]; simp only [HN.out]; rfl), HB04.out⟩
        · have hz : (e == 0) = false := by simpa using he
          have HZ := Lib.hid he
          clear he
          cases hof : oneFormB m (-e)
          · have HO := Lib.hid hof
            clear hof
            go_wp2_with (go_at_call 76; refine (oneForm_any m (-e) _ (by omega) (by omega)).mono ?_; rintro x w' ⟨rfl, rfl⟩; rw [HO.out])
            go_ret2
            exact ⟨FIN.out _ (by rw [HSC.out, HM.out, HE.out]; simp only [HN.out, if_true]; rw [if_neg HZ.out, HO.out]; rfl), HB04.out⟩
          · have HO := Lib.hid hof
            clear hof
            go_wp2_with (first | (go_at_call 76; refine (oneForm_any m (-e) _ (by omega) (by omega)).mono ?_; rintro x w' ⟨rfl, rfl⟩; rw [HO.out]) | (go_at_call 77; refine (HF.out m (-e) _ hm0 HO.out).mono ?_; rintro x w' ⟨rfl, rfl⟩))
            go_ret2
            exact ⟨FIN.out _ (by rw [HSC.out, HM.out, HE.out]; simp only [HN.out, if_true]; rw [if_neg HZ.out, HO.out]; rfl), HB04.out⟩
      · have hd : decide (bAt (cutAt l).2 0 = 45) = false := decide_eq_false hneg
        have HN := Lib.hid hneg
        clear hneg
        rw [hd]
        cases hof : oneFormB m e
        · have HO := Lib.hid hof
          clear hof
          go_wp2_with (go_at_call 76; refine (oneForm_any m e _ (by omega) (by omega)).mono ?_; rintro x w' ⟨rfl, rfl⟩; rw [HO.out])
          go_ret2
          exact ⟨FIN.out _ (by rw [HSC.out, HM.out, HE.out]; simp only [if_neg HN.out]; rw [HO.out]; rfl), HB04.out⟩
        · have HO := Lib.hid hof
          clear hof
          go_wp2_with (first | (go_at_call 76; refine (oneForm_any m e _ (by omega) (by omega)).mono ?_; rintro x w' ⟨rfl, rfl⟩; rw [HO.out]) | (go_at_call 77; refine (HF.out m e _ hm0 HO.out).mono ?_; rintro x w' ⟨rfl, rfl⟩))
          go_ret2
          exact ⟨FIN.out _ (by rw [HSC.out, HM.out, HE.out]; simp only [if_neg HN.out]; rw [HO.out]; rfl), HB04.out⟩
end Go.Proofs.YtddeoemkjedonaaGreatDoor
