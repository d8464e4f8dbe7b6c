/- value's unquote, plain: what is quoted is read back. -/
import Derived.Test.YtofjbakepneilaaGreatDoorMQuotePlain
import Derived.Test.YtofjbakepneilaaGreatDoorMVUnq
import Derived.Test.YtofjbakepneilaaGreatDoorPart
namespace Go.Proofs.YtofjbakepneilaaGreatDoor
open Go.RowKit

def hV (c : UInt8) : Nat := (max (Lib.indexByte hexL c) 0).toNat
theorem hV_max (c : UInt8) : max (Lib.indexByte hexL c) 0 = (hV c : Int) := by unfold hV; omega
theorem hV_lt (c : UInt8) : hV c < 16 := all_u8 (fun c => hV c < 16) (by decide +kernel) c
theorem hV_digit (k : Nat) (hk : k < 16) : hV (hexDigit k) = k := by
  have : ∀ k : Fin 16, hV (hexDigit k.val) = k.val := by decide +kernel
  exact this ⟨k, hk⟩
/-- the byte that stands first, and in how many bytes -/
def vpartF (r : List UInt8) : UInt8 × Nat :=
  if bAt r 0 ≠ 92 then (bAt r 0, 1) else if bAt r 1 ≠ 120 ∨ r.length < 4 then (bAt r 1, 2) else (UInt8.ofNat (hV (bAt r 2) * 16 + hV (bAt r 3)), 4)
theorem vpartF_le {r : List UInt8} (h : 2 ≤ r.length) : 1 ≤ (vpartF r).2 ∧ (vpartF r).2 ≤ r.length := by
  unfold vpartF
  split
  · exact ⟨Nat.le_refl _, by show 1 ≤ _; omega⟩
  · split
    · exact ⟨by show 1 ≤ 2; omega, h⟩
    · rename_i h4
      exact ⟨by show 1 ≤ 4; omega, by show 4 ≤ _; omega⟩
/-- the bytes of a text between quotes, the quote behind them left out -/
def vunqF : Nat → List UInt8 → List UInt8
  | 0, _ => []
  | f + 1, r => if 1 < r.length then (vpartF r).1 :: vunqF f (r.drop (vpartF r).2) else []
theorem vpart_q (c : UInt8) (t : List UInt8) (h : 1 ≤ t.length) : vpartF (qPart c ++ t) = (c, (qPart c).length) := by
  have h0 : ∀ n : UInt8, n.toNat ≠ 92 → n ≠ 92 := fun n hn e => hn (by rw [e]; rfl)
  unfold qPart
  split
  · rename_i hc
    have h120 : c ≠ 120 := by rintro rfl; exact absurd hc (by decide)
    simp [vpartF, bAt, h120]
  · split
    · rename_i hc _
      have h92 : c ≠ 92 := h0 c (fun e => hc (.inr e))
      simp [vpartF, bAt, h92]
    · have e : UInt8.ofNat (hV (hexDigit (c.toNat / 16)) * 16 + hV (hexDigit (c.toNat % 16))) = c := by
        have := c.toNat_lt
        rw [hV_digit _ (by omega), hV_digit _ (by omega), Nat.div_add_mod']
        exact UInt8.ofNat_toNat
      simp [vpartF, bAt, e]
theorem vunq_quoted (l : List UInt8) : ∀ f, l.length < f → vunqF f (l.flatMap qPart ++ [34]) = l := by
  induction l with
  | nil => intro f hf; cases f with
    | zero => rfl
    | succ f => simp [vunqF]
  | cons c l ih =>
    intro f hf
    cases f with
    | zero => simp at hf
    | succ f =>
      have hp : 1 ≤ (qPart c).length := by unfold qPart; split <;> (try split) <;> simp
      have e : (c :: l).flatMap qPart ++ [34] = qPart c ++ (l.flatMap qPart ++ [34]) := by simp
      rw [e, vunqF, if_pos (by simp; omega), vpart_q c _ (by simp)]
      simp only [List.drop_left]
      rw [ih f (by simp at hf; omega)]
end Go.Proofs.YtofjbakepneilaaGreatDoor
/- value's part and unquote, exactly. -/
namespace Go.Proofs.YtofjbakepneilaaGreatDoor
open Go.RowKit Go.Shelf
set_option maxRecDepth 100000

theorem at_b (s : ByteArray) (i : Nat) (h : i < s.size) : bAt s.data.toList i = s[i] := by
  have h' : i < s.data.toList.length := h
  rw [bAt_lt h']
  rfl
set_option maxHeartbeats 2000000 in
theorem wpart_any (s : ByteArray) (w : World) (h2 : 2 ≤ s.size) (hm : s.size ≤ 9223372036854775806) :
    Calls Tryz.prog 63 #[.string s] w fun e w' => e = .returned (.tuple #[.int .u8 (vpartF s.data.toList).1.toNat, .int .i64 (vpartF s.data.toList).2]) ∧ w = w' := by
  have l0 : (0 : Nat) < s.size := by omega
  have l1 : (1 : Nat) < s.size := by omega
  have a0 := at_b s 0 l0
  have a1 := at_b s 1 l1
  have hlen : s.data.toList.length = s.size := rfl
  by_cases hb : s[0] = 92
  · have t1 : (((s[0]'l0).toNat : Int) != 92) = false := by rw [hb]; rfl
    have t1' : (((s[0]'l0).toNat : Int) == 92) = true := by rw [hb]; rfl
    by_cases hx : s[1] = 120 ∧ 4 ≤ s.size
    · obtain ⟨hx, h4⟩ := hx
      have l2 : (2 : Nat) < s.size := by omega
      have l3 : (3 : Nat) < s.size := by omega
      have a2 := at_b s 2 l2
      have a3 := at_b s 3 l3
      have t2 : (((s[1]'l1).toNat : Int) != 120) = false := by rw [hx]; rfl
      have t2' : (((s[1]'l1).toNat : Int) == 120) = true := by rw [hx]; rfl
      have t3 : decide ((s.size : Int) < 4) = false := decide_eq_false (by omega)
      have hv : vpartF s.data.toList = (UInt8.ofNat (hV s[2] * 16 + hV s[3]), 4) := by
        unfold vpartF
        rw [a0, a1, a2, a3, if_neg (by rw [hb]; simp), if_neg (by rw [hx]; simp; omega)]
      have g2 := hV_max s[2]
      have g3 := hV_max s[3]
      have k2 := hV_lt s[2]
      have k3 := hV_lt s[3]
      unfold hexL at g2 g3
      rw [hv]
      generalize hV s[2] = h at g2 k2 ⊢
      generalize hV s[3] = k at g3 k3 ⊢
      have hor := hex_or h k k2 k3
      have hfin : 16 * (h : Int) + (k : Int) = ((UInt8.ofNat (h * 16 + k)).toNat : Int) := by
        rw [UInt8.toNat_ofNat']
        omega
      have HF := Lib.hid hfin
      clear hb hx hv a0 a1 a2 a3 hlen hfin
      go_enter Tryz.func63, Tryz.ntmps63
      go_wp2_with (go_at_call 102; refine (Tryz.strings_IndexByte _ _ _).mono ?_; rintro e w' ⟨rfl, rfl⟩)
      rw [HF.out]
      go_ret2
      exact ⟨rfl, rfl⟩
    · have hv : vpartF s.data.toList = (s[1], 2) := by
        unfold vpartF
        rw [a0, a1, if_neg (by rw [hb]; simp), if_pos]
        by_cases h120 : s[1] = 120
        · exact .inr (by rw [hlen]; have : ¬ 4 ≤ s.size := fun h => hx ⟨h120, h⟩; omega)
        · exact .inl h120
      have hq : (((s[1]'l1).toNat : Int) != 120) = true ∨ ((((s[1]'l1).toNat : Int) != 120) = false ∧ decide ((s.size : Int) < 4) = true) := by
        by_cases h120 : s[1] = 120
        · refine .inr ⟨by rw [h120]; rfl, decide_eq_true ?_⟩
          have : ¬ 4 ≤ s.size := fun h => hx ⟨h120, h⟩
          omega
        · refine .inl ?_
          rw [bne_iff_ne]
          intro h
          exact h120 (UInt8.toNat_inj.1 (by have : (120 : UInt8).toNat = 120 := rfl; omega))
      rw [hv]
      clear hb hx hv a0 a1 hlen
      rcases hq with t2 | ⟨t2, t3⟩
      all_goals
        go_enter Tryz.func63, Tryz.ntmps63
        go_wp2_with fail
        go_ret2
        exact ⟨rfl, rfl⟩
  · have t1 : (((s[0]'l0).toNat : Int) != 92) = true := by
      rw [bne_iff_ne]
      intro h
      exact hb (UInt8.toNat_inj.1 (by have : (92 : UInt8).toNat = 92 := rfl; omega))
    have hv : vpartF s.data.toList = (s[0], 1) := by
      unfold vpartF
      rw [a0, if_pos hb]
    rw [hv]
    clear hb hv a0 a1 hlen
    go_enter Tryz.func63, Tryz.ntmps63
    go_wp2_with fail
    go_ret2
    exact ⟨rfl, rfl⟩
theorem drop_list (r : ByteArray) (k : Nat) : (r.extract k r.size).data.toList = r.data.toList.drop k := by
  rw [ByteArray.data_extract, Array.toList_extract, List.extract_eq_take_drop]
  rw [List.take_of_length_le]
  rw [List.length_drop]
  exact Nat.le_refl _
def WUnqRel (w : World) (N : Nat) (T : List UInt8) (said rest : Value) (wr : World) : Prop :=
  ∃ (sa : Option Addr) (sc f : Nat) (acc : List UInt8) (r : ByteArray), said = .slice sa acc.length sc ∧ rest = .string r ∧ wr.ownsRow w.heap.size 5 1 (.slice sa acc.length sc) acc.length (u8s acc) ∧ Below w.heap.size w wr ∧ acc.length + r.size ≤ N ∧ r.size ≤ f ∧ T = acc ++ vunqF f r.data.toList
set_option maxHeartbeats 2000000 in
theorem wunquote_any (s : ByteArray) (w : World) (h1 : 1 ≤ s.size) (hm : s.size ≤ 140737488355328) :
    Calls Tryz.prog 36 #[.string s] w fun e w' => e = .returned (.string ⟨(vunqF s.size (s.data.toList.drop 1)).toArray⟩) ∧ Below w.heap.size w w' := by
  obtain ⟨i0, hi, hz0, hz1, hz2⟩ := info_parts info5'
  go_enter Tryz.func36, Tryz.ntmps36
  go_wp2
  go_loopw [3, 4] (fun said rest wr => WUnqRel w s.size (vunqF s.size (s.data.toList.drop 1)) said rest wr) (fun _ rest _ => szOf rest)
  case atStart =>
    refine ⟨none, 0, s.size, [], _, rfl, rfl, World.ownsRow_nil _ _ _ _, Below.refl _ _, by simp, by simp, ?_⟩
    rw [drop_list]
    rfl
  case round =>
    obtain ⟨sa, sc, f, acc, r, rfl, rfl, hown, hbel, hal, hf, hT⟩ := hrel
    have hz := hbel.size
    by_cases hlt : 1 < r.size
    · have HO := Lib.hid hown
      have HB := Lib.hid hbel
      have HTT := Lib.hid hT
      have hle := vpartF_le (r := r.data.toList) hlt
      have hle2 : (vpartF r.data.toList).2 ≤ r.size := hle.2
      have hle1 := hle.1
      have d1 : decide ((1 : Int) < (r.size : Int)) = true := decide_eq_true (by omega)
      have hc := Lib.hid (show vunqF f r.data.toList = (vpartF r.data.toList).1 :: vunqF (f - 1) (r.data.toList.drop (vpartF r.data.toList).2) from by
        obtain ⟨f', rfl⟩ : ∃ f', f = f' + 1 := ⟨f - 1, by omega⟩
        have hlt' : 1 < r.data.toList.length := hlt
        rw [vunqF, if_pos hlt']
        rfl)
      have HW := Lib.hid (wpart_any r · (by omega) (by omega))
      obtain ⟨c, hce⟩ : ∃ c, c = (vpartF r.data.toList).1 := ⟨_, rfl⟩
      obtain ⟨k, hke⟩ : ∃ k, k = (vpartF r.data.toList).2 := ⟨_, rfl⟩
      rw [← hce, ← hke] at hc HW
      rw [← hke] at hle1 hle2
      clear hown hbel hT hle hce hke
      go_wp2_with (first | (go_at_call 63; refine (HW.out _).mono ?_; rintro e w' ⟨rfl, rfl⟩) | (at_builtin; refine wpList_append_own _ rfl _ _ 37 rfl w.heap.size 5 i0 (.int .u8 0) 1 1 Tryz.underlying37 hi hz0 hz1 hz2 rfl (by decide) _ _ _ rfl (HO.out.alloc _) ⟨wr.heap.size, 0, none⟩ 1 1 (u8s [c]) rfl rfl (cells_new' _ _ _) (u8s_one _) (by unfold maxLen; omega) (by omega) (by simp; omega) ?_))
      intro v' w1 hown' hgrow _
      obtain ⟨g, c', rfl⟩ := ownsRow_succ hown'
      have hb1 : Below w.heap.size w w1 := (HB.out.alloc hz _).grown hgrow (by simp; omega) (fun b hb => (HO.out.lt b hb).1)
      have hown2 : w1.ownsRow w.heap.size 5 1 (.slice (some ⟨g, 0, none⟩) (acc ++ [c]).length c') (acc ++ [c]).length (u8s (acc ++ [c])) := by
        rw [u8s_append, List.length_append]; exact hown'
      have HR := Lib.hid (show WUnqRel w s.size (vunqF s.size (s.data.toList.drop 1)) (.slice (some ⟨g, 0, none⟩) (acc ++ [c]).length c') (.string (r.extract k r.size)) w1 from
        ⟨_, c', f - 1, acc ++ [c], _, rfl, rfl, hown2, hb1, by simp; omega, by simp; omega, by rw [HTT.out, hc.out, drop_list]; simp⟩)
      clear hown' hgrow hb1 hown2
      go_wp2
      go_roundw
      case rel => simpa using HR.out
      case measure => simp [szOf]; omega
    · have d1 : decide ((1 : Int) < (r.size : Int)) = false := decide_eq_false (by omega)
      have htx := txt_of_owned hown
      have hcv2 := text_of htx
      have HB := Lib.hid hbel
      have hfin : vunqF s.size (s.data.toList.drop 1) = acc := by
        rw [hT]
        have hlt' : ¬ 1 < r.data.toList.length := hlt
        cases f with
        | zero => simp [vunqF]
        | succ f => rw [vunqF, if_neg hlt']; simp
      have HF := Lib.hid hfin
      clear htx hown hbel hT hfin
      go_wp2
      go_ret
      exact ⟨by rw [HF.out]; rfl, HB.out⟩
end Go.Proofs.YtofjbakepneilaaGreatDoor
