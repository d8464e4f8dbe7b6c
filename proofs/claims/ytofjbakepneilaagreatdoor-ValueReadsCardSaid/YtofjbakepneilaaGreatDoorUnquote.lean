/- The walk of unquote. -/
import Derived.Test.YtofjbakepneilaaGreatDoorRows
import Derived.Test.YtofjbakepneilaaGreatDoorMQuotePlain
import Derived.Test.YtofjbakepneilaaGreatDoorTextWalks
import Derived.Test.YtofjbakepneilaaGreatDoorPart
import Derived.WalkKit
import Derived.WalkSpells
import Derived.WalkLawsBesides
import Derived.Lib.Hide
namespace Go.Proofs.YtofjbakepneilaaGreatDoor
open Go.RowKit
set_option maxRecDepth 100000

def lenOf : Value → Nat
  | .slice _ n _ => n
  | _ => 0
def unquoteV : Option (List UInt8) → Value
  | some s => .tuple #[.string ⟨s.toArray⟩, .int .i64 0]
  | none => .tuple #[.string ⟨#[]⟩, .int .i64 11]

/-- what holds at the loop's head -/
def UnqRel (w : World) (l : List UInt8) (said rest : Value) (wr : World) : Prop :=
  ∃ (sa ra : Option Addr) (sc m c f : Nat) (acc r : List UInt8), said = .slice sa acc.length sc ∧ rest = .slice ra m c ∧ Txt w ra m c r ∧ wr.ownsRow w.heap.size 5 1 (.slice sa acc.length sc) acc.length (u8s acc) ∧ Below w.heap.size w wr ∧
    r.length < f ∧ acc.length + r.length ≤ l.length ∧ unqF (l.length + 1) (l.drop 1) = (unqF f r).map (acc ++ ·)

theorem unquote_any (a : Option Addr) (n cap : Nat) (l : List UInt8) (w : World) (ht : Txt w a n cap l) (hn : 0 < n) (hb : n ≤ 1048576) :
    Calls Tryz.prog 129 #[.slice a n cap] w fun e w' => e = .returned (unquoteV (unquoteF l)) ∧ Below w.heap.size w w' := by
  obtain ⟨i0, hi, hz0, hz1, hz2⟩ := info_parts info5'
  have hl := ht.1
  obtain ⟨a1, hs1, ht1⟩ := slice_from 1 ht hn
  have hs1' : (Instr.slice 37 (.slice a n cap) (some (.int .i64 1)) none none).run Tryz.prog w = .ok (.slice a1 (n - 1) (cap - 1)) w := hs1 w
  have HT1 := Lib.hid ht1
  clear ht1 hs1 ht
  go_enter Tryz.func129, Tryz.ntmps129
  go_wp2
  go_loopw [4, 5] (fun said rest wr => UnqRel w l said rest wr) (fun _ rest _ => lenOf rest)
  case atStart =>
    refine ⟨none, a1, 0, n - 1, cap - 1, l.length + 1, [], l.drop 1, rfl, rfl, HT1.out, World.ownsRow_nil _ _ _ _, Below.refl _ _, by simp; omega, by simp, ?_⟩
    simp
  case round =>
    obtain ⟨sa, ra, sc, m, c, f, acc, r, rfl, rfl, htr, hown, hbel, hf, hal, hu⟩ := hrel
    have hz := hbel.size
    have hrl := htr.1
    obtain ⟨f', rfl⟩ : ∃ f', f = f' + 1 := ⟨f - 1, by omega⟩
    have HO := Lib.hid hown
    have HB := Lib.hid hbel
    have HU := Lib.hid hu
    have HTR := Lib.hid htr
    have htw := htr.below hbel (Nat.le_refl _)
    have hcv := text_of htw
    have HTW := Lib.hid htw
    obtain ⟨s, hs⟩ : ∃ s : ByteArray, s = ⟨r.toArray⟩ := ⟨_, rfl⟩
    rw [← hs] at hcv
    have hsl : s.toList = r := by rw [hs, ByteArray.toList_mk]
    clear hown hbel hu htr htw hs
    by_cases hq : r = [34]
    · have e1 : (s.toList == [34]) = true := by rw [hsl, hq]; rfl
      have e2 : (s.toList != [34]) = false := by rw [hsl, hq]; rfl
      have HQ := Lib.hid hq
      have htx := txt_of_owned HO.out
      have hcv2 := text_of htx
      have hun : unquoteF l = if acc.length ≤ 256 then some acc else none := by
        unfold unquoteF
        rw [HU.out, unqF, if_pos HQ.out]
        simp
      have HUN := Lib.hid hun
      clear hsl hq htx hun
      by_cases h256 : acc.length ≤ 256
      · go_wp2
        go_ret2
        exact ⟨by rw [HUN.out, if_pos h256]; rfl, HB.out⟩
      · go_wp2
        go_ret2
        exact ⟨by rw [HUN.out, if_neg h256]; rfl, HB.out⟩
    · have e1 : (s.toList == [34]) = false := by rw [hsl]; exact beq_eq_false_iff_ne.2 hq
      have e2 : (s.toList != [34]) = true := by rw [hsl]; exact bne_iff_ne.2 hq
      have HQ := Lib.hid hq
      clear hsl hq
      by_cases h0 : (partF r).2 = 0
      · have hun : unquoteF l = none := by
          unfold unquoteF
          rw [HU.out, unqF, if_neg HQ.out, if_pos h0]
          rfl
        have HUN := Lib.hid hun
        have z1 : (((partF r).2 : Int) == 0) = true := by rw [h0]; rfl
        have z2 : ((partF r).2 == 0) = true := by rw [h0]; rfl
        clear hun h0
        go_wp2_with (go_at_call 169; refine (part_any _ _ _ r _ HTW.out).mono ?_; rintro e w' ⟨rfl, rfl⟩)
        go_ret2
        exact ⟨by rw [HUN.out]; rfl, HB.out⟩
      · have hle := (partF_le r).1
        have hpos : 0 < (partF r).2 := by omega
        have z1 : (((partF r).2 : Int) == 0) = false := by rw [beq_eq_false_iff_ne]; omega
        have z2 : ((partF r).2 == 0) = false := by rw [beq_eq_false_iff_ne]; exact h0
        obtain ⟨a2, hs2, ht2⟩ := slice_from (partF r).2 HTR.out (by omega)
        have HS2 := Lib.hid hs2
        have HT2 := Lib.hid ht2
        clear hs2 ht2
        go_wp2_with (first | (go_at_call 169; refine (part_any _ _ _ r _ HTW.out).mono ?_; rintro e w' ⟨rfl, rfl⟩) | (at_builtin; refine wpList_append_own _ rfl _ _ 37 rfl w.heap.size 5 i0 (.int .u8 0) 1 1 Tryz.underlying37 hi hz0 hz1 hz2 rfl (by decide) _ _ _ rfl (HO.out.alloc _) ⟨wr.heap.size, 0, none⟩ 1 1 (u8s [(partF r).1]) rfl rfl (cells_new' _ _ _) (u8s_one _) (by unfold maxLen; omega) (by omega) (by simp; omega) ?_))
        intro v' w1 hown' hgrow _
        obtain ⟨g, c', rfl⟩ := ownsRow_succ hown'
        have hs3 := HS2.out w1
        have hb1 : Below w.heap.size w w1 := (HB.out.alloc hz _).grown hgrow (by simp; omega) (fun b hb => (HO.out.lt b hb).1)
        have hown2 : w1.ownsRow w.heap.size 5 1 (.slice (some ⟨g, 0, none⟩) (acc ++ [(partF r).1]).length c') (acc ++ [(partF r).1]).length (u8s (acc ++ [(partF r).1])) := by
          rw [u8s_append, List.length_append]; exact hown'
        have hR : UnqRel w l (.slice (some ⟨g, 0, none⟩) (acc ++ [(partF r).1]).length c') (.slice a2 (m - (partF r).2) (c - (partF r).2)) w1 := by
          refine ⟨_, a2, c', _, _, f', acc ++ [(partF r).1], r.drop (partF r).2, rfl, rfl, HT2.out, hown2, hb1, by simp; omega, by simp; omega, ?_⟩
          rw [HU.out, unqF, if_neg HQ.out, if_neg h0, Option.map_map]
          congr 1
          funext x
          simp
        have HR := Lib.hid hR
        clear hown' hgrow hb1 hown2 hR h0
        go_wp2
        go_roundw
        case rel => simpa using HR.out
        case measure => simp [lenOf]; omega
end Go.Proofs.YtofjbakepneilaaGreatDoor
