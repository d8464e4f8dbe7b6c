/- Wire, the law's plain: values, one by one. -/
import Derived.Test.YtloofajopgbfmaaWjPln
import Derived.Test.YtloofajopgbfmaaWjRdP
set_option linter.all false
namespace Go.Proofs.Ytloofajopgbfmaa
open Go.RowKit
set_option maxRecDepth 100000
set_option maxHeartbeats 4000000 in
theorem lplain_any (vs : List V9) (hp : ∀ x ∈ vs, Plain9 x) (hl : vs.length ≤ 6) (a : Option Addr) (cap : Nat) (w : World) (hrow : w.ownsRow 0 27 5 (.slice a vs.length cap) vs.length (cellsP vs)) :
    Calls Try.prog 23 #[.slice a vs.length cap] w fun e w' => ∃ al cp, e = .returned (.slice al vs.length cp) ∧ w'.ownsRow w.heap.size 27 5 (.slice al vs.length cp) vs.length (cellsP vs) ∧ Below w.heap.size w w' := by
  have HP := Lib.hid hp
  have HRW := Lib.hid hrow
  obtain ⟨m, hm⟩ : ∃ m, m = vs.length := ⟨_, rfl⟩
  have HM := Lib.hid hm
  rw [← hm] at hl ⊢
  have sf : ∀ (p : Addr) (b : Nat) (mo : Mode) (w' : World), (store p (.float .f64 b) mo).run Try.prog w' = stored Try.prog w' p (.float .f64 b) mo := fun p b mo w' => run_store _ w' p _ mo rfl
  have sc : ∀ (p : Addr) (b c : Nat) (mo : Mode) (w' : World), (store p (.complex .f64 b c) mo).run Try.prog w' = stored Try.prog w' p (.complex .f64 b c) mo := fun p b c mo w' => run_store _ w' p _ mo rfl
  clear hp hrow hm
  go_enter Try.func23, Try.ntmps23
  go_wp2_with fail
  go_loopw [3, 4] (fun oo ii wr => ∃ (i : Nat) (al : Option Addr) (cp : Nat), ii = .int .i64 i ∧ i ≤ m ∧ oo = .slice al i cp ∧ Hid (wr.ownsRow w.heap.size 27 5 (.slice al i cp) i (cellsP (vs.take i))) ∧ Hid (Below w.heap.size w wr)) (fun _ ii _ => m - (intOf ii).toNat)
  case atStart => exact ⟨0, none, 0, rfl, Nat.zero_le _, rfl, Lib.hid (World.ownsRow_nil _ _ _ _), Lib.hid (Below.refl _ _)⟩
  case round =>
    obtain ⟨i, al, cp, rfl, hi, rfl, HO, HB⟩ := hrel
    rcases Nat.lt_or_ge i m with hlt | hge
    · have hil : i < vs.length := by rw [← HM.out]; exact hlt
      obtain ⟨x, hx⟩ : ∃ x, vs[i]? = some x := ⟨_, List.getElem?_eq_getElem hil⟩
      have hpx := HP.out x (List.mem_of_getElem? hx)
      obtain ⟨g, rfl, hg, e0, e1, e2, e3, e4⟩ := row_cells (own_keep9 HRW.out HB.out) hx
      have hv := vplain_any x hpx wr
      have HV := Lib.hid hv
      have HTS := Lib.hid (take_at hx)
      clear hv hpx
      go_upto_region 5 with (fail)
      have hlen : (vs.take i).length = i := by rw [List.length_take]; omega
      have HLEN := Lib.hid hlen
      obtain ⟨i0, hii, hz0, hz1, hz2⟩ := info_parts3 info27
      clear hlen
      go_wp2_with (first
        | (go_at_call 21; (with_reducible refine HV.out.mono ?_); rintro e w1 ⟨rfl, hb1⟩; have HB1 := Lib.hid (HB.out.trans (hb1.mono HB.out.size)); have HO1 := Lib.hid (own_keep9 HO.out hb1); clear hb1)
        | (at_builtin; refine wpList_append_own _ rfl (.tmp 11) (.tmp 17) 31 rfl w.heap.size 27 i0 (.agg #[.int .i64 0, .int .i64 0, .float .f64 0, .complex .f64 0 0, .string ⟨#[]⟩]) 5 56 Try.underlying31 hii hz0 hz1 hz2 rfl (by decide) (.slice al i cp) i (cellsP (vs.take i)) rfl (HO1.out.alloc (.cells (cellsO x).toArray 27)) ⟨w1.heap.size, 0, none⟩ 1 1 (cellsO x) rfl rfl (cells_laid w1 (cellsO x) 27) (by rw [← List.append_nil (cellsO x), ← show cellsP [x] = cellsO x ++ [] from rfl]; exact cellsP_one [x]) (by unfold maxLen; omega) (by omega) (Nat.le_trans HB1.out.size (by simp)) ?_; intro v3 w3 hown hgrow hnil))
      obtain ⟨g3, c3, rfl⟩ := ownsRow_succ hown
      have HB3 : Hid (Below w.heap.size w w3) := Lib.hid ((HB1.out.alloc HB1.out.size _).grown hgrow (Nat.le_trans HB1.out.size (by simp)) (fun b hb => (HO1.out.lt b hb).1))
      have HR3 : Hid (w3.ownsRow w.heap.size 27 5 (.slice (some ⟨g3, 0, none⟩) (i + 1) c3) (i + 1) (cellsP (vs.take (i + 1)))) := Lib.hid (by rw [HTS.out, cellsP_snoc]; exact hown)
      clear hown hgrow hnil e0 e1 e2 e3 e4
      go_wp2_with fail
      go_roundw
      case rel => exact ⟨i + 1, some ⟨g3, 0, none⟩, c3, by go_num, by omega, rfl, HR3, HB3⟩
      case measure => simp [intOf]; omega
    · obtain rfl : i = m := by omega
      have hts : vs.take i = vs := by rw [HM.out]; exact List.take_length
      go_wp2_with fail
      go_ret
      exact ⟨al, cp, rfl, by rw [hts] at HO; exact HO.out, HB.out⟩
end Go.Proofs.Ytloofajopgbfmaa
