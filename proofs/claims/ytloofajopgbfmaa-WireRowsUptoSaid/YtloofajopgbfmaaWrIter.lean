/- The sequence behind Rows: every round is told the next message and the place behind it. -/
import Derived.Test.YtloofajopgbfmaaWrRange
namespace Go.Proofs.Ytloofajopgbfmaa
set_option linter.all false
open Go.RowKit Go.Shelf
attribute [local go_sem] Oper.semAt_some
set_option maxRecDepth 100000
/-- a message that is told: its row, the place behind it -/
abbrev X9 := I9 × Nat
def strip9 (x : X9) : M9 × Nat := (x.1.1, x.2)
def encX (x : X9) : Array Value := #[.agg #[.int .i64 x.1.1.id, .string ⟨x.1.1.tag.toArray⟩, .slice x.1.2.1 x.1.1.vs.length x.1.2.2], .int .i64 x.2]
/-- its row lies there -/
def InX (x : X9) (w : World) : Prop := w.ownsRow 0 27 5 (.slice x.1.2.1 x.1.1.vs.length x.1.2.2) x.1.1.vs.length (cellsP x.1.1.vs) ∧ PlainM x.1.1
/-- the bytes that the sequence goes over -/
def It9 (Bn : Nat) (a : Option Addr) (n cap : Nat) (l : List UInt8) (w : World) : Prop := Boxed w Bn 22 (.slice a n cap) ∧ Txt w a n cap l
theorem boxed_below {W W' : World} {B : Nat} {t : TypeId} {v : Value} (h : Boxed W B t v) (hb : Below W.heap.size W W') : Boxed W' B t v := (hb.block B h.lt).trans h
theorem It9.below {Bn : Nat} {a : Option Addr} {n cap : Nat} {l : List UInt8} {w w' : World} (h : It9 Bn a n cap l w) (hb : Below w.heap.size w w') : It9 Bn a n cap l w' := ⟨boxed_below h.1 hb, h.2.below hb (Nat.le_refl _)⟩
set_option maxHeartbeats 4000000 in
theorem rows1_any (m Bn : Nat) (a : Option Addr) (n cap : Nat) (l : List UInt8) (lw : Nat) (J Jx : List X9 → World → Prop) (W : World) (hm : 1 ≤ m) (hit : It9 Bn a n cap l W)
    (hJ : ∀ pre A B, J pre A → Below A.heap.size A B → J pre B)
    (hY : ∀ pre x W1, J pre W1 → It9 Bn a n cap l W1 → InX x W1 → pre.map strip9 ++ [strip9 x] <+: rowsF l → YieldAt Fence.wide (m - 1) Try.prog lw (encX x) W1 fun e W' =>
      (e = .returned (.bool true) ∧ J (pre ++ [x]) W' ∧ It9 Bn a n cap l W') ∨ (e = .returned (.bool false) ∧ Jx (pre ++ [x]) W')) (h0 : J [] W) :
    CallsIn Fence.wide m Try.prog 40 #[.func (.yield lw) #[] #[], .pointer (some ⟨Bn, 0, none⟩)] W fun e W' => (∃ v, e = .returned v) ∧
      ((∃ xs : List X9, xs.map strip9 = rowsF l ∧ J xs W') ∨ ∃ pre : List X9, pre.map strip9 <+: rowsF l ∧ Jx pre W') := by
  have hl := hit.2.1
  have sf : ∀ (p : Addr) (b : Nat) (mo : Mode) (w' : World), (store p (.float .f64 b) mo).run Try.prog w' = stored Try.prog w' p (.float .f64 b) mo := fun p b mo w' => run_store _ w' p _ mo rfl
  have HIT := Lib.hid hit
  have HJ := Lib.hid hJ
  have HY := Lib.hid hY
  have H0 := Lib.hid h0
  have HL := Lib.hid hl
  clear hit hJ hY h0 hl
  refine callsIn_of_wp Try.func40 rfl trivial ?_ rfl
  simp only [Try.ntmps40, List.size_toArray, List.length_cons, List.length_nil, Nat.reduceAdd, Nat.reduceSub, Array.replicate_succ, Array.replicate_zero, List.push_toArray, List.append_toArray, List.nil_append, List.cons_append]
  gi_wp2
  gi_loopw [3] (fun i wr => ∃ (k f : Nat) (pre : List X9), i = .int .i64 k ∧ k ≤ n ∧ n + 1 ≤ k + f ∧ Hid (rowsF l = pre.map strip9 ++ rdR f k (l.drop k)) ∧ Hid (J pre wr) ∧ Hid (It9 Bn a n cap l wr))
    (fun i wr => n - (intOf i).toNat)
  case atStart => exact ⟨0, l.length + 1, [], rfl, Nat.zero_le _, by rw [HL.out]; omega, Lib.hid rfl, H0, HIT⟩
  case round =>
    obtain ⟨k, f, pre, rfl, hk, hf, HX, HJS, HI⟩ := hrel
    have hbox := HI.out.1.cell
    obtain ⟨f', rfl⟩ : ∃ f', f = f' + 1 := ⟨f - 1, by omega⟩
    obtain ⟨a', hs, ht'⟩ := slice_from k HI.out.2 hk
    have hrm := readMessage_any a' (n - k) (cap - k) (l.drop k) wr ht'
    have hnm : n ≤ 9223372036854775807 := by have := HI.out.2.2.1; have := HI.out.2.2.2.1; unfold maxLen at *; omega
    cases hrd : rdM (l.drop k) with
    | none =>
      rw [hrd] at hrm
      unfold MsA at hrm
      have HRM := Lib.hid hrm
      have hend : (pre.map strip9) = rowsF l := by rw [HX.out, rdR_end hrd, List.append_nil]
      have HEND := Lib.hid hend
      clear hrm ht' hrd hend
      gi_wp2_with fail
      refine ⟨trivial, ?_⟩
      refine (callsIn_wide.2 HRM.out).mono ?_
      rintro e w1 ⟨rfl, hb1⟩
      have HJ1 := Lib.hid (HJ.out _ _ _ HJS.out hb1)
      have HJ2 := Lib.hid (HJ.out _ _ _ HJ1.out ((Below.refl _ w1).alloc (Nat.le_refl _) (.cells #[.int .i64 0, .string ⟨#[]⟩, .slice none 0 0] 35)))
      clear hb1
      gi_wp2_with fail
      refine bodyPost_ret (results_none rfl _ _ _) rfl ?_
      exact ⟨⟨_, rfl⟩, .inl ⟨_, HEND.out, HJ2.out⟩⟩
    | some q =>
      obtain ⟨mm, j⟩ := q
      rw [hrd] at hrm
      unfold MsA at hrm
      have HRM := Lib.hid hrm
      obtain ⟨g1, g2, g3⟩ := rdM_step hrd (by rw [HL.out]; exact hk)
      have HXN := Lib.hid (show rowsF l = pre.map strip9 ++ ((mm, k + j) :: rdR f' (k + j) (l.drop (k + j))) by rw [HX.out, rdR_on f' hrd])
      have HPM := Lib.hid g3
      rw [HL.out] at g1
      clear hrm ht' hrd g3
      gi_wp2_with fail
      refine ⟨trivial, ?_⟩
      refine (callsIn_wide.2 HRM.out).mono ?_
      rintro e w1 ⟨⟨al, cp, rfl, hro⟩, hb1⟩
      obtain ⟨w2, hw2⟩ : ∃ w2, w2 = w1.alloc (.cells #[.int .i64 mm.id, .string ⟨mm.tag.toArray⟩, .slice al mm.vs.length cp] 35) := ⟨_, rfl⟩
      have hba : Below w1.heap.size w1 w2 := by rw [hw2]; exact (Below.refl _ w1).alloc (Nat.le_refl _) _
      have hJ2 := HJ.out _ _ _ (HJ.out _ _ _ HJS.out hb1) hba
      have hI2 := (HI.out.below hb1).below hba
      have hxx : InX ((mm, (al, cp)), k + j) w2 := ⟨own_base9 (own_keep9 hro hba) (Nat.zero_le _), HPM.out⟩
      obtain ⟨fn, tmps, assign, body, hy, hR⟩ := HY.out pre ((mm, (al, cp)), k + j) w2 hJ2 hI2 hxx (by rw [HXN.out]; exact ⟨rdR f' (k + j) (l.drop (k + j)), by simp [strip9]⟩)
      have hy' : (Instr.yield lw #[.agg #[.int .i64 mm.id, .string ⟨mm.tag.toArray⟩, .slice al mm.vs.length cp], .int .i64 ((k : Int) + (j : Int))]).run Try.prog w2 = .ok (.round lw fn tmps assign body) w2 := by
        have := hy
        simp only [encX] at this
        rw [show ((k + j : Nat) : Int) = (k : Int) + (j : Int) by omega] at this
        exact this
      have HR := Lib.hid hR
      have HW2 := Lib.hid hw2
      rw [hw2] at hy'
      have hw9 : IntKind.i64.wrap ((k : Int) + (j : Int)) = (k : Int) + (j : Int) := by rw [IntKind.wrap_i64]; omega
      clear hJ2 hI2 hxx hba hy hR hw2 hb1 hro
      gi_wp2_with fail
      rw [← HW2.out]
      refine HR.out.mono ?_
      rintro e W3 (⟨rfl, hJ3, hI3⟩ | ⟨rfl, hJx3⟩)
      · have HJ3 := Lib.hid hJ3
        have HI3 := Lib.hid hI3
        clear hJ3 hI3 hy'
        gi_wp2_with fail
        go_roundw
        case rel => exact ⟨k + j, f', pre ++ [((mm, al, cp), k + j)], by go_num, g1, by omega, Lib.hid (by rw [HXN.out]; simp [strip9]), HJ3, HI3⟩
        case measure => simp [intOf]; omega
      · have HJX := Lib.hid hJx3
        clear hJx3 hy'
        gi_wp2_with fail
        refine bodyPost_ret (results_none rfl _ _ _) rfl ?_
        exact ⟨⟨_, rfl⟩, .inr ⟨_, by rw [HXN.out]; exact ⟨rdR f' (k + j) (l.drop (k + j)), by simp [strip9]⟩, HJX.out⟩⟩
end Go.Proofs.Ytloofajopgbfmaa
