/- The reference's number. -/
import Derived.Test.YtkhghbeojfgkhaaDoorRefReal2
import Derived.Deep.Cut
namespace Go.Proofs.YtkhghbeojfgkhaaDoor
open Go.RowKit
set_option maxRecDepth 100000

theorem tw_digits (l : List UInt8) (A : Nat) : ∀ c ∈ (l.drop A).take (tw digitB l A), 48 ≤ c.toNat ∧ c.toNat ≤ 57 := by
  unfold tw
  have h : (l.drop A).take ((l.drop A).takeWhile digitB).length = (l.drop A).takeWhile digitB := by
    have := List.prefix_iff_eq_take.1 (List.takeWhile_prefix digitB (l := l.drop A))
    exact this.symm
  rw [h]
  intro c hc
  have hall : ((l.drop A).takeWhile digitB).all digitB = true := List.all_takeWhile
  have := List.all_eq_true.1 hall c hc
  simpa [digitB] using this
theorem tw_end (l : List UInt8) (A : Nat) (hA : A ≤ l.length) : A + tw digitB l A ≤ l.length := by
  have := tw_le digitB l A
  omega
/-- what endF tells -/
theorem endF_ways (l : List UInt8) (d : Nat) (hd : d ≤ l.length) : (endF l d = (0, 0)) ∨ ∃ H M, (H = 1 ∨ H = 2) ∧ endF l d = (M, H) ∧ H < M ∧ d + M ≤ l.length ∧ M - H = tw digitB l (d + H) := by
  unfold endF
  by_cases h1 : bAt l d = 112
  · rw [if_pos h1]
    obtain ⟨H, hH, hif, hlen⟩ : ∃ H, (H = 1 ∨ H = 2) ∧ (if bAt l (d + 1) = 45 then 2 else 1) = H ∧ d + H ≤ l.length := by
      have hlt : d < l.length := by
        rcases Nat.lt_or_ge d l.length with h | h
        · exact h
        · rw [bAt_ge h] at h1; cases h1
      by_cases h45 : bAt l (d + 1) = 45
      · have hlt2 : d + 1 < l.length := by
          rcases Nat.lt_or_ge (d + 1) l.length with h | h
          · exact h
          · rw [bAt_ge h] at h45; cases h45
        exact ⟨2, .inr rfl, if_pos h45, by omega⟩
      · exact ⟨1, .inl rfl, if_neg h45, by omega⟩
    rw [hif]
    by_cases h0 : tw digitB l (d + H) = 0
    · left; rw [if_pos h0]
    · right
      rw [if_neg h0]
      have := tw_end l (d + H) hlen
      exact ⟨H, H + tw digitB l (d + H), hH, rfl, by omega, by omega, by omega⟩
  · left; rw [if_neg h1]

def followsB (l : List UInt8) (L : Nat) : Bool := wordB (bAt l L)
def noughtsB (l : List UInt8) (A N M H : Nat) : Bool := (bAt l A == 48 && decide (1 < N)) || (decide (H + 1 < M) && bAt l (A + N + H) == 48)
/-- the reference's number at a place -/
def refNum (l : List UInt8) (A : Nat) : Tok × Nat :=
  if (followsB l (A + tw digitB l A + (endF l (A + tw digitB l A)).1) || noughtsB l A (tw digitB l A) (endF l (A + tw digitB l A)).1 (endF l (A + tw digitB l A)).2) = true then (zeroTok, 12)
  else if 0 < (endF l (A + tw digitB l A)).1 then realT A (tw digitB l A) (endF l (A + tw digitB l A)).1 ((l.drop A).take (tw digitB l A)) ((l.drop (A + tw digitB l A + (endF l (A + tw digitB l A)).2)).take ((endF l (A + tw digitB l A)).1 - (endF l (A + tw digitB l A)).2)) ((endF l (A + tw digitB l A)).2 == 2)
  else match refW ((l.drop A).take (tw digitB l A)) with | some v => (⟨2, [], v, 0, A, tw digitB l A⟩, 0) | none => (zeroTok, 12)

/-- what the walk asks of a byte that may follow -/
def FolFacts (w : World) (b o n L : Nat) (f : Bool) : Prop :=
  (decide (L < n) = false ∧ f = false) ∨ (decide (L < n) = true ∧ L < n ∧ ∃ c : UInt8, (∀ W : World, (∀ i, W.cell? ⟨b, i, none⟩ = w.cell? ⟨b, i, none⟩) → W.cell? ⟨b, o + L, none⟩ = some (.int .u8 (c.toNat : Int))) ∧
    ((letterB c = true ∧ f = true) ∨ (letterB c = false ∧ digitB c = true ∧ f = true) ∨ (letterB c = false ∧ digitB c = false ∧ ((c.toNat : Int) == 95) = true ∧ f = true) ∨ (letterB c = false ∧ digitB c = false ∧ ((c.toNat : Int) == 95) = false ∧ f = false)))
theorem fol_facts {w : World} {b o n cap L : Nat} {l : List UInt8} (hT : Txt w (some ⟨b, o, none⟩) n cap l) : FolFacts w b o n L (followsB l L) := by
  have hl := hT.1
  unfold FolFacts followsB
  rcases Nat.lt_or_ge L n with h | h
  · right
    refine ⟨by rw [decide_eq_true_eq]; exact h, h, bAt l L, ?_, ?_⟩
    · intro W hW
      obtain ⟨b', o', e, hc⟩ := hT.cellAt h
      cases e
      rw [hW]; exact hc
    · have f95 : (bAt l L == 95) = (((bAt l L).toNat : Int) == 95) := by
        obtain ⟨j1, j2⟩ := u8_is (c := bAt l L) (k := 95) (by decide)
        by_cases h95 : bAt l L = 95
        · have := (j1 h95).1; rw [show ((95 : Nat) : Int) = 95 from rfl] at this; rw [this, h95]; rfl
        · have := (j2 h95).1; rw [show ((95 : Nat) : Int) = 95 from rfl] at this; rw [this, beq_eq_false_iff_ne]; exact h95
      unfold wordB
      rw [f95]
      cases letterB (bAt l L) <;> cases digitB (bAt l L) <;> cases (((bAt l L).toNat : Int) == 95) <;> simp
  · left
    exact ⟨by rw [decide_eq_false_iff_not]; omega, by rw [bAt_ge (by omega)]; exact word0⟩

/-- what the walk asks of noughts -/
def NouFacts (w : World) (b o n A N M H : Nat) (f : Bool) : Prop :=
  ∃ c : UInt8, w.cell? ⟨b, o + A, none⟩ = some (.int .u8 (c.toNat : Int)) ∧
   ((((c.toNat : Int) == 48) = true ∧ decide (1 < N) = true ∧ f = true) ∨
    (((((c.toNat : Int) == 48) = true ∧ decide (1 < N) = false) ∨ ((c.toNat : Int) == 48) = false) ∧
      ((decide (H + 1 < M) = false ∧ f = false) ∨ (decide (H + 1 < M) = true ∧ H + 1 < M ∧ ∃ d : UInt8, w.cell? ⟨b, o + (A + N + H), none⟩ = some (.int .u8 (d.toNat : Int)) ∧ ((d.toNat : Int) == 48) = f))))
theorem eq48 (c : UInt8) : (c == 48) = ((c.toNat : Int) == 48) := by
  obtain ⟨j1, j2⟩ := u8_is (c := c) (k := 48) (by decide)
  by_cases h : c = 48
  · have := (j1 h).1; rw [show ((48 : Nat) : Int) = 48 from rfl] at this; rw [this, h]; rfl
  · have := (j2 h).1; rw [show ((48 : Nat) : Int) = 48 from rfl] at this; rw [this, beq_eq_false_iff_ne]; exact h
theorem nou_facts {w : World} {b o n cap A N M H : Nat} {l : List UInt8} (hT : Txt w (some ⟨b, o, none⟩) n cap l) (hA : A < n) (hL : A + N + M ≤ n) : NouFacts w b o n A N M H (noughtsB l A N M H) := by
  obtain ⟨b', o', e, hc⟩ := hT.cellAt hA
  cases e
  refine ⟨bAt l A, hc, ?_⟩
  unfold noughtsB
  rw [eq48]
  have hrest : ((decide (H + 1 < M) = false ∧ (decide (H + 1 < M) && bAt l (A + N + H) == 48) = false) ∨ (decide (H + 1 < M) = true ∧ H + 1 < M ∧ ∃ d : UInt8, w.cell? ⟨b, o + (A + N + H), none⟩ = some (.int .u8 (d.toNat : Int)) ∧ ((d.toNat : Int) == 48) = (decide (H + 1 < M) && bAt l (A + N + H) == 48))) := by
    by_cases h : H + 1 < M
    · right
      obtain ⟨b', o', e, hc'⟩ := hT.cellAt (show A + N + H < n by omega)
      cases e
      exact ⟨by simpa using h, h, _, hc', by rw [eq48]; simp [h]⟩
    · left
      simp [h]
  cases h1 : (((bAt l A).toNat : Int) == 48) <;> cases h2 : decide (1 < N)
  · right; exact ⟨.inr rfl, by simpa using hrest⟩
  · right; exact ⟨.inr rfl, by simpa using hrest⟩
  · right; exact ⟨.inl ⟨rfl, rfl⟩, by simpa using hrest⟩
  · left; exact ⟨rfl, rfl, rfl⟩

set_option maxHeartbeats 8000000 in
theorem refNumber_any (a : Option Addr) (n cap A : Nat) (l : List UInt8) (w : World) (hT : Txt w a n cap l) (hr : n ≤ 140737488351232) (hA : A < n) (hdig : digitB (bAt l A) = true) :
    Calls Tryd.prog 35 #[.slice a n cap, .int .i64 A] w fun e w' => RTok (refNum l A) w e w' := by
  have sf : ∀ (p : Addr) (b : Nat) (m : Mode) (w' : World), (store p (.float .f64 b) m).run Tryd.prog w' = stored Tryd.prog w' p (.float .f64 b) m := fun p b m w' => run_store _ w' p _ m rfl
  have hl := hT.1
  obtain ⟨b, o, rfl, hcell⟩ := hT.cellAt hA
  have hb : b < w.heap.size := World.block_lt_of_cell? w _ hcell
  clear hcell
  obtain ⟨N, hN⟩ : ∃ N, N = tw digitB l A := ⟨_, rfl⟩
  have hN1 : 1 ≤ N := by rw [hN, (tw_yes hdig digit0).2]; omega
  have hAN : A + N ≤ n := by rw [hN, ← hl]; exact tw_end l A (by omega)
  have hD1 : ∀ c ∈ (l.drop A).take N, 48 ≤ c.toNat ∧ c.toNat ≤ 57 := by rw [hN]; exact tw_digits l A
  obtain ⟨M, H, hMH, hL, hw⟩ : ∃ M H, endF l (A + N) = (M, H) ∧ A + N + M ≤ n ∧ ((M = 0 ∧ H = 0) ∨ ((H = 1 ∨ H = 2) ∧ H < M ∧ M - H = tw digitB l (A + N + H))) := by
    rcases endF_ways l (A + N) (by omega) with h | ⟨H, M, h1, h2, h3, h4, h5⟩
    · exact ⟨0, 0, h, hAN, .inl ⟨rfl, rfl⟩⟩
    · exact ⟨M, H, h2, by omega, .inr ⟨h1, h3, h5⟩⟩
  have hnum : refNum l A = (if (followsB l (A + N + M) || noughtsB l A N M H) = true then (zeroTok, 12)
      else if 0 < M then realT A N M ((l.drop A).take N) ((l.drop (A + N + H)).take (M - H)) (H == 2)
      else match refW ((l.drop A).take N) with | some v => (⟨2, [], v, 0, A, N⟩, 0) | none => (zeroTok, 12)) := by
    unfold refNum
    rw [← hN, hMH]
  have HFOL := Lib.hid (fol_facts (L := A + N + M) hT)
  have HNOU := Lib.hid (nou_facts (N := N) (M := M) (H := H) hT hA hL)
  have HDG : Hid (∀ W, Below w.heap.size w W → Calls Tryd.prog 62 #[.slice (some ⟨b, o, none⟩) n cap, .int .i64 A] W fun e w' => e = .returned (.int .i64 N) ∧ W = w') := by
    have : ∀ W, Below w.heap.size w W → Calls Tryd.prog 62 #[.slice (some ⟨b, o, none⟩) n cap, .int .i64 A] W fun e w' => e = .returned (.int .i64 N) ∧ W = w' := by
      intro W hW
      rw [hN]
      exact digits_any _ n cap A l W (hT.below hW (Nat.le_refl _)) hr (by omega)
    exact this
  have HEN : Hid (∀ W, Below w.heap.size w W → Calls Tryd.prog 63 #[.slice (some ⟨b, o, none⟩) n cap, .int .i64 ((A : Int) + (N : Int))] W fun e w' => e = .returned (.tuple #[.int .i64 M, .int .i64 H]) ∧ W = w') := by
    have : ∀ W, Below w.heap.size w W → Calls Tryd.prog 63 #[.slice (some ⟨b, o, none⟩) n cap, .int .i64 ((A : Int) + (N : Int))] W fun e w' => e = .returned (.tuple #[.int .i64 M, .int .i64 H]) ∧ W = w' := by
      intro W hW
      have := refEnd_any (some ⟨b, o, none⟩) n cap (A + N) l W (hT.below hW (Nat.le_refl _)) hr hAN
      rw [hMH] at this
      exact this
    exact this
  obtain ⟨fol, hfol⟩ : ∃ fol, fol = followsB l (A + N + M) := ⟨_, rfl⟩
  obtain ⟨nou, hnou⟩ : ∃ nou, nou = noughtsB l A N M H := ⟨_, rfl⟩
  rw [← hfol] at HFOL hnum
  rw [← hnou] at HNOU hnum
  have HNUM := Lib.hid hnum
  have HT := Lib.hid hT
  have HD1 := Lib.hid hD1
  have HW := Lib.hid hw
  have h48 : n ≤ 140737488351232 := hr
  have hMn : M ≤ n := by omega
  have hHn : H ≤ 2 := by omega
  clear hT hl hN hD1 hMH hw hnum hfol hnou hdig
  have hB0 : Below w.heap.size w (w.alloc (.cells #[.int .i64 0, .string ⟨#[]⟩, .int .i64 0, .float .f64 0, .int .i64 0, .int .i64 0] 54)) := (Below.refl w.heap.size w).alloc (Nat.le_refl _) _
  have HB0 := Lib.hid hB0
  clear hB0
  go_enter Tryd.func35, Tryd.ntmps35
  go_wp2_with fail
  refine (HDG.out _ HB0.out).mono ?_
  rintro e w1 ⟨rfl, rfl⟩
  go_wp2_with fail
  refine (HEN.out _ HB0.out).mono ?_
  rintro e w1 ⟨rfl, rfl⟩
  have hF := HFOL.out
  have hN := HNOU.out
  unfold FolFacts at hF
  unfold NouFacts at hN
  obtain ⟨c, hc0, hN⟩ := hN
  have hF2 := HFOL.out
  clear hF HFOL HNOU
  rcases hF2 with ⟨q1, rfl⟩ | ⟨q1, q1', d, hcd, q2⟩
  · have q1i : decide ((A : Int) + (N : Int) + (M : Int) < (n : Int)) = false := by rw [decide_eq_false_iff_not]; have := of_decide_eq_false q1; omega
    rcases hN with ⟨n1, n2, rfl⟩ | ⟨⟨n1, n2⟩ | n1, ⟨n3, rfl⟩ | ⟨n3, n3', d7, n4, n5⟩⟩
    · have p1 : decide ((1 : Int) < (N : Int)) = true := by rw [decide_eq_true_eq]; have := of_decide_eq_true n2; omega
      go_wp2_with fail
      refine bodyPost_ret (v := .tuple #[.agg #[.int .i64 0, .string ⟨#[]⟩, .int .i64 0, .float .f64 0, .int .i64 0, .int .i64 0], .int .i64 12]) (by simp [results, Tryd.results35, go_sem]) rfl ?_
      rw [HNUM.out, if_pos (by simp)]
      exact ⟨rfl, (Below.refl _ _).alloc (Nat.le_refl _) _⟩
    · have p1 : decide ((1 : Int) < (N : Int)) = false := by rw [decide_eq_false_iff_not]; have := of_decide_eq_false n2; omega
      have p2 : decide ((H : Int) + 1 < (M : Int)) = false := by rw [decide_eq_false_iff_not]; have := of_decide_eq_false n3; omega
      rcases Nat.eq_zero_or_pos M with hM0 | hM0
      · obtain ⟨rfl, rfl⟩ : M = 0 ∧ H = 0 := by have := HW.out; omega
        have q1l : decide ((A : Int) + (N : Int) < (n : Int)) = false := by simpa using q1i
        have q1m : decide (A + N < n) = false := by simpa using q1
        skip
        obtain ⟨a1, hs1, hT1⟩ := slice_mid A (A + N) HT.out (Nat.le_add_right _ _) hAN
        rw [Nat.add_sub_cancel_left] at hs1 hT1
        have hs1' : ∀ w', (Instr.slice 22 (.slice (some ⟨b, o, none⟩) n cap) (some (.int .i64 (A : Int))) (some (.int .i64 ((A : Int) + (N : Int)))) none).run Tryd.prog w' = .ok (.slice a1 N (cap - A)) w' := hs1
        obtain ⟨v, bl, hc1, hf1⟩ := refW_ways a1 N (cap - A) ((l.drop A).take N) (by omega) HD1.out
        have HC1 := Lib.hid (hc1 _ (hT1.below HB0.out (Nat.le_refl _)))
        have HF1 := Lib.hid hf1
        clear hs1 hT1 hc1 hf1
        go_wp2_with fail
        refine HC1.out.mono ?_
        rintro e w1 ⟨rfl, rfl⟩
        have hf1 := HF1.out
        rcases hf1 with ⟨rfl, f1, _⟩ | ⟨rfl, f1⟩
        · have F1 := Lib.hid f1
          clear f1 HF1
          go_wp2_with fail
          refine bodyPost_ret (v := .tuple #[.agg #[.int .i64 2, .string ⟨#[]⟩, .int .i64 v, .float .f64 0, .int .i64 A, .int .i64 N], .int .i64 0]) (by simp [results, Tryd.results35, go_sem]) rfl ?_
          rw [HNUM.out, if_neg (by simp), if_neg (by omega), F1.out]
          exact ⟨rfl, (Below.refl _ _).alloc (Nat.le_refl _) _⟩
        · have F1 := Lib.hid f1
          clear f1 HF1
          go_wp2_with fail
          refine bodyPost_ret (v := .tuple #[.agg #[.int .i64 0, .string ⟨#[]⟩, .int .i64 0, .float .f64 0, .int .i64 0, .int .i64 0], .int .i64 12]) (by simp [results, Tryd.results35, go_sem]) rfl ?_
          rw [HNUM.out, if_neg (by simp), if_neg (by omega), F1.out]
          exact ⟨rfl, (Below.refl _ _).alloc (Nat.le_refl _) _⟩
      · have hHM : (H = 1 ∨ H = 2) ∧ H < M ∧ M - H = tw digitB l (A + N + H) := by have := HW.out; omega
        obtain ⟨t, ht⟩ : ∃ t, t = realT A N M ((l.drop A).take N) ((l.drop (A + N + H)).take (M - H)) (H == 2) := ⟨_, rfl⟩
        have HRL : Hid (∀ W, Below w.heap.size w W → Calls Tryd.prog 64 #[.slice (some ⟨b, o, none⟩) n cap, .int .i64 A, .int .i64 N, .int .i64 M, .int .i64 H] W fun e w' => RTok t W e w') := by
          have : ∀ W, Below w.heap.size w W → Calls Tryd.prog 64 #[.slice (some ⟨b, o, none⟩) n cap, .int .i64 A, .int .i64 N, .int .i64 M, .int .i64 H] W fun e w' => RTok t W e w' := by
            intro W hW
            have hd2 : ∀ c ∈ (l.drop (A + N + H)).take (M - H), 48 ≤ c.toNat ∧ c.toNat ≤ 57 := by rw [hHM.2.2]; exact tw_digits l _
            rw [ht]
            rcases hHM.1 with h1 | h1
            · subst h1; exact refReal_up _ n cap A N M l W (HT.out.below hW (Nat.le_refl _)) h48 hL (by omega) HD1.out hd2
            · subst h1; exact refReal_down _ n cap A N M l W (HT.out.below hW (Nat.le_refl _)) h48 hL (by omega) HD1.out hd2
          exact this
        have HQ : Hid (refNum l A = t) := by
          have : refNum l A = t := by rw [HNUM.out, if_neg (by simp), if_pos (by omega), ht]
          exact this
        have hM1 : decide ((0 : Int) < (M : Int)) = true := by rw [decide_eq_true_eq]; omega
        have hM1' : decide (0 < M) = true := by rw [decide_eq_true_eq]; omega
        clear hHM ht HNUM HW
        go_wp2_with fail
        refine (HRL.out _ HB0.out).mono ?_
        rintro e w5 hrt
        obtain ⟨⟨k0, t0, i0, r0, a0, s0⟩, er⟩ := t
        obtain ⟨rfl, hb5⟩ := hrt
        unfold tokVal
        have hz5 : w.heap.size + 1 ≤ w5.heap.size := by have := hb5.size; simpa using this
        have cq : ∀ j, w5.cell? ⟨w.heap.size, j, none⟩ = _ := fun j => hb5.cell (p := ⟨w.heap.size, j, none⟩) (by simp)
        have fq : ∀ j, w5.frozen? ⟨w.heap.size, j, none⟩ = _ := fun j => hb5.frozen (p := ⟨w.heap.size, j, none⟩) (by simp)
        have z0 : w5.cell? ⟨w.heap.size, 0, none⟩ = some (.int .i64 0) := by rw [cq]; simp
        have z1 : w5.cell? ⟨w.heap.size, 1, none⟩ = some (.string ⟨#[]⟩) := by rw [cq]; simp
        have z2 : w5.cell? ⟨w.heap.size, 2, none⟩ = some (.int .i64 0) := by rw [cq]; simp
        have z3 : w5.cell? ⟨w.heap.size, 3, none⟩ = some (.float .f64 0) := by rw [cq]; simp
        have z4 : w5.cell? ⟨w.heap.size, 4, none⟩ = some (.int .i64 0) := by rw [cq]; simp
        have z5 : w5.cell? ⟨w.heap.size, 5, none⟩ = some (.int .i64 0) := by rw [cq]; simp
        have fz : ∀ j, w5.frozen? ⟨w.heap.size, j, none⟩ = false := fun j => by rw [fq]; simp
        have HB5 := Lib.hid (HB0.out.trans (hb5.mono (by simp)))
        have hlt5 : w.heap.size < w5.heap.size := by omega
        obtain ⟨wx, hwx⟩ : ∃ wx, wx = w5.alloc (.cells #[.int .i64 k0, .string ⟨t0.toArray⟩, .int .i64 i0, .float .f64 r0, .int .i64 a0, .int .i64 s0] 54) := ⟨_, rfl⟩
        have y0 : wx.cell? ⟨w.heap.size, 0, none⟩ = some (.int .i64 0) := by rw [hwx]; exact cell_keep _ z0
        have y1 : wx.cell? ⟨w.heap.size, 1, none⟩ = some (.string ⟨#[]⟩) := by rw [hwx]; exact cell_keep _ z1
        have y2 : wx.cell? ⟨w.heap.size, 2, none⟩ = some (.int .i64 0) := by rw [hwx]; exact cell_keep _ z2
        have y3 : wx.cell? ⟨w.heap.size, 3, none⟩ = some (.float .f64 0) := by rw [hwx]; exact cell_keep _ z3
        have y4 : wx.cell? ⟨w.heap.size, 4, none⟩ = some (.int .i64 0) := by rw [hwx]; exact cell_keep _ z4
        have y5 : wx.cell? ⟨w.heap.size, 5, none⟩ = some (.int .i64 0) := by rw [hwx]; exact cell_keep _ z5
        have x0 : wx.cell? ⟨w5.heap.size, 0, none⟩ = some (.int .i64 k0) := by rw [hwx]; simp
        have x1 : wx.cell? ⟨w5.heap.size, 1, none⟩ = some (.string ⟨t0.toArray⟩) := by rw [hwx]; simp
        have x2 : wx.cell? ⟨w5.heap.size, 2, none⟩ = some (.int .i64 i0) := by rw [hwx]; simp
        have x3 : wx.cell? ⟨w5.heap.size, 3, none⟩ = some (.float .f64 r0) := by rw [hwx]; simp
        have x4 : wx.cell? ⟨w5.heap.size, 4, none⟩ = some (.int .i64 a0) := by rw [hwx]; simp
        have x5 : wx.cell? ⟨w5.heap.size, 5, none⟩ = some (.int .i64 s0) := by rw [hwx]; simp
        have fy : ∀ j, wx.frozen? ⟨w.heap.size, j, none⟩ = false := fun j => by rw [hwx]; exact (((Below.refl w5.heap.size w5).alloc (Nat.le_refl _) _).frozen (p := ⟨w.heap.size, j, none⟩) hlt5).trans (fz j)
        have f0 := fy 0
        have f1 := fy 1
        have f2 := fy 2
        have f3 := fy 3
        have f4 := fy 4
        have f5 := fy 5
        have hBx : Below w.heap.size w wx := by rw [hwx]; exact HB5.out.alloc (by omega) _
        have HBX := Lib.hid hBx
        have HWX := Lib.hid hwx
        clear cq fq hb5 z0 z1 z2 z3 z4 z5 fz fy hBx hwx
        go_upto_region 10 with (fail)
        rw [← HWX.out]
        go_wp2_with fail
        refine bodyPost_ret (v := .tuple #[.agg #[.int .i64 k0, .string ⟨t0.toArray⟩, .int .i64 i0, .float .f64 r0, .int .i64 a0, .int .i64 s0], .int .i64 er]) (by simp [results, Tryd.results35, go_sem, y0, y1, y2, y3, y4, y5]) rfl ?_
        rw [HQ.out]
        refine ⟨rfl, ?_⟩
        exact below_six HBX.out _ _ _ _ _ _ (by simp) (by simp) (by simp) (by simp) (by simp) (by simp)
    · have p1 : decide ((1 : Int) < (N : Int)) = false := by rw [decide_eq_false_iff_not]; have := of_decide_eq_false n2; omega
      have p2 : decide ((H : Int) + 1 < (M : Int)) = true := by rw [decide_eq_true_eq]; omega
      cases hn : nou
      · rw [hn] at n5 HNUM
        clear hn
        have hM0 : 0 < M := by omega
        have hHM : (H = 1 ∨ H = 2) ∧ H < M ∧ M - H = tw digitB l (A + N + H) := by have := HW.out; omega
        obtain ⟨t, ht⟩ : ∃ t, t = realT A N M ((l.drop A).take N) ((l.drop (A + N + H)).take (M - H)) (H == 2) := ⟨_, rfl⟩
        have HRL : Hid (∀ W, Below w.heap.size w W → Calls Tryd.prog 64 #[.slice (some ⟨b, o, none⟩) n cap, .int .i64 A, .int .i64 N, .int .i64 M, .int .i64 H] W fun e w' => RTok t W e w') := by
          have : ∀ W, Below w.heap.size w W → Calls Tryd.prog 64 #[.slice (some ⟨b, o, none⟩) n cap, .int .i64 A, .int .i64 N, .int .i64 M, .int .i64 H] W fun e w' => RTok t W e w' := by
            intro W hW
            have hd2 : ∀ c ∈ (l.drop (A + N + H)).take (M - H), 48 ≤ c.toNat ∧ c.toNat ≤ 57 := by rw [hHM.2.2]; exact tw_digits l _
            rw [ht]
            rcases hHM.1 with h1 | h1
            · subst h1; exact refReal_up _ n cap A N M l W (HT.out.below hW (Nat.le_refl _)) h48 hL (by omega) HD1.out hd2
            · subst h1; exact refReal_down _ n cap A N M l W (HT.out.below hW (Nat.le_refl _)) h48 hL (by omega) HD1.out hd2
          exact this
        have HQ : Hid (refNum l A = t) := by
          have : refNum l A = t := by rw [HNUM.out, if_neg (by simp), if_pos (by omega), ht]
          exact this
        have hM1 : decide ((0 : Int) < (M : Int)) = true := by rw [decide_eq_true_eq]; omega
        have hM1' : decide (0 < M) = true := by rw [decide_eq_true_eq]; omega
        clear hHM ht HNUM HW
        go_wp2_with fail
        refine (HRL.out _ HB0.out).mono ?_
        rintro e w5 hrt
        obtain ⟨⟨k0, t0, i0, r0, a0, s0⟩, er⟩ := t
        obtain ⟨rfl, hb5⟩ := hrt
        unfold tokVal
        have hz5 : w.heap.size + 1 ≤ w5.heap.size := by have := hb5.size; simpa using this
        have cq : ∀ j, w5.cell? ⟨w.heap.size, j, none⟩ = _ := fun j => hb5.cell (p := ⟨w.heap.size, j, none⟩) (by simp)
        have fq : ∀ j, w5.frozen? ⟨w.heap.size, j, none⟩ = _ := fun j => hb5.frozen (p := ⟨w.heap.size, j, none⟩) (by simp)
        have z0 : w5.cell? ⟨w.heap.size, 0, none⟩ = some (.int .i64 0) := by rw [cq]; simp
        have z1 : w5.cell? ⟨w.heap.size, 1, none⟩ = some (.string ⟨#[]⟩) := by rw [cq]; simp
        have z2 : w5.cell? ⟨w.heap.size, 2, none⟩ = some (.int .i64 0) := by rw [cq]; simp
        have z3 : w5.cell? ⟨w.heap.size, 3, none⟩ = some (.float .f64 0) := by rw [cq]; simp
        have z4 : w5.cell? ⟨w.heap.size, 4, none⟩ = some (.int .i64 0) := by rw [cq]; simp
        have z5 : w5.cell? ⟨w.heap.size, 5, none⟩ = some (.int .i64 0) := by rw [cq]; simp
        have fz : ∀ j, w5.frozen? ⟨w.heap.size, j, none⟩ = false := fun j => by rw [fq]; simp
        have HB5 := Lib.hid (HB0.out.trans (hb5.mono (by simp)))
        have hlt5 : w.heap.size < w5.heap.size := by omega
        obtain ⟨wx, hwx⟩ : ∃ wx, wx = w5.alloc (.cells #[.int .i64 k0, .string ⟨t0.toArray⟩, .int .i64 i0, .float .f64 r0, .int .i64 a0, .int .i64 s0] 54) := ⟨_, rfl⟩
        have y0 : wx.cell? ⟨w.heap.size, 0, none⟩ = some (.int .i64 0) := by rw [hwx]; exact cell_keep _ z0
        have y1 : wx.cell? ⟨w.heap.size, 1, none⟩ = some (.string ⟨#[]⟩) := by rw [hwx]; exact cell_keep _ z1
        have y2 : wx.cell? ⟨w.heap.size, 2, none⟩ = some (.int .i64 0) := by rw [hwx]; exact cell_keep _ z2
        have y3 : wx.cell? ⟨w.heap.size, 3, none⟩ = some (.float .f64 0) := by rw [hwx]; exact cell_keep _ z3
        have y4 : wx.cell? ⟨w.heap.size, 4, none⟩ = some (.int .i64 0) := by rw [hwx]; exact cell_keep _ z4
        have y5 : wx.cell? ⟨w.heap.size, 5, none⟩ = some (.int .i64 0) := by rw [hwx]; exact cell_keep _ z5
        have x0 : wx.cell? ⟨w5.heap.size, 0, none⟩ = some (.int .i64 k0) := by rw [hwx]; simp
        have x1 : wx.cell? ⟨w5.heap.size, 1, none⟩ = some (.string ⟨t0.toArray⟩) := by rw [hwx]; simp
        have x2 : wx.cell? ⟨w5.heap.size, 2, none⟩ = some (.int .i64 i0) := by rw [hwx]; simp
        have x3 : wx.cell? ⟨w5.heap.size, 3, none⟩ = some (.float .f64 r0) := by rw [hwx]; simp
        have x4 : wx.cell? ⟨w5.heap.size, 4, none⟩ = some (.int .i64 a0) := by rw [hwx]; simp
        have x5 : wx.cell? ⟨w5.heap.size, 5, none⟩ = some (.int .i64 s0) := by rw [hwx]; simp
        have fy : ∀ j, wx.frozen? ⟨w.heap.size, j, none⟩ = false := fun j => by rw [hwx]; exact (((Below.refl w5.heap.size w5).alloc (Nat.le_refl _) _).frozen (p := ⟨w.heap.size, j, none⟩) hlt5).trans (fz j)
        have f0 := fy 0
        have f1 := fy 1
        have f2 := fy 2
        have f3 := fy 3
        have f4 := fy 4
        have f5 := fy 5
        have hBx : Below w.heap.size w wx := by rw [hwx]; exact HB5.out.alloc (by omega) _
        have HBX := Lib.hid hBx
        have HWX := Lib.hid hwx
        clear cq fq hb5 z0 z1 z2 z3 z4 z5 fz fy hBx hwx
        go_upto_region 10 with (fail)
        rw [← HWX.out]
        go_wp2_with fail
        refine bodyPost_ret (v := .tuple #[.agg #[.int .i64 k0, .string ⟨t0.toArray⟩, .int .i64 i0, .float .f64 r0, .int .i64 a0, .int .i64 s0], .int .i64 er]) (by simp [results, Tryd.results35, go_sem, y0, y1, y2, y3, y4, y5]) rfl ?_
        rw [HQ.out]
        refine ⟨rfl, ?_⟩
        exact below_six HBX.out _ _ _ _ _ _ (by simp) (by simp) (by simp) (by simp) (by simp) (by simp)
      · rw [hn] at n5 HNUM
        clear hn
        go_wp2_with fail
        refine bodyPost_ret (v := .tuple #[.agg #[.int .i64 0, .string ⟨#[]⟩, .int .i64 0, .float .f64 0, .int .i64 0, .int .i64 0], .int .i64 12]) (by simp [results, Tryd.results35, go_sem]) rfl ?_
        rw [HNUM.out, if_pos (by simp)]
        exact ⟨rfl, (Below.refl _ _).alloc (Nat.le_refl _) _⟩
    · have p2 : decide ((H : Int) + 1 < (M : Int)) = false := by rw [decide_eq_false_iff_not]; have := of_decide_eq_false n3; omega
      rcases Nat.eq_zero_or_pos M with hM0 | hM0
      · obtain ⟨rfl, rfl⟩ : M = 0 ∧ H = 0 := by have := HW.out; omega
        have q1l : decide ((A : Int) + (N : Int) < (n : Int)) = false := by simpa using q1i
        have q1m : decide (A + N < n) = false := by simpa using q1
        skip
        obtain ⟨a1, hs1, hT1⟩ := slice_mid A (A + N) HT.out (Nat.le_add_right _ _) hAN
        rw [Nat.add_sub_cancel_left] at hs1 hT1
        have hs1' : ∀ w', (Instr.slice 22 (.slice (some ⟨b, o, none⟩) n cap) (some (.int .i64 (A : Int))) (some (.int .i64 ((A : Int) + (N : Int)))) none).run Tryd.prog w' = .ok (.slice a1 N (cap - A)) w' := hs1
        obtain ⟨v, bl, hc1, hf1⟩ := refW_ways a1 N (cap - A) ((l.drop A).take N) (by omega) HD1.out
        have HC1 := Lib.hid (hc1 _ (hT1.below HB0.out (Nat.le_refl _)))
        have HF1 := Lib.hid hf1
        clear hs1 hT1 hc1 hf1
        go_wp2_with fail
        refine HC1.out.mono ?_
        rintro e w1 ⟨rfl, rfl⟩
        have hf1 := HF1.out
        rcases hf1 with ⟨rfl, f1, _⟩ | ⟨rfl, f1⟩
        · have F1 := Lib.hid f1
          clear f1 HF1
          go_wp2_with fail
          refine bodyPost_ret (v := .tuple #[.agg #[.int .i64 2, .string ⟨#[]⟩, .int .i64 v, .float .f64 0, .int .i64 A, .int .i64 N], .int .i64 0]) (by simp [results, Tryd.results35, go_sem]) rfl ?_
          rw [HNUM.out, if_neg (by simp), if_neg (by omega), F1.out]
          exact ⟨rfl, (Below.refl _ _).alloc (Nat.le_refl _) _⟩
        · have F1 := Lib.hid f1
          clear f1 HF1
          go_wp2_with fail
          refine bodyPost_ret (v := .tuple #[.agg #[.int .i64 0, .string ⟨#[]⟩, .int .i64 0, .float .f64 0, .int .i64 0, .int .i64 0], .int .i64 12]) (by simp [results, Tryd.results35, go_sem]) rfl ?_
          rw [HNUM.out, if_neg (by simp), if_neg (by omega), F1.out]
          exact ⟨rfl, (Below.refl _ _).alloc (Nat.le_refl _) _⟩
      · have hHM : (H = 1 ∨ H = 2) ∧ H < M ∧ M - H = tw digitB l (A + N + H) := by have := HW.out; omega
        obtain ⟨t, ht⟩ : ∃ t, t = realT A N M ((l.drop A).take N) ((l.drop (A + N + H)).take (M - H)) (H == 2) := ⟨_, rfl⟩
        have HRL : Hid (∀ W, Below w.heap.size w W → Calls Tryd.prog 64 #[.slice (some ⟨b, o, none⟩) n cap, .int .i64 A, .int .i64 N, .int .i64 M, .int .i64 H] W fun e w' => RTok t W e w') := by
          have : ∀ W, Below w.heap.size w W → Calls Tryd.prog 64 #[.slice (some ⟨b, o, none⟩) n cap, .int .i64 A, .int .i64 N, .int .i64 M, .int .i64 H] W fun e w' => RTok t W e w' := by
            intro W hW
            have hd2 : ∀ c ∈ (l.drop (A + N + H)).take (M - H), 48 ≤ c.toNat ∧ c.toNat ≤ 57 := by rw [hHM.2.2]; exact tw_digits l _
            rw [ht]
            rcases hHM.1 with h1 | h1
            · subst h1; exact refReal_up _ n cap A N M l W (HT.out.below hW (Nat.le_refl _)) h48 hL (by omega) HD1.out hd2
            · subst h1; exact refReal_down _ n cap A N M l W (HT.out.below hW (Nat.le_refl _)) h48 hL (by omega) HD1.out hd2
          exact this
        have HQ : Hid (refNum l A = t) := by
          have : refNum l A = t := by rw [HNUM.out, if_neg (by simp), if_pos (by omega), ht]
          exact this
        have hM1 : decide ((0 : Int) < (M : Int)) = true := by rw [decide_eq_true_eq]; omega
        have hM1' : decide (0 < M) = true := by rw [decide_eq_true_eq]; omega
        clear hHM ht HNUM HW
        go_wp2_with fail
        refine (HRL.out _ HB0.out).mono ?_
        rintro e w5 hrt
        obtain ⟨⟨k0, t0, i0, r0, a0, s0⟩, er⟩ := t
        obtain ⟨rfl, hb5⟩ := hrt
        unfold tokVal
        have hz5 : w.heap.size + 1 ≤ w5.heap.size := by have := hb5.size; simpa using this
        have cq : ∀ j, w5.cell? ⟨w.heap.size, j, none⟩ = _ := fun j => hb5.cell (p := ⟨w.heap.size, j, none⟩) (by simp)
        have fq : ∀ j, w5.frozen? ⟨w.heap.size, j, none⟩ = _ := fun j => hb5.frozen (p := ⟨w.heap.size, j, none⟩) (by simp)
        have z0 : w5.cell? ⟨w.heap.size, 0, none⟩ = some (.int .i64 0) := by rw [cq]; simp
        have z1 : w5.cell? ⟨w.heap.size, 1, none⟩ = some (.string ⟨#[]⟩) := by rw [cq]; simp
        have z2 : w5.cell? ⟨w.heap.size, 2, none⟩ = some (.int .i64 0) := by rw [cq]; simp
        have z3 : w5.cell? ⟨w.heap.size, 3, none⟩ = some (.float .f64 0) := by rw [cq]; simp
        have z4 : w5.cell? ⟨w.heap.size, 4, none⟩ = some (.int .i64 0) := by rw [cq]; simp
        have z5 : w5.cell? ⟨w.heap.size, 5, none⟩ = some (.int .i64 0) := by rw [cq]; simp
        have fz : ∀ j, w5.frozen? ⟨w.heap.size, j, none⟩ = false := fun j => by rw [fq]; simp
        have HB5 := Lib.hid (HB0.out.trans (hb5.mono (by simp)))
        have hlt5 : w.heap.size < w5.heap.size := by omega
        obtain ⟨wx, hwx⟩ : ∃ wx, wx = w5.alloc (.cells #[.int .i64 k0, .string ⟨t0.toArray⟩, .int .i64 i0, .float .f64 r0, .int .i64 a0, .int .i64 s0] 54) := ⟨_, rfl⟩
        have y0 : wx.cell? ⟨w.heap.size, 0, none⟩ = some (.int .i64 0) := by rw [hwx]; exact cell_keep _ z0
        have y1 : wx.cell? ⟨w.heap.size, 1, none⟩ = some (.string ⟨#[]⟩) := by rw [hwx]; exact cell_keep _ z1
        have y2 : wx.cell? ⟨w.heap.size, 2, none⟩ = some (.int .i64 0) := by rw [hwx]; exact cell_keep _ z2
        have y3 : wx.cell? ⟨w.heap.size, 3, none⟩ = some (.float .f64 0) := by rw [hwx]; exact cell_keep _ z3
        have y4 : wx.cell? ⟨w.heap.size, 4, none⟩ = some (.int .i64 0) := by rw [hwx]; exact cell_keep _ z4
        have y5 : wx.cell? ⟨w.heap.size, 5, none⟩ = some (.int .i64 0) := by rw [hwx]; exact cell_keep _ z5
        have x0 : wx.cell? ⟨w5.heap.size, 0, none⟩ = some (.int .i64 k0) := by rw [hwx]; simp
        have x1 : wx.cell? ⟨w5.heap.size, 1, none⟩ = some (.string ⟨t0.toArray⟩) := by rw [hwx]; simp
        have x2 : wx.cell? ⟨w5.heap.size, 2, none⟩ = some (.int .i64 i0) := by rw [hwx]; simp
        have x3 : wx.cell? ⟨w5.heap.size, 3, none⟩ = some (.float .f64 r0) := by rw [hwx]; simp
        have x4 : wx.cell? ⟨w5.heap.size, 4, none⟩ = some (.int .i64 a0) := by rw [hwx]; simp
        have x5 : wx.cell? ⟨w5.heap.size, 5, none⟩ = some (.int .i64 s0) := by rw [hwx]; simp
        have fy : ∀ j, wx.frozen? ⟨w.heap.size, j, none⟩ = false := fun j => by rw [hwx]; exact (((Below.refl w5.heap.size w5).alloc (Nat.le_refl _) _).frozen (p := ⟨w.heap.size, j, none⟩) hlt5).trans (fz j)
        have f0 := fy 0
        have f1 := fy 1
        have f2 := fy 2
        have f3 := fy 3
        have f4 := fy 4
        have f5 := fy 5
        have hBx : Below w.heap.size w wx := by rw [hwx]; exact HB5.out.alloc (by omega) _
        have HBX := Lib.hid hBx
        have HWX := Lib.hid hwx
        clear cq fq hb5 z0 z1 z2 z3 z4 z5 fz fy hBx hwx
        go_upto_region 10 with (fail)
        rw [← HWX.out]
        go_wp2_with fail
        refine bodyPost_ret (v := .tuple #[.agg #[.int .i64 k0, .string ⟨t0.toArray⟩, .int .i64 i0, .float .f64 r0, .int .i64 a0, .int .i64 s0], .int .i64 er]) (by simp [results, Tryd.results35, go_sem, y0, y1, y2, y3, y4, y5]) rfl ?_
        rw [HQ.out]
        refine ⟨rfl, ?_⟩
        exact below_six HBX.out _ _ _ _ _ _ (by simp) (by simp) (by simp) (by simp) (by simp) (by simp)
    · have p2 : decide ((H : Int) + 1 < (M : Int)) = true := by rw [decide_eq_true_eq]; omega
      cases hn : nou
      · rw [hn] at n5 HNUM
        clear hn
        have hM0 : 0 < M := by omega
        have hHM : (H = 1 ∨ H = 2) ∧ H < M ∧ M - H = tw digitB l (A + N + H) := by have := HW.out; omega
        obtain ⟨t, ht⟩ : ∃ t, t = realT A N M ((l.drop A).take N) ((l.drop (A + N + H)).take (M - H)) (H == 2) := ⟨_, rfl⟩
        have HRL : Hid (∀ W, Below w.heap.size w W → Calls Tryd.prog 64 #[.slice (some ⟨b, o, none⟩) n cap, .int .i64 A, .int .i64 N, .int .i64 M, .int .i64 H] W fun e w' => RTok t W e w') := by
          have : ∀ W, Below w.heap.size w W → Calls Tryd.prog 64 #[.slice (some ⟨b, o, none⟩) n cap, .int .i64 A, .int .i64 N, .int .i64 M, .int .i64 H] W fun e w' => RTok t W e w' := by
            intro W hW
            have hd2 : ∀ c ∈ (l.drop (A + N + H)).take (M - H), 48 ≤ c.toNat ∧ c.toNat ≤ 57 := by rw [hHM.2.2]; exact tw_digits l _
            rw [ht]
            rcases hHM.1 with h1 | h1
            · subst h1; exact refReal_up _ n cap A N M l W (HT.out.below hW (Nat.le_refl _)) h48 hL (by omega) HD1.out hd2
            · subst h1; exact refReal_down _ n cap A N M l W (HT.out.below hW (Nat.le_refl _)) h48 hL (by omega) HD1.out hd2
          exact this
        have HQ : Hid (refNum l A = t) := by
          have : refNum l A = t := by rw [HNUM.out, if_neg (by simp), if_pos (by omega), ht]
          exact this
        have hM1 : decide ((0 : Int) < (M : Int)) = true := by rw [decide_eq_true_eq]; omega
        have hM1' : decide (0 < M) = true := by rw [decide_eq_true_eq]; omega
        clear hHM ht HNUM HW
        go_wp2_with fail
        refine (HRL.out _ HB0.out).mono ?_
        rintro e w5 hrt
        obtain ⟨⟨k0, t0, i0, r0, a0, s0⟩, er⟩ := t
        obtain ⟨rfl, hb5⟩ := hrt
        unfold tokVal
        have hz5 : w.heap.size + 1 ≤ w5.heap.size := by have := hb5.size; simpa using this
        have cq : ∀ j, w5.cell? ⟨w.heap.size, j, none⟩ = _ := fun j => hb5.cell (p := ⟨w.heap.size, j, none⟩) (by simp)
        have fq : ∀ j, w5.frozen? ⟨w.heap.size, j, none⟩ = _ := fun j => hb5.frozen (p := ⟨w.heap.size, j, none⟩) (by simp)
        have z0 : w5.cell? ⟨w.heap.size, 0, none⟩ = some (.int .i64 0) := by rw [cq]; simp
        have z1 : w5.cell? ⟨w.heap.size, 1, none⟩ = some (.string ⟨#[]⟩) := by rw [cq]; simp
        have z2 : w5.cell? ⟨w.heap.size, 2, none⟩ = some (.int .i64 0) := by rw [cq]; simp
        have z3 : w5.cell? ⟨w.heap.size, 3, none⟩ = some (.float .f64 0) := by rw [cq]; simp
        have z4 : w5.cell? ⟨w.heap.size, 4, none⟩ = some (.int .i64 0) := by rw [cq]; simp
        have z5 : w5.cell? ⟨w.heap.size, 5, none⟩ = some (.int .i64 0) := by rw [cq]; simp
        have fz : ∀ j, w5.frozen? ⟨w.heap.size, j, none⟩ = false := fun j => by rw [fq]; simp
        have HB5 := Lib.hid (HB0.out.trans (hb5.mono (by simp)))
        have hlt5 : w.heap.size < w5.heap.size := by omega
        obtain ⟨wx, hwx⟩ : ∃ wx, wx = w5.alloc (.cells #[.int .i64 k0, .string ⟨t0.toArray⟩, .int .i64 i0, .float .f64 r0, .int .i64 a0, .int .i64 s0] 54) := ⟨_, rfl⟩
        have y0 : wx.cell? ⟨w.heap.size, 0, none⟩ = some (.int .i64 0) := by rw [hwx]; exact cell_keep _ z0
        have y1 : wx.cell? ⟨w.heap.size, 1, none⟩ = some (.string ⟨#[]⟩) := by rw [hwx]; exact cell_keep _ z1
        have y2 : wx.cell? ⟨w.heap.size, 2, none⟩ = some (.int .i64 0) := by rw [hwx]; exact cell_keep _ z2
        have y3 : wx.cell? ⟨w.heap.size, 3, none⟩ = some (.float .f64 0) := by rw [hwx]; exact cell_keep _ z3
        have y4 : wx.cell? ⟨w.heap.size, 4, none⟩ = some (.int .i64 0) := by rw [hwx]; exact cell_keep _ z4
        have y5 : wx.cell? ⟨w.heap.size, 5, none⟩ = some (.int .i64 0) := by rw [hwx]; exact cell_keep _ z5
        have x0 : wx.cell? ⟨w5.heap.size, 0, none⟩ = some (.int .i64 k0) := by rw [hwx]; simp
        have x1 : wx.cell? ⟨w5.heap.size, 1, none⟩ = some (.string ⟨t0.toArray⟩) := by rw [hwx]; simp
        have x2 : wx.cell? ⟨w5.heap.size, 2, none⟩ = some (.int .i64 i0) := by rw [hwx]; simp
        have x3 : wx.cell? ⟨w5.heap.size, 3, none⟩ = some (.float .f64 r0) := by rw [hwx]; simp
        have x4 : wx.cell? ⟨w5.heap.size, 4, none⟩ = some (.int .i64 a0) := by rw [hwx]; simp
        have x5 : wx.cell? ⟨w5.heap.size, 5, none⟩ = some (.int .i64 s0) := by rw [hwx]; simp
        have fy : ∀ j, wx.frozen? ⟨w.heap.size, j, none⟩ = false := fun j => by rw [hwx]; exact (((Below.refl w5.heap.size w5).alloc (Nat.le_refl _) _).frozen (p := ⟨w.heap.size, j, none⟩) hlt5).trans (fz j)
        have f0 := fy 0
        have f1 := fy 1
        have f2 := fy 2
        have f3 := fy 3
        have f4 := fy 4
        have f5 := fy 5
        have hBx : Below w.heap.size w wx := by rw [hwx]; exact HB5.out.alloc (by omega) _
        have HBX := Lib.hid hBx
        have HWX := Lib.hid hwx
        clear cq fq hb5 z0 z1 z2 z3 z4 z5 fz fy hBx hwx
        go_upto_region 10 with (fail)
        rw [← HWX.out]
        go_wp2_with fail
        refine bodyPost_ret (v := .tuple #[.agg #[.int .i64 k0, .string ⟨t0.toArray⟩, .int .i64 i0, .float .f64 r0, .int .i64 a0, .int .i64 s0], .int .i64 er]) (by simp [results, Tryd.results35, go_sem, y0, y1, y2, y3, y4, y5]) rfl ?_
        rw [HQ.out]
        refine ⟨rfl, ?_⟩
        exact below_six HBX.out _ _ _ _ _ _ (by simp) (by simp) (by simp) (by simp) (by simp) (by simp)
      · rw [hn] at n5 HNUM
        clear hn
        go_wp2_with fail
        refine bodyPost_ret (v := .tuple #[.agg #[.int .i64 0, .string ⟨#[]⟩, .int .i64 0, .float .f64 0, .int .i64 0, .int .i64 0], .int .i64 12]) (by simp [results, Tryd.results35, go_sem]) rfl ?_
        rw [HNUM.out, if_pos (by simp)]
        exact ⟨rfl, (Below.refl _ _).alloc (Nat.le_refl _) _⟩
  · have q1i : decide ((A : Int) + (N : Int) + (M : Int) < (n : Int)) = true := by rw [decide_eq_true_eq]; omega
    have hcd' := hcd w (fun _ => rfl)
    have hLt := fun W => refLetter_any d W
    have hDt := fun W => refDigit_any d W
    rcases q2 with ⟨e1, rfl⟩ | ⟨e1, e2, rfl⟩ | ⟨e1, e2, e3, rfl⟩ | ⟨e1, e2, e3, rfl⟩
    · rw [e1] at hLt
      have HLt := Lib.hid hLt
      have HDt := Lib.hid hDt
      clear hLt hDt e1
      rcases hN with ⟨n1, n2, rfl⟩ | ⟨⟨n1, n2⟩ | n1, ⟨n3, rfl⟩ | ⟨n3, n3', d7, n4, n5⟩⟩
      · have p1 : decide ((1 : Int) < (N : Int)) = true := by rw [decide_eq_true_eq]; have := of_decide_eq_true n2; omega
        go_wp2_with (first | (go_at_call 33; refine (HLt.out _).mono ?_; rintro e w' ⟨rfl, rfl⟩) | (go_at_call 34; refine (HDt.out _).mono ?_; rintro e w' ⟨rfl, rfl⟩))
        refine bodyPost_ret (v := .tuple #[.agg #[.int .i64 0, .string ⟨#[]⟩, .int .i64 0, .float .f64 0, .int .i64 0, .int .i64 0], .int .i64 12]) (by simp [results, Tryd.results35, go_sem]) rfl ?_
        rw [HNUM.out, if_pos (by simp)]
        exact ⟨rfl, (Below.refl _ _).alloc (Nat.le_refl _) _⟩
      · have p1 : decide ((1 : Int) < (N : Int)) = false := by rw [decide_eq_false_iff_not]; have := of_decide_eq_false n2; omega
        have p2 : decide ((H : Int) + 1 < (M : Int)) = false := by rw [decide_eq_false_iff_not]; have := of_decide_eq_false n3; omega
        go_wp2_with (first | (go_at_call 33; refine (HLt.out _).mono ?_; rintro e w' ⟨rfl, rfl⟩) | (go_at_call 34; refine (HDt.out _).mono ?_; rintro e w' ⟨rfl, rfl⟩))
        refine bodyPost_ret (v := .tuple #[.agg #[.int .i64 0, .string ⟨#[]⟩, .int .i64 0, .float .f64 0, .int .i64 0, .int .i64 0], .int .i64 12]) (by simp [results, Tryd.results35, go_sem]) rfl ?_
        rw [HNUM.out, if_pos (by simp)]
        exact ⟨rfl, (Below.refl _ _).alloc (Nat.le_refl _) _⟩
      · have p1 : decide ((1 : Int) < (N : Int)) = false := by rw [decide_eq_false_iff_not]; have := of_decide_eq_false n2; omega
        have p2 : decide ((H : Int) + 1 < (M : Int)) = true := by rw [decide_eq_true_eq]; omega
        cases hn : nou
        · rw [hn] at n5 HNUM
          clear hn
          go_wp2_with (first | (go_at_call 33; refine (HLt.out _).mono ?_; rintro e w' ⟨rfl, rfl⟩) | (go_at_call 34; refine (HDt.out _).mono ?_; rintro e w' ⟨rfl, rfl⟩))
          refine bodyPost_ret (v := .tuple #[.agg #[.int .i64 0, .string ⟨#[]⟩, .int .i64 0, .float .f64 0, .int .i64 0, .int .i64 0], .int .i64 12]) (by simp [results, Tryd.results35, go_sem]) rfl ?_
          rw [HNUM.out, if_pos (by simp)]
          exact ⟨rfl, (Below.refl _ _).alloc (Nat.le_refl _) _⟩
        · rw [hn] at n5 HNUM
          clear hn
          go_wp2_with (first | (go_at_call 33; refine (HLt.out _).mono ?_; rintro e w' ⟨rfl, rfl⟩) | (go_at_call 34; refine (HDt.out _).mono ?_; rintro e w' ⟨rfl, rfl⟩))
          refine bodyPost_ret (v := .tuple #[.agg #[.int .i64 0, .string ⟨#[]⟩, .int .i64 0, .float .f64 0, .int .i64 0, .int .i64 0], .int .i64 12]) (by simp [results, Tryd.results35, go_sem]) rfl ?_
          rw [HNUM.out, if_pos (by simp)]
          exact ⟨rfl, (Below.refl _ _).alloc (Nat.le_refl _) _⟩
      · have p2 : decide ((H : Int) + 1 < (M : Int)) = false := by rw [decide_eq_false_iff_not]; have := of_decide_eq_false n3; omega
        go_wp2_with (first | (go_at_call 33; refine (HLt.out _).mono ?_; rintro e w' ⟨rfl, rfl⟩) | (go_at_call 34; refine (HDt.out _).mono ?_; rintro e w' ⟨rfl, rfl⟩))
        refine bodyPost_ret (v := .tuple #[.agg #[.int .i64 0, .string ⟨#[]⟩, .int .i64 0, .float .f64 0, .int .i64 0, .int .i64 0], .int .i64 12]) (by simp [results, Tryd.results35, go_sem]) rfl ?_
        rw [HNUM.out, if_pos (by simp)]
        exact ⟨rfl, (Below.refl _ _).alloc (Nat.le_refl _) _⟩
      · have p2 : decide ((H : Int) + 1 < (M : Int)) = true := by rw [decide_eq_true_eq]; omega
        cases hn : nou
        · rw [hn] at n5 HNUM
          clear hn
          go_wp2_with (first | (go_at_call 33; refine (HLt.out _).mono ?_; rintro e w' ⟨rfl, rfl⟩) | (go_at_call 34; refine (HDt.out _).mono ?_; rintro e w' ⟨rfl, rfl⟩))
          refine bodyPost_ret (v := .tuple #[.agg #[.int .i64 0, .string ⟨#[]⟩, .int .i64 0, .float .f64 0, .int .i64 0, .int .i64 0], .int .i64 12]) (by simp [results, Tryd.results35, go_sem]) rfl ?_
          rw [HNUM.out, if_pos (by simp)]
          exact ⟨rfl, (Below.refl _ _).alloc (Nat.le_refl _) _⟩
        · rw [hn] at n5 HNUM
          clear hn
          go_wp2_with (first | (go_at_call 33; refine (HLt.out _).mono ?_; rintro e w' ⟨rfl, rfl⟩) | (go_at_call 34; refine (HDt.out _).mono ?_; rintro e w' ⟨rfl, rfl⟩))
          refine bodyPost_ret (v := .tuple #[.agg #[.int .i64 0, .string ⟨#[]⟩, .int .i64 0, .float .f64 0, .int .i64 0, .int .i64 0], .int .i64 12]) (by simp [results, Tryd.results35, go_sem]) rfl ?_
          rw [HNUM.out, if_pos (by simp)]
          exact ⟨rfl, (Below.refl _ _).alloc (Nat.le_refl _) _⟩
    · rw [e1] at hLt
      rw [e2] at hDt
      have HLt := Lib.hid hLt
      have HDt := Lib.hid hDt
      clear hLt hDt e1 e2
      rcases hN with ⟨n1, n2, rfl⟩ | ⟨⟨n1, n2⟩ | n1, ⟨n3, rfl⟩ | ⟨n3, n3', d7, n4, n5⟩⟩
      · have p1 : decide ((1 : Int) < (N : Int)) = true := by rw [decide_eq_true_eq]; have := of_decide_eq_true n2; omega
        go_wp2_with (first | (go_at_call 33; refine (HLt.out _).mono ?_; rintro e w' ⟨rfl, rfl⟩) | (go_at_call 34; refine (HDt.out _).mono ?_; rintro e w' ⟨rfl, rfl⟩))
        refine bodyPost_ret (v := .tuple #[.agg #[.int .i64 0, .string ⟨#[]⟩, .int .i64 0, .float .f64 0, .int .i64 0, .int .i64 0], .int .i64 12]) (by simp [results, Tryd.results35, go_sem]) rfl ?_
        rw [HNUM.out, if_pos (by simp)]
        exact ⟨rfl, (Below.refl _ _).alloc (Nat.le_refl _) _⟩
      · have p1 : decide ((1 : Int) < (N : Int)) = false := by rw [decide_eq_false_iff_not]; have := of_decide_eq_false n2; omega
        have p2 : decide ((H : Int) + 1 < (M : Int)) = false := by rw [decide_eq_false_iff_not]; have := of_decide_eq_false n3; omega
        go_wp2_with (first | (go_at_call 33; refine (HLt.out _).mono ?_; rintro e w' ⟨rfl, rfl⟩) | (go_at_call 34; refine (HDt.out _).mono ?_; rintro e w' ⟨rfl, rfl⟩))
        refine bodyPost_ret (v := .tuple #[.agg #[.int .i64 0, .string ⟨#[]⟩, .int .i64 0, .float .f64 0, .int .i64 0, .int .i64 0], .int .i64 12]) (by simp [results, Tryd.results35, go_sem]) rfl ?_
        rw [HNUM.out, if_pos (by simp)]
        exact ⟨rfl, (Below.refl _ _).alloc (Nat.le_refl _) _⟩
      · have p1 : decide ((1 : Int) < (N : Int)) = false := by rw [decide_eq_false_iff_not]; have := of_decide_eq_false n2; omega
        have p2 : decide ((H : Int) + 1 < (M : Int)) = true := by rw [decide_eq_true_eq]; omega
        cases hn : nou
        · rw [hn] at n5 HNUM
          clear hn
          go_wp2_with (first | (go_at_call 33; refine (HLt.out _).mono ?_; rintro e w' ⟨rfl, rfl⟩) | (go_at_call 34; refine (HDt.out _).mono ?_; rintro e w' ⟨rfl, rfl⟩))
          refine bodyPost_ret (v := .tuple #[.agg #[.int .i64 0, .string ⟨#[]⟩, .int .i64 0, .float .f64 0, .int .i64 0, .int .i64 0], .int .i64 12]) (by simp [results, Tryd.results35, go_sem]) rfl ?_
          rw [HNUM.out, if_pos (by simp)]
          exact ⟨rfl, (Below.refl _ _).alloc (Nat.le_refl _) _⟩
        · rw [hn] at n5 HNUM
          clear hn
          go_wp2_with (first | (go_at_call 33; refine (HLt.out _).mono ?_; rintro e w' ⟨rfl, rfl⟩) | (go_at_call 34; refine (HDt.out _).mono ?_; rintro e w' ⟨rfl, rfl⟩))
          refine bodyPost_ret (v := .tuple #[.agg #[.int .i64 0, .string ⟨#[]⟩, .int .i64 0, .float .f64 0, .int .i64 0, .int .i64 0], .int .i64 12]) (by simp [results, Tryd.results35, go_sem]) rfl ?_
          rw [HNUM.out, if_pos (by simp)]
          exact ⟨rfl, (Below.refl _ _).alloc (Nat.le_refl _) _⟩
      · have p2 : decide ((H : Int) + 1 < (M : Int)) = false := by rw [decide_eq_false_iff_not]; have := of_decide_eq_false n3; omega
        go_wp2_with (first | (go_at_call 33; refine (HLt.out _).mono ?_; rintro e w' ⟨rfl, rfl⟩) | (go_at_call 34; refine (HDt.out _).mono ?_; rintro e w' ⟨rfl, rfl⟩))
        refine bodyPost_ret (v := .tuple #[.agg #[.int .i64 0, .string ⟨#[]⟩, .int .i64 0, .float .f64 0, .int .i64 0, .int .i64 0], .int .i64 12]) (by simp [results, Tryd.results35, go_sem]) rfl ?_
        rw [HNUM.out, if_pos (by simp)]
        exact ⟨rfl, (Below.refl _ _).alloc (Nat.le_refl _) _⟩
      · have p2 : decide ((H : Int) + 1 < (M : Int)) = true := by rw [decide_eq_true_eq]; omega
        cases hn : nou
        · rw [hn] at n5 HNUM
          clear hn
          go_wp2_with (first | (go_at_call 33; refine (HLt.out _).mono ?_; rintro e w' ⟨rfl, rfl⟩) | (go_at_call 34; refine (HDt.out _).mono ?_; rintro e w' ⟨rfl, rfl⟩))
          refine bodyPost_ret (v := .tuple #[.agg #[.int .i64 0, .string ⟨#[]⟩, .int .i64 0, .float .f64 0, .int .i64 0, .int .i64 0], .int .i64 12]) (by simp [results, Tryd.results35, go_sem]) rfl ?_
          rw [HNUM.out, if_pos (by simp)]
          exact ⟨rfl, (Below.refl _ _).alloc (Nat.le_refl _) _⟩
        · rw [hn] at n5 HNUM
          clear hn
          go_wp2_with (first | (go_at_call 33; refine (HLt.out _).mono ?_; rintro e w' ⟨rfl, rfl⟩) | (go_at_call 34; refine (HDt.out _).mono ?_; rintro e w' ⟨rfl, rfl⟩))
          refine bodyPost_ret (v := .tuple #[.agg #[.int .i64 0, .string ⟨#[]⟩, .int .i64 0, .float .f64 0, .int .i64 0, .int .i64 0], .int .i64 12]) (by simp [results, Tryd.results35, go_sem]) rfl ?_
          rw [HNUM.out, if_pos (by simp)]
          exact ⟨rfl, (Below.refl _ _).alloc (Nat.le_refl _) _⟩
    · rw [e1] at hLt
      rw [e2] at hDt
      have HLt := Lib.hid hLt
      have HDt := Lib.hid hDt
      clear hLt hDt e1 e2
      rcases hN with ⟨n1, n2, rfl⟩ | ⟨⟨n1, n2⟩ | n1, ⟨n3, rfl⟩ | ⟨n3, n3', d7, n4, n5⟩⟩
      · have p1 : decide ((1 : Int) < (N : Int)) = true := by rw [decide_eq_true_eq]; have := of_decide_eq_true n2; omega
        go_wp2_with (first | (go_at_call 33; refine (HLt.out _).mono ?_; rintro e w' ⟨rfl, rfl⟩) | (go_at_call 34; refine (HDt.out _).mono ?_; rintro e w' ⟨rfl, rfl⟩))
        refine bodyPost_ret (v := .tuple #[.agg #[.int .i64 0, .string ⟨#[]⟩, .int .i64 0, .float .f64 0, .int .i64 0, .int .i64 0], .int .i64 12]) (by simp [results, Tryd.results35, go_sem]) rfl ?_
        rw [HNUM.out, if_pos (by simp)]
        exact ⟨rfl, (Below.refl _ _).alloc (Nat.le_refl _) _⟩
      · have p1 : decide ((1 : Int) < (N : Int)) = false := by rw [decide_eq_false_iff_not]; have := of_decide_eq_false n2; omega
        have p2 : decide ((H : Int) + 1 < (M : Int)) = false := by rw [decide_eq_false_iff_not]; have := of_decide_eq_false n3; omega
        go_wp2_with (first | (go_at_call 33; refine (HLt.out _).mono ?_; rintro e w' ⟨rfl, rfl⟩) | (go_at_call 34; refine (HDt.out _).mono ?_; rintro e w' ⟨rfl, rfl⟩))
        refine bodyPost_ret (v := .tuple #[.agg #[.int .i64 0, .string ⟨#[]⟩, .int .i64 0, .float .f64 0, .int .i64 0, .int .i64 0], .int .i64 12]) (by simp [results, Tryd.results35, go_sem]) rfl ?_
        rw [HNUM.out, if_pos (by simp)]
        exact ⟨rfl, (Below.refl _ _).alloc (Nat.le_refl _) _⟩
      · have p1 : decide ((1 : Int) < (N : Int)) = false := by rw [decide_eq_false_iff_not]; have := of_decide_eq_false n2; omega
        have p2 : decide ((H : Int) + 1 < (M : Int)) = true := by rw [decide_eq_true_eq]; omega
        cases hn : nou
        · rw [hn] at n5 HNUM
          clear hn
          go_wp2_with (first | (go_at_call 33; refine (HLt.out _).mono ?_; rintro e w' ⟨rfl, rfl⟩) | (go_at_call 34; refine (HDt.out _).mono ?_; rintro e w' ⟨rfl, rfl⟩))
          refine bodyPost_ret (v := .tuple #[.agg #[.int .i64 0, .string ⟨#[]⟩, .int .i64 0, .float .f64 0, .int .i64 0, .int .i64 0], .int .i64 12]) (by simp [results, Tryd.results35, go_sem]) rfl ?_
          rw [HNUM.out, if_pos (by simp)]
          exact ⟨rfl, (Below.refl _ _).alloc (Nat.le_refl _) _⟩
        · rw [hn] at n5 HNUM
          clear hn
          go_wp2_with (first | (go_at_call 33; refine (HLt.out _).mono ?_; rintro e w' ⟨rfl, rfl⟩) | (go_at_call 34; refine (HDt.out _).mono ?_; rintro e w' ⟨rfl, rfl⟩))
          refine bodyPost_ret (v := .tuple #[.agg #[.int .i64 0, .string ⟨#[]⟩, .int .i64 0, .float .f64 0, .int .i64 0, .int .i64 0], .int .i64 12]) (by simp [results, Tryd.results35, go_sem]) rfl ?_
          rw [HNUM.out, if_pos (by simp)]
          exact ⟨rfl, (Below.refl _ _).alloc (Nat.le_refl _) _⟩
      · have p2 : decide ((H : Int) + 1 < (M : Int)) = false := by rw [decide_eq_false_iff_not]; have := of_decide_eq_false n3; omega
        go_wp2_with (first | (go_at_call 33; refine (HLt.out _).mono ?_; rintro e w' ⟨rfl, rfl⟩) | (go_at_call 34; refine (HDt.out _).mono ?_; rintro e w' ⟨rfl, rfl⟩))
        refine bodyPost_ret (v := .tuple #[.agg #[.int .i64 0, .string ⟨#[]⟩, .int .i64 0, .float .f64 0, .int .i64 0, .int .i64 0], .int .i64 12]) (by simp [results, Tryd.results35, go_sem]) rfl ?_
        rw [HNUM.out, if_pos (by simp)]
        exact ⟨rfl, (Below.refl _ _).alloc (Nat.le_refl _) _⟩
      · have p2 : decide ((H : Int) + 1 < (M : Int)) = true := by rw [decide_eq_true_eq]; omega
        cases hn : nou
        · rw [hn] at n5 HNUM
          clear hn
          go_wp2_with (first | (go_at_call 33; refine (HLt.out _).mono ?_; rintro e w' ⟨rfl, rfl⟩) | (go_at_call 34; refine (HDt.out _).mono ?_; rintro e w' ⟨rfl, rfl⟩))
          refine bodyPost_ret (v := .tuple #[.agg #[.int .i64 0, .string ⟨#[]⟩, .int .i64 0, .float .f64 0, .int .i64 0, .int .i64 0], .int .i64 12]) (by simp [results, Tryd.results35, go_sem]) rfl ?_
          rw [HNUM.out, if_pos (by simp)]
          exact ⟨rfl, (Below.refl _ _).alloc (Nat.le_refl _) _⟩
        · rw [hn] at n5 HNUM
          clear hn
          go_wp2_with (first | (go_at_call 33; refine (HLt.out _).mono ?_; rintro e w' ⟨rfl, rfl⟩) | (go_at_call 34; refine (HDt.out _).mono ?_; rintro e w' ⟨rfl, rfl⟩))
          refine bodyPost_ret (v := .tuple #[.agg #[.int .i64 0, .string ⟨#[]⟩, .int .i64 0, .float .f64 0, .int .i64 0, .int .i64 0], .int .i64 12]) (by simp [results, Tryd.results35, go_sem]) rfl ?_
          rw [HNUM.out, if_pos (by simp)]
          exact ⟨rfl, (Below.refl _ _).alloc (Nat.le_refl _) _⟩
    · rw [e1] at hLt
      rw [e2] at hDt
      have HLt := Lib.hid hLt
      have HDt := Lib.hid hDt
      clear hLt hDt e1 e2
      rcases hN with ⟨n1, n2, rfl⟩ | ⟨⟨n1, n2⟩ | n1, ⟨n3, rfl⟩ | ⟨n3, n3', d7, n4, n5⟩⟩
      · have p1 : decide ((1 : Int) < (N : Int)) = true := by rw [decide_eq_true_eq]; have := of_decide_eq_true n2; omega
        go_wp2_with (first | (go_at_call 33; refine (HLt.out _).mono ?_; rintro e w' ⟨rfl, rfl⟩) | (go_at_call 34; refine (HDt.out _).mono ?_; rintro e w' ⟨rfl, rfl⟩))
        refine bodyPost_ret (v := .tuple #[.agg #[.int .i64 0, .string ⟨#[]⟩, .int .i64 0, .float .f64 0, .int .i64 0, .int .i64 0], .int .i64 12]) (by simp [results, Tryd.results35, go_sem]) rfl ?_
        rw [HNUM.out, if_pos (by simp)]
        exact ⟨rfl, (Below.refl _ _).alloc (Nat.le_refl _) _⟩
      · have p1 : decide ((1 : Int) < (N : Int)) = false := by rw [decide_eq_false_iff_not]; have := of_decide_eq_false n2; omega
        have p2 : decide ((H : Int) + 1 < (M : Int)) = false := by rw [decide_eq_false_iff_not]; have := of_decide_eq_false n3; omega
        rcases Nat.eq_zero_or_pos M with hM0 | hM0
        · obtain ⟨rfl, rfl⟩ : M = 0 ∧ H = 0 := by have := HW.out; omega
          have q1l : decide ((A : Int) + (N : Int) < (n : Int)) = true := by simpa using q1i
          have q1m : decide (A + N < n) = true := by simpa using q1
          have hcd2 := hcd w (fun _ => rfl); simp only [Nat.add_zero] at hcd2
          obtain ⟨a1, hs1, hT1⟩ := slice_mid A (A + N) HT.out (Nat.le_add_right _ _) hAN
          rw [Nat.add_sub_cancel_left] at hs1 hT1
          have hs1' : ∀ w', (Instr.slice 22 (.slice (some ⟨b, o, none⟩) n cap) (some (.int .i64 (A : Int))) (some (.int .i64 ((A : Int) + (N : Int)))) none).run Tryd.prog w' = .ok (.slice a1 N (cap - A)) w' := hs1
          obtain ⟨v, bl, hc1, hf1⟩ := refW_ways a1 N (cap - A) ((l.drop A).take N) (by omega) HD1.out
          have HC1 := Lib.hid (hc1 _ (hT1.below HB0.out (Nat.le_refl _)))
          have HF1 := Lib.hid hf1
          clear hs1 hT1 hc1 hf1
          go_wp2_with (first | (go_at_call 33; refine (HLt.out _).mono ?_; rintro e w' ⟨rfl, rfl⟩) | (go_at_call 34; refine (HDt.out _).mono ?_; rintro e w' ⟨rfl, rfl⟩))
          refine HC1.out.mono ?_
          rintro e w1 ⟨rfl, rfl⟩
          have hf1 := HF1.out
          rcases hf1 with ⟨rfl, f1, _⟩ | ⟨rfl, f1⟩
          · have F1 := Lib.hid f1
            clear f1 HF1
            go_wp2_with fail
            refine bodyPost_ret (v := .tuple #[.agg #[.int .i64 2, .string ⟨#[]⟩, .int .i64 v, .float .f64 0, .int .i64 A, .int .i64 N], .int .i64 0]) (by simp [results, Tryd.results35, go_sem]) rfl ?_
            rw [HNUM.out, if_neg (by simp), if_neg (by omega), F1.out]
            exact ⟨rfl, (Below.refl _ _).alloc (Nat.le_refl _) _⟩
          · have F1 := Lib.hid f1
            clear f1 HF1
            go_wp2_with fail
            refine bodyPost_ret (v := .tuple #[.agg #[.int .i64 0, .string ⟨#[]⟩, .int .i64 0, .float .f64 0, .int .i64 0, .int .i64 0], .int .i64 12]) (by simp [results, Tryd.results35, go_sem]) rfl ?_
            rw [HNUM.out, if_neg (by simp), if_neg (by omega), F1.out]
            exact ⟨rfl, (Below.refl _ _).alloc (Nat.le_refl _) _⟩
        · have hHM : (H = 1 ∨ H = 2) ∧ H < M ∧ M - H = tw digitB l (A + N + H) := by have := HW.out; omega
          obtain ⟨t, ht⟩ : ∃ t, t = realT A N M ((l.drop A).take N) ((l.drop (A + N + H)).take (M - H)) (H == 2) := ⟨_, rfl⟩
          have HRL : Hid (∀ W, Below w.heap.size w W → Calls Tryd.prog 64 #[.slice (some ⟨b, o, none⟩) n cap, .int .i64 A, .int .i64 N, .int .i64 M, .int .i64 H] W fun e w' => RTok t W e w') := by
            have : ∀ W, Below w.heap.size w W → Calls Tryd.prog 64 #[.slice (some ⟨b, o, none⟩) n cap, .int .i64 A, .int .i64 N, .int .i64 M, .int .i64 H] W fun e w' => RTok t W e w' := by
              intro W hW
              have hd2 : ∀ c ∈ (l.drop (A + N + H)).take (M - H), 48 ≤ c.toNat ∧ c.toNat ≤ 57 := by rw [hHM.2.2]; exact tw_digits l _
              rw [ht]
              rcases hHM.1 with h1 | h1
              · subst h1; exact refReal_up _ n cap A N M l W (HT.out.below hW (Nat.le_refl _)) h48 hL (by omega) HD1.out hd2
              · subst h1; exact refReal_down _ n cap A N M l W (HT.out.below hW (Nat.le_refl _)) h48 hL (by omega) HD1.out hd2
            exact this
          have HQ : Hid (refNum l A = t) := by
            have : refNum l A = t := by rw [HNUM.out, if_neg (by simp), if_pos (by omega), ht]
            exact this
          have hM1 : decide ((0 : Int) < (M : Int)) = true := by rw [decide_eq_true_eq]; omega
          have hM1' : decide (0 < M) = true := by rw [decide_eq_true_eq]; omega
          clear hHM ht HNUM HW
          go_wp2_with (first | (go_at_call 33; refine (HLt.out _).mono ?_; rintro e w' ⟨rfl, rfl⟩) | (go_at_call 34; refine (HDt.out _).mono ?_; rintro e w' ⟨rfl, rfl⟩))
          refine (HRL.out _ HB0.out).mono ?_
          rintro e w5 hrt
          obtain ⟨⟨k0, t0, i0, r0, a0, s0⟩, er⟩ := t
          obtain ⟨rfl, hb5⟩ := hrt
          unfold tokVal
          have hz5 : w.heap.size + 1 ≤ w5.heap.size := by have := hb5.size; simpa using this
          have cq : ∀ j, w5.cell? ⟨w.heap.size, j, none⟩ = _ := fun j => hb5.cell (p := ⟨w.heap.size, j, none⟩) (by simp)
          have fq : ∀ j, w5.frozen? ⟨w.heap.size, j, none⟩ = _ := fun j => hb5.frozen (p := ⟨w.heap.size, j, none⟩) (by simp)
          have z0 : w5.cell? ⟨w.heap.size, 0, none⟩ = some (.int .i64 0) := by rw [cq]; simp
          have z1 : w5.cell? ⟨w.heap.size, 1, none⟩ = some (.string ⟨#[]⟩) := by rw [cq]; simp
          have z2 : w5.cell? ⟨w.heap.size, 2, none⟩ = some (.int .i64 0) := by rw [cq]; simp
          have z3 : w5.cell? ⟨w.heap.size, 3, none⟩ = some (.float .f64 0) := by rw [cq]; simp
          have z4 : w5.cell? ⟨w.heap.size, 4, none⟩ = some (.int .i64 0) := by rw [cq]; simp
          have z5 : w5.cell? ⟨w.heap.size, 5, none⟩ = some (.int .i64 0) := by rw [cq]; simp
          have fz : ∀ j, w5.frozen? ⟨w.heap.size, j, none⟩ = false := fun j => by rw [fq]; simp
          have HB5 := Lib.hid (HB0.out.trans (hb5.mono (by simp)))
          have hlt5 : w.heap.size < w5.heap.size := by omega
          obtain ⟨wx, hwx⟩ : ∃ wx, wx = w5.alloc (.cells #[.int .i64 k0, .string ⟨t0.toArray⟩, .int .i64 i0, .float .f64 r0, .int .i64 a0, .int .i64 s0] 54) := ⟨_, rfl⟩
          have y0 : wx.cell? ⟨w.heap.size, 0, none⟩ = some (.int .i64 0) := by rw [hwx]; exact cell_keep _ z0
          have y1 : wx.cell? ⟨w.heap.size, 1, none⟩ = some (.string ⟨#[]⟩) := by rw [hwx]; exact cell_keep _ z1
          have y2 : wx.cell? ⟨w.heap.size, 2, none⟩ = some (.int .i64 0) := by rw [hwx]; exact cell_keep _ z2
          have y3 : wx.cell? ⟨w.heap.size, 3, none⟩ = some (.float .f64 0) := by rw [hwx]; exact cell_keep _ z3
          have y4 : wx.cell? ⟨w.heap.size, 4, none⟩ = some (.int .i64 0) := by rw [hwx]; exact cell_keep _ z4
          have y5 : wx.cell? ⟨w.heap.size, 5, none⟩ = some (.int .i64 0) := by rw [hwx]; exact cell_keep _ z5
          have x0 : wx.cell? ⟨w5.heap.size, 0, none⟩ = some (.int .i64 k0) := by rw [hwx]; simp
          have x1 : wx.cell? ⟨w5.heap.size, 1, none⟩ = some (.string ⟨t0.toArray⟩) := by rw [hwx]; simp
          have x2 : wx.cell? ⟨w5.heap.size, 2, none⟩ = some (.int .i64 i0) := by rw [hwx]; simp
          have x3 : wx.cell? ⟨w5.heap.size, 3, none⟩ = some (.float .f64 r0) := by rw [hwx]; simp
          have x4 : wx.cell? ⟨w5.heap.size, 4, none⟩ = some (.int .i64 a0) := by rw [hwx]; simp
          have x5 : wx.cell? ⟨w5.heap.size, 5, none⟩ = some (.int .i64 s0) := by rw [hwx]; simp
          have fy : ∀ j, wx.frozen? ⟨w.heap.size, j, none⟩ = false := fun j => by rw [hwx]; exact (((Below.refl w5.heap.size w5).alloc (Nat.le_refl _) _).frozen (p := ⟨w.heap.size, j, none⟩) hlt5).trans (fz j)
          have f0 := fy 0
          have f1 := fy 1
          have f2 := fy 2
          have f3 := fy 3
          have f4 := fy 4
          have f5 := fy 5
          have hBx : Below w.heap.size w wx := by rw [hwx]; exact HB5.out.alloc (by omega) _
          have HBX := Lib.hid hBx
          have HWX := Lib.hid hwx
          clear cq fq hb5 z0 z1 z2 z3 z4 z5 fz fy hBx hwx
          go_upto_region 10 with (fail)
          rw [← HWX.out]
          go_wp2_with fail
          refine bodyPost_ret (v := .tuple #[.agg #[.int .i64 k0, .string ⟨t0.toArray⟩, .int .i64 i0, .float .f64 r0, .int .i64 a0, .int .i64 s0], .int .i64 er]) (by simp [results, Tryd.results35, go_sem, y0, y1, y2, y3, y4, y5]) rfl ?_
          rw [HQ.out]
          refine ⟨rfl, ?_⟩
          exact below_six HBX.out _ _ _ _ _ _ (by simp) (by simp) (by simp) (by simp) (by simp) (by simp)
      · have p1 : decide ((1 : Int) < (N : Int)) = false := by rw [decide_eq_false_iff_not]; have := of_decide_eq_false n2; omega
        have p2 : decide ((H : Int) + 1 < (M : Int)) = true := by rw [decide_eq_true_eq]; omega
        cases hn : nou
        · rw [hn] at n5 HNUM
          clear hn
          have hM0 : 0 < M := by omega
          have hHM : (H = 1 ∨ H = 2) ∧ H < M ∧ M - H = tw digitB l (A + N + H) := by have := HW.out; omega
          obtain ⟨t, ht⟩ : ∃ t, t = realT A N M ((l.drop A).take N) ((l.drop (A + N + H)).take (M - H)) (H == 2) := ⟨_, rfl⟩
          have HRL : Hid (∀ W, Below w.heap.size w W → Calls Tryd.prog 64 #[.slice (some ⟨b, o, none⟩) n cap, .int .i64 A, .int .i64 N, .int .i64 M, .int .i64 H] W fun e w' => RTok t W e w') := by
            have : ∀ W, Below w.heap.size w W → Calls Tryd.prog 64 #[.slice (some ⟨b, o, none⟩) n cap, .int .i64 A, .int .i64 N, .int .i64 M, .int .i64 H] W fun e w' => RTok t W e w' := by
              intro W hW
              have hd2 : ∀ c ∈ (l.drop (A + N + H)).take (M - H), 48 ≤ c.toNat ∧ c.toNat ≤ 57 := by rw [hHM.2.2]; exact tw_digits l _
              rw [ht]
              rcases hHM.1 with h1 | h1
              · subst h1; exact refReal_up _ n cap A N M l W (HT.out.below hW (Nat.le_refl _)) h48 hL (by omega) HD1.out hd2
              · subst h1; exact refReal_down _ n cap A N M l W (HT.out.below hW (Nat.le_refl _)) h48 hL (by omega) HD1.out hd2
            exact this
          have HQ : Hid (refNum l A = t) := by
            have : refNum l A = t := by rw [HNUM.out, if_neg (by simp), if_pos (by omega), ht]
            exact this
          have hM1 : decide ((0 : Int) < (M : Int)) = true := by rw [decide_eq_true_eq]; omega
          have hM1' : decide (0 < M) = true := by rw [decide_eq_true_eq]; omega
          clear hHM ht HNUM HW
          go_wp2_with (first | (go_at_call 33; refine (HLt.out _).mono ?_; rintro e w' ⟨rfl, rfl⟩) | (go_at_call 34; refine (HDt.out _).mono ?_; rintro e w' ⟨rfl, rfl⟩))
          refine (HRL.out _ HB0.out).mono ?_
          rintro e w5 hrt
          obtain ⟨⟨k0, t0, i0, r0, a0, s0⟩, er⟩ := t
          obtain ⟨rfl, hb5⟩ := hrt
          unfold tokVal
          have hz5 : w.heap.size + 1 ≤ w5.heap.size := by have := hb5.size; simpa using this
          have cq : ∀ j, w5.cell? ⟨w.heap.size, j, none⟩ = _ := fun j => hb5.cell (p := ⟨w.heap.size, j, none⟩) (by simp)
          have fq : ∀ j, w5.frozen? ⟨w.heap.size, j, none⟩ = _ := fun j => hb5.frozen (p := ⟨w.heap.size, j, none⟩) (by simp)
          have z0 : w5.cell? ⟨w.heap.size, 0, none⟩ = some (.int .i64 0) := by rw [cq]; simp
          have z1 : w5.cell? ⟨w.heap.size, 1, none⟩ = some (.string ⟨#[]⟩) := by rw [cq]; simp
          have z2 : w5.cell? ⟨w.heap.size, 2, none⟩ = some (.int .i64 0) := by rw [cq]; simp
          have z3 : w5.cell? ⟨w.heap.size, 3, none⟩ = some (.float .f64 0) := by rw [cq]; simp
          have z4 : w5.cell? ⟨w.heap.size, 4, none⟩ = some (.int .i64 0) := by rw [cq]; simp
          have z5 : w5.cell? ⟨w.heap.size, 5, none⟩ = some (.int .i64 0) := by rw [cq]; simp
          have fz : ∀ j, w5.frozen? ⟨w.heap.size, j, none⟩ = false := fun j => by rw [fq]; simp
          have HB5 := Lib.hid (HB0.out.trans (hb5.mono (by simp)))
          have hlt5 : w.heap.size < w5.heap.size := by omega
          obtain ⟨wx, hwx⟩ : ∃ wx, wx = w5.alloc (.cells #[.int .i64 k0, .string ⟨t0.toArray⟩, .int .i64 i0, .float .f64 r0, .int .i64 a0, .int .i64 s0] 54) := ⟨_, rfl⟩
          have y0 : wx.cell? ⟨w.heap.size, 0, none⟩ = some (.int .i64 0) := by rw [hwx]; exact cell_keep _ z0
          have y1 : wx.cell? ⟨w.heap.size, 1, none⟩ = some (.string ⟨#[]⟩) := by rw [hwx]; exact cell_keep _ z1
          have y2 : wx.cell? ⟨w.heap.size, 2, none⟩ = some (.int .i64 0) := by rw [hwx]; exact cell_keep _ z2
          have y3 : wx.cell? ⟨w.heap.size, 3, none⟩ = some (.float .f64 0) := by rw [hwx]; exact cell_keep _ z3
          have y4 : wx.cell? ⟨w.heap.size, 4, none⟩ = some (.int .i64 0) := by rw [hwx]; exact cell_keep _ z4
          have y5 : wx.cell? ⟨w.heap.size, 5, none⟩ = some (.int .i64 0) := by rw [hwx]; exact cell_keep _ z5
          have x0 : wx.cell? ⟨w5.heap.size, 0, none⟩ = some (.int .i64 k0) := by rw [hwx]; simp
          have x1 : wx.cell? ⟨w5.heap.size, 1, none⟩ = some (.string ⟨t0.toArray⟩) := by rw [hwx]; simp
          have x2 : wx.cell? ⟨w5.heap.size, 2, none⟩ = some (.int .i64 i0) := by rw [hwx]; simp
          have x3 : wx.cell? ⟨w5.heap.size, 3, none⟩ = some (.float .f64 r0) := by rw [hwx]; simp
          have x4 : wx.cell? ⟨w5.heap.size, 4, none⟩ = some (.int .i64 a0) := by rw [hwx]; simp
          have x5 : wx.cell? ⟨w5.heap.size, 5, none⟩ = some (.int .i64 s0) := by rw [hwx]; simp
          have fy : ∀ j, wx.frozen? ⟨w.heap.size, j, none⟩ = false := fun j => by rw [hwx]; exact (((Below.refl w5.heap.size w5).alloc (Nat.le_refl _) _).frozen (p := ⟨w.heap.size, j, none⟩) hlt5).trans (fz j)
          have f0 := fy 0
          have f1 := fy 1
          have f2 := fy 2
          have f3 := fy 3
          have f4 := fy 4
          have f5 := fy 5
          have hBx : Below w.heap.size w wx := by rw [hwx]; exact HB5.out.alloc (by omega) _
          have HBX := Lib.hid hBx
          have HWX := Lib.hid hwx
          clear cq fq hb5 z0 z1 z2 z3 z4 z5 fz fy hBx hwx
          go_upto_region 10 with (fail)
          rw [← HWX.out]
          go_wp2_with fail
          refine bodyPost_ret (v := .tuple #[.agg #[.int .i64 k0, .string ⟨t0.toArray⟩, .int .i64 i0, .float .f64 r0, .int .i64 a0, .int .i64 s0], .int .i64 er]) (by simp [results, Tryd.results35, go_sem, y0, y1, y2, y3, y4, y5]) rfl ?_
          rw [HQ.out]
          refine ⟨rfl, ?_⟩
          exact below_six HBX.out _ _ _ _ _ _ (by simp) (by simp) (by simp) (by simp) (by simp) (by simp)
        · rw [hn] at n5 HNUM
          clear hn
          go_wp2_with (first | (go_at_call 33; refine (HLt.out _).mono ?_; rintro e w' ⟨rfl, rfl⟩) | (go_at_call 34; refine (HDt.out _).mono ?_; rintro e w' ⟨rfl, rfl⟩))
          refine bodyPost_ret (v := .tuple #[.agg #[.int .i64 0, .string ⟨#[]⟩, .int .i64 0, .float .f64 0, .int .i64 0, .int .i64 0], .int .i64 12]) (by simp [results, Tryd.results35, go_sem]) rfl ?_
          rw [HNUM.out, if_pos (by simp)]
          exact ⟨rfl, (Below.refl _ _).alloc (Nat.le_refl _) _⟩
      · have p2 : decide ((H : Int) + 1 < (M : Int)) = false := by rw [decide_eq_false_iff_not]; have := of_decide_eq_false n3; omega
        rcases Nat.eq_zero_or_pos M with hM0 | hM0
        · obtain ⟨rfl, rfl⟩ : M = 0 ∧ H = 0 := by have := HW.out; omega
          have q1l : decide ((A : Int) + (N : Int) < (n : Int)) = true := by simpa using q1i
          have q1m : decide (A + N < n) = true := by simpa using q1
          have hcd2 := hcd w (fun _ => rfl); simp only [Nat.add_zero] at hcd2
          obtain ⟨a1, hs1, hT1⟩ := slice_mid A (A + N) HT.out (Nat.le_add_right _ _) hAN
          rw [Nat.add_sub_cancel_left] at hs1 hT1
          have hs1' : ∀ w', (Instr.slice 22 (.slice (some ⟨b, o, none⟩) n cap) (some (.int .i64 (A : Int))) (some (.int .i64 ((A : Int) + (N : Int)))) none).run Tryd.prog w' = .ok (.slice a1 N (cap - A)) w' := hs1
          obtain ⟨v, bl, hc1, hf1⟩ := refW_ways a1 N (cap - A) ((l.drop A).take N) (by omega) HD1.out
          have HC1 := Lib.hid (hc1 _ (hT1.below HB0.out (Nat.le_refl _)))
          have HF1 := Lib.hid hf1
          clear hs1 hT1 hc1 hf1
          go_wp2_with (first | (go_at_call 33; refine (HLt.out _).mono ?_; rintro e w' ⟨rfl, rfl⟩) | (go_at_call 34; refine (HDt.out _).mono ?_; rintro e w' ⟨rfl, rfl⟩))
          refine HC1.out.mono ?_
          rintro e w1 ⟨rfl, rfl⟩
          have hf1 := HF1.out
          rcases hf1 with ⟨rfl, f1, _⟩ | ⟨rfl, f1⟩
          · have F1 := Lib.hid f1
            clear f1 HF1
            go_wp2_with fail
            refine bodyPost_ret (v := .tuple #[.agg #[.int .i64 2, .string ⟨#[]⟩, .int .i64 v, .float .f64 0, .int .i64 A, .int .i64 N], .int .i64 0]) (by simp [results, Tryd.results35, go_sem]) rfl ?_
            rw [HNUM.out, if_neg (by simp), if_neg (by omega), F1.out]
            exact ⟨rfl, (Below.refl _ _).alloc (Nat.le_refl _) _⟩
          · have F1 := Lib.hid f1
            clear f1 HF1
            go_wp2_with fail
            refine bodyPost_ret (v := .tuple #[.agg #[.int .i64 0, .string ⟨#[]⟩, .int .i64 0, .float .f64 0, .int .i64 0, .int .i64 0], .int .i64 12]) (by simp [results, Tryd.results35, go_sem]) rfl ?_
            rw [HNUM.out, if_neg (by simp), if_neg (by omega), F1.out]
            exact ⟨rfl, (Below.refl _ _).alloc (Nat.le_refl _) _⟩
        · have hHM : (H = 1 ∨ H = 2) ∧ H < M ∧ M - H = tw digitB l (A + N + H) := by have := HW.out; omega
          obtain ⟨t, ht⟩ : ∃ t, t = realT A N M ((l.drop A).take N) ((l.drop (A + N + H)).take (M - H)) (H == 2) := ⟨_, rfl⟩
          have HRL : Hid (∀ W, Below w.heap.size w W → Calls Tryd.prog 64 #[.slice (some ⟨b, o, none⟩) n cap, .int .i64 A, .int .i64 N, .int .i64 M, .int .i64 H] W fun e w' => RTok t W e w') := by
            have : ∀ W, Below w.heap.size w W → Calls Tryd.prog 64 #[.slice (some ⟨b, o, none⟩) n cap, .int .i64 A, .int .i64 N, .int .i64 M, .int .i64 H] W fun e w' => RTok t W e w' := by
              intro W hW
              have hd2 : ∀ c ∈ (l.drop (A + N + H)).take (M - H), 48 ≤ c.toNat ∧ c.toNat ≤ 57 := by rw [hHM.2.2]; exact tw_digits l _
              rw [ht]
              rcases hHM.1 with h1 | h1
              · subst h1; exact refReal_up _ n cap A N M l W (HT.out.below hW (Nat.le_refl _)) h48 hL (by omega) HD1.out hd2
              · subst h1; exact refReal_down _ n cap A N M l W (HT.out.below hW (Nat.le_refl _)) h48 hL (by omega) HD1.out hd2
            exact this
          have HQ : Hid (refNum l A = t) := by
            have : refNum l A = t := by rw [HNUM.out, if_neg (by simp), if_pos (by omega), ht]
            exact this
          have hM1 : decide ((0 : Int) < (M : Int)) = true := by rw [decide_eq_true_eq]; omega
          have hM1' : decide (0 < M) = true := by rw [decide_eq_true_eq]; omega
          clear hHM ht HNUM HW
          go_wp2_with (first | (go_at_call 33; refine (HLt.out _).mono ?_; rintro e w' ⟨rfl, rfl⟩) | (go_at_call 34; refine (HDt.out _).mono ?_; rintro e w' ⟨rfl, rfl⟩))
          refine (HRL.out _ HB0.out).mono ?_
          rintro e w5 hrt
          obtain ⟨⟨k0, t0, i0, r0, a0, s0⟩, er⟩ := t
          obtain ⟨rfl, hb5⟩ := hrt
          unfold tokVal
          have hz5 : w.heap.size + 1 ≤ w5.heap.size := by have := hb5.size; simpa using this
          have cq : ∀ j, w5.cell? ⟨w.heap.size, j, none⟩ = _ := fun j => hb5.cell (p := ⟨w.heap.size, j, none⟩) (by simp)
          have fq : ∀ j, w5.frozen? ⟨w.heap.size, j, none⟩ = _ := fun j => hb5.frozen (p := ⟨w.heap.size, j, none⟩) (by simp)
          have z0 : w5.cell? ⟨w.heap.size, 0, none⟩ = some (.int .i64 0) := by rw [cq]; simp
          have z1 : w5.cell? ⟨w.heap.size, 1, none⟩ = some (.string ⟨#[]⟩) := by rw [cq]; simp
          have z2 : w5.cell? ⟨w.heap.size, 2, none⟩ = some (.int .i64 0) := by rw [cq]; simp
          have z3 : w5.cell? ⟨w.heap.size, 3, none⟩ = some (.float .f64 0) := by rw [cq]; simp
          have z4 : w5.cell? ⟨w.heap.size, 4, none⟩ = some (.int .i64 0) := by rw [cq]; simp
          have z5 : w5.cell? ⟨w.heap.size, 5, none⟩ = some (.int .i64 0) := by rw [cq]; simp
          have fz : ∀ j, w5.frozen? ⟨w.heap.size, j, none⟩ = false := fun j => by rw [fq]; simp
          have HB5 := Lib.hid (HB0.out.trans (hb5.mono (by simp)))
          have hlt5 : w.heap.size < w5.heap.size := by omega
          obtain ⟨wx, hwx⟩ : ∃ wx, wx = w5.alloc (.cells #[.int .i64 k0, .string ⟨t0.toArray⟩, .int .i64 i0, .float .f64 r0, .int .i64 a0, .int .i64 s0] 54) := ⟨_, rfl⟩
          have y0 : wx.cell? ⟨w.heap.size, 0, none⟩ = some (.int .i64 0) := by rw [hwx]; exact cell_keep _ z0
          have y1 : wx.cell? ⟨w.heap.size, 1, none⟩ = some (.string ⟨#[]⟩) := by rw [hwx]; exact cell_keep _ z1
          have y2 : wx.cell? ⟨w.heap.size, 2, none⟩ = some (.int .i64 0) := by rw [hwx]; exact cell_keep _ z2
          have y3 : wx.cell? ⟨w.heap.size, 3, none⟩ = some (.float .f64 0) := by rw [hwx]; exact cell_keep _ z3
          have y4 : wx.cell? ⟨w.heap.size, 4, none⟩ = some (.int .i64 0) := by rw [hwx]; exact cell_keep _ z4
          have y5 : wx.cell? ⟨w.heap.size, 5, none⟩ = some (.int .i64 0) := by rw [hwx]; exact cell_keep _ z5
          have x0 : wx.cell? ⟨w5.heap.size, 0, none⟩ = some (.int .i64 k0) := by rw [hwx]; simp
          have x1 : wx.cell? ⟨w5.heap.size, 1, none⟩ = some (.string ⟨t0.toArray⟩) := by rw [hwx]; simp
          have x2 : wx.cell? ⟨w5.heap.size, 2, none⟩ = some (.int .i64 i0) := by rw [hwx]; simp
          have x3 : wx.cell? ⟨w5.heap.size, 3, none⟩ = some (.float .f64 r0) := by rw [hwx]; simp
          have x4 : wx.cell? ⟨w5.heap.size, 4, none⟩ = some (.int .i64 a0) := by rw [hwx]; simp
          have x5 : wx.cell? ⟨w5.heap.size, 5, none⟩ = some (.int .i64 s0) := by rw [hwx]; simp
          have fy : ∀ j, wx.frozen? ⟨w.heap.size, j, none⟩ = false := fun j => by rw [hwx]; exact (((Below.refl w5.heap.size w5).alloc (Nat.le_refl _) _).frozen (p := ⟨w.heap.size, j, none⟩) hlt5).trans (fz j)
          have f0 := fy 0
          have f1 := fy 1
          have f2 := fy 2
          have f3 := fy 3
          have f4 := fy 4
          have f5 := fy 5
          have hBx : Below w.heap.size w wx := by rw [hwx]; exact HB5.out.alloc (by omega) _
          have HBX := Lib.hid hBx
          have HWX := Lib.hid hwx
          clear cq fq hb5 z0 z1 z2 z3 z4 z5 fz fy hBx hwx
          go_upto_region 10 with (fail)
          rw [← HWX.out]
          go_wp2_with fail
          refine bodyPost_ret (v := .tuple #[.agg #[.int .i64 k0, .string ⟨t0.toArray⟩, .int .i64 i0, .float .f64 r0, .int .i64 a0, .int .i64 s0], .int .i64 er]) (by simp [results, Tryd.results35, go_sem, y0, y1, y2, y3, y4, y5]) rfl ?_
          rw [HQ.out]
          refine ⟨rfl, ?_⟩
          exact below_six HBX.out _ _ _ _ _ _ (by simp) (by simp) (by simp) (by simp) (by simp) (by simp)
      · have p2 : decide ((H : Int) + 1 < (M : Int)) = true := by rw [decide_eq_true_eq]; omega
        cases hn : nou
        · rw [hn] at n5 HNUM
          clear hn
          have hM0 : 0 < M := by omega
          have hHM : (H = 1 ∨ H = 2) ∧ H < M ∧ M - H = tw digitB l (A + N + H) := by have := HW.out; omega
          obtain ⟨t, ht⟩ : ∃ t, t = realT A N M ((l.drop A).take N) ((l.drop (A + N + H)).take (M - H)) (H == 2) := ⟨_, rfl⟩
          have HRL : Hid (∀ W, Below w.heap.size w W → Calls Tryd.prog 64 #[.slice (some ⟨b, o, none⟩) n cap, .int .i64 A, .int .i64 N, .int .i64 M, .int .i64 H] W fun e w' => RTok t W e w') := by
            have : ∀ W, Below w.heap.size w W → Calls Tryd.prog 64 #[.slice (some ⟨b, o, none⟩) n cap, .int .i64 A, .int .i64 N, .int .i64 M, .int .i64 H] W fun e w' => RTok t W e w' := by
              intro W hW
              have hd2 : ∀ c ∈ (l.drop (A + N + H)).take (M - H), 48 ≤ c.toNat ∧ c.toNat ≤ 57 := by rw [hHM.2.2]; exact tw_digits l _
              rw [ht]
              rcases hHM.1 with h1 | h1
              · subst h1; exact refReal_up _ n cap A N M l W (HT.out.below hW (Nat.le_refl _)) h48 hL (by omega) HD1.out hd2
              · subst h1; exact refReal_down _ n cap A N M l W (HT.out.below hW (Nat.le_refl _)) h48 hL (by omega) HD1.out hd2
            exact this
          have HQ : Hid (refNum l A = t) := by
            have : refNum l A = t := by rw [HNUM.out, if_neg (by simp), if_pos (by omega), ht]
            exact this
          have hM1 : decide ((0 : Int) < (M : Int)) = true := by rw [decide_eq_true_eq]; omega
          have hM1' : decide (0 < M) = true := by rw [decide_eq_true_eq]; omega
          clear hHM ht HNUM HW
          go_wp2_with (first | (go_at_call 33; refine (HLt.out _).mono ?_; rintro e w' ⟨rfl, rfl⟩) | (go_at_call 34; refine (HDt.out _).mono ?_; rintro e w' ⟨rfl, rfl⟩))
          refine (HRL.out _ HB0.out).mono ?_
          rintro e w5 hrt
          obtain ⟨⟨k0, t0, i0, r0, a0, s0⟩, er⟩ := t
          obtain ⟨rfl, hb5⟩ := hrt
          unfold tokVal
          have hz5 : w.heap.size + 1 ≤ w5.heap.size := by have := hb5.size; simpa using this
          have cq : ∀ j, w5.cell? ⟨w.heap.size, j, none⟩ = _ := fun j => hb5.cell (p := ⟨w.heap.size, j, none⟩) (by simp)
          have fq : ∀ j, w5.frozen? ⟨w.heap.size, j, none⟩ = _ := fun j => hb5.frozen (p := ⟨w.heap.size, j, none⟩) (by simp)
          have z0 : w5.cell? ⟨w.heap.size, 0, none⟩ = some (.int .i64 0) := by rw [cq]; simp
          have z1 : w5.cell? ⟨w.heap.size, 1, none⟩ = some (.string ⟨#[]⟩) := by rw [cq]; simp
          have z2 : w5.cell? ⟨w.heap.size, 2, none⟩ = some (.int .i64 0) := by rw [cq]; simp
          have z3 : w5.cell? ⟨w.heap.size, 3, none⟩ = some (.float .f64 0) := by rw [cq]; simp
          have z4 : w5.cell? ⟨w.heap.size, 4, none⟩ = some (.int .i64 0) := by rw [cq]; simp
          have z5 : w5.cell? ⟨w.heap.size, 5, none⟩ = some (.int .i64 0) := by rw [cq]; simp
          have fz : ∀ j, w5.frozen? ⟨w.heap.size, j, none⟩ = false := fun j => by rw [fq]; simp
          have HB5 := Lib.hid (HB0.out.trans (hb5.mono (by simp)))
          have hlt5 : w.heap.size < w5.heap.size := by omega
          obtain ⟨wx, hwx⟩ : ∃ wx, wx = w5.alloc (.cells #[.int .i64 k0, .string ⟨t0.toArray⟩, .int .i64 i0, .float .f64 r0, .int .i64 a0, .int .i64 s0] 54) := ⟨_, rfl⟩
          have y0 : wx.cell? ⟨w.heap.size, 0, none⟩ = some (.int .i64 0) := by rw [hwx]; exact cell_keep _ z0
          have y1 : wx.cell? ⟨w.heap.size, 1, none⟩ = some (.string ⟨#[]⟩) := by rw [hwx]; exact cell_keep _ z1
          have y2 : wx.cell? ⟨w.heap.size, 2, none⟩ = some (.int .i64 0) := by rw [hwx]; exact cell_keep _ z2
          have y3 : wx.cell? ⟨w.heap.size, 3, none⟩ = some (.float .f64 0) := by rw [hwx]; exact cell_keep _ z3
          have y4 : wx.cell? ⟨w.heap.size, 4, none⟩ = some (.int .i64 0) := by rw [hwx]; exact cell_keep _ z4
          have y5 : wx.cell? ⟨w.heap.size, 5, none⟩ = some (.int .i64 0) := by rw [hwx]; exact cell_keep _ z5
          have x0 : wx.cell? ⟨w5.heap.size, 0, none⟩ = some (.int .i64 k0) := by rw [hwx]; simp
          have x1 : wx.cell? ⟨w5.heap.size, 1, none⟩ = some (.string ⟨t0.toArray⟩) := by rw [hwx]; simp
          have x2 : wx.cell? ⟨w5.heap.size, 2, none⟩ = some (.int .i64 i0) := by rw [hwx]; simp
          have x3 : wx.cell? ⟨w5.heap.size, 3, none⟩ = some (.float .f64 r0) := by rw [hwx]; simp
          have x4 : wx.cell? ⟨w5.heap.size, 4, none⟩ = some (.int .i64 a0) := by rw [hwx]; simp
          have x5 : wx.cell? ⟨w5.heap.size, 5, none⟩ = some (.int .i64 s0) := by rw [hwx]; simp
          have fy : ∀ j, wx.frozen? ⟨w.heap.size, j, none⟩ = false := fun j => by rw [hwx]; exact (((Below.refl w5.heap.size w5).alloc (Nat.le_refl _) _).frozen (p := ⟨w.heap.size, j, none⟩) hlt5).trans (fz j)
          have f0 := fy 0
          have f1 := fy 1
          have f2 := fy 2
          have f3 := fy 3
          have f4 := fy 4
          have f5 := fy 5
          have hBx : Below w.heap.size w wx := by rw [hwx]; exact HB5.out.alloc (by omega) _
          have HBX := Lib.hid hBx
          have HWX := Lib.hid hwx
          clear cq fq hb5 z0 z1 z2 z3 z4 z5 fz fy hBx hwx
          go_upto_region 10 with (fail)
          rw [← HWX.out]
          go_wp2_with fail
          refine bodyPost_ret (v := .tuple #[.agg #[.int .i64 k0, .string ⟨t0.toArray⟩, .int .i64 i0, .float .f64 r0, .int .i64 a0, .int .i64 s0], .int .i64 er]) (by simp [results, Tryd.results35, go_sem, y0, y1, y2, y3, y4, y5]) rfl ?_
          rw [HQ.out]
          refine ⟨rfl, ?_⟩
          exact below_six HBX.out _ _ _ _ _ _ (by simp) (by simp) (by simp) (by simp) (by simp) (by simp)
        · rw [hn] at n5 HNUM
          clear hn
          go_wp2_with (first | (go_at_call 33; refine (HLt.out _).mono ?_; rintro e w' ⟨rfl, rfl⟩) | (go_at_call 34; refine (HDt.out _).mono ?_; rintro e w' ⟨rfl, rfl⟩))
          refine bodyPost_ret (v := .tuple #[.agg #[.int .i64 0, .string ⟨#[]⟩, .int .i64 0, .float .f64 0, .int .i64 0, .int .i64 0], .int .i64 12]) (by simp [results, Tryd.results35, go_sem]) rfl ?_
          rw [HNUM.out, if_pos (by simp)]
          exact ⟨rfl, (Below.refl _ _).alloc (Nat.le_refl _) _⟩
end Go.Proofs.YtkhghbeojfgkhaaDoor
