/- The reference's real. -/
import Derived.Test.YtkhghbeojfgkhaaDoorRefReal
import Derived.Test.YtkhghbeojfgkhaaDoorNext
import Derived.Test.YtkhghbeojfgkhaaDoorTextWalks
import Derived.Test.YtkhghbeojfgkhaaDoorSeqPlain
namespace Go.Proofs.YtkhghbeojfgkhaaDoor
open Go.RowKit
set_option maxRecDepth 100000

/-- a token that is told, and its error -/
def RTok (t : Tok × Nat) (w : World) (e : Ending) (w' : World) : Prop := e = .returned (.tuple #[tokVal t.1, .int .i64 t.2]) ∧ Below w.heap.size w w'
/-- the bits of m times 2 to x, or to -x, if that is a real in its only form -/
def realC (m x : Nat) (below : Bool) : Option Nat :=
  if 9007199254740992 ≤ m ∨ (if below = true then 1074 else 1023) < x ∨ (m % 2 = 0 ∧ m ≠ 0) ∨ (m = 0 ∧ x ≠ 0) ∨ (below = true ∧ x = 0) then none
  else if below = true then some (realBits m (-(x : Int))) else if m = 0 ∨ (m.log2 : Int) + 1 + x ≤ 1024 then some (realBits m x) else none
def realT (A N M : Nat) (D1 D2 : List UInt8) (below : Bool) : Tok × Nat :=
  match refW D1, refW D2 with
  | some m, some x => (match realC m x below with | some b => (⟨3, [], 0, b, A, N + M⟩, 0) | none => (zeroTok, 12))
  | _, _ => (zeroTok, 12)
theorem refW_ways (a : Option Addr) (n cap : Nat) (D : List UInt8) (hr : n ≤ 140737488351232) (hd : ∀ c ∈ D, 48 ≤ c.toNat ∧ c.toNat ≤ 57) :
    ∃ (v : Nat) (b : Bool), (∀ W, Txt W a n cap D → Calls Tryd.prog 65 #[.slice a n cap] W fun e w' => e = .returned (.tuple #[.int .i64 v, .bool b]) ∧ W = w') ∧ ((b = true ∧ refW D = some v ∧ v ≤ 9223372036854775807) ∨ (b = false ∧ refW D = none)) := by
  cases h : refW D with
  | none =>
    refine ⟨0, false, fun W hT => (refWhole_any a n cap D W hT hr hd).mono ?_, .inr ⟨rfl, rfl⟩⟩
    intro e w' hh
    unfold RefW at hh
    rw [h] at hh
    exact hh
  | some v =>
    refine ⟨v, true, fun W hT => (refWhole_any a n cap D W hT hr hd).mono ?_, .inl ⟨rfl, rfl, ?_⟩⟩
    · intro e w' hh
      unfold RefW at hh
      rw [h] at hh
      exact hh
    · unfold refW at h
      split at h
      · injection h with h; omega
      · cases h
theorem below_six {B : Nat} {a w : World} (h : Below B a w) (v1 v2 v3 v4 v5 v6 : Value) {p1 p2 p3 p4 p5 p6 : Addr} (h1 : B ≤ p1.block) (h2 : B ≤ p2.block) (h3 : B ≤ p3.block) (h4 : B ≤ p4.block) (h5 : B ≤ p5.block) (h6 : B ≤ p6.block) :
    Below B a ((((((w.setCell p1 v1).setCell p2 v2).setCell p3 v3).setCell p4 v4).setCell p5 v5).setCell p6 v6) :=
  (((((h.setCell h1 _).setCell h2 _).setCell h3 _).setCell h4 _).setCell h5 _).setCell h6 _

set_option maxHeartbeats 4000000 in
theorem refReal_down (a : Option Addr) (n cap A N M : Nat) (l : List UInt8) (w : World) (hT : Txt w a n cap l) (hr : n ≤ 140737488351232) (hE : A + N + M ≤ n) (hM : 2 ≤ M)
    (h1 : ∀ c ∈ (l.drop A).take N, 48 ≤ c.toNat ∧ c.toNat ≤ 57) (h2 : ∀ c ∈ (l.drop (A + N + 2)).take (M - 2), 48 ≤ c.toNat ∧ c.toNat ≤ 57) :
    Calls Tryd.prog 64 #[.slice a n cap, .int .i64 A, .int .i64 N, .int .i64 M, .int .i64 2] w fun e w' => RTok (realT A N M ((l.drop A).take N) ((l.drop (A + N + 2)).take (M - 2)) true) w e w' := by
  have sf : ∀ (p : Addr) (b : Nat) (m : Mode) (w' : World), (store p (.float .f64 b) m).run Tryd.prog w' = stored Tryd.prog w' p (.float .f64 b) m := fun p b m w' => run_store _ w' p _ m rfl
  obtain ⟨a1, hs1, hT1⟩ := slice_mid A (A + N) hT (Nat.le_add_right _ _) (by omega)
  obtain ⟨a2, hs2, hT2⟩ := slice_mid (A + N + 2) (A + N + M) hT (by omega) hE
  rw [Nat.add_sub_cancel_left] at hs1 hT1
  rw [show A + N + M - (A + N + 2) = M - 2 by omega] at hs2 hT2
  have hs1' : ∀ w', (Instr.slice 22 (.slice a n cap) (some (.int .i64 (A : Int))) (some (.int .i64 ((A : Int) + (N : Int)))) none).run Tryd.prog w' = .ok (.slice a1 N (cap - A)) w' := hs1
  have hs2' : ∀ w', (Instr.slice 22 (.slice a n cap) (some (.int .i64 ((A : Int) + (N : Int) + 2))) (some (.int .i64 ((A : Int) + (N : Int) + (M : Int)))) none).run Tryd.prog w' = .ok (.slice a2 (M - 2) (cap - (A + N + 2))) w' := hs2
  obtain ⟨D1, hD1⟩ : ∃ D1, D1 = (l.drop A).take N := ⟨_, rfl⟩
  obtain ⟨D2, hD2⟩ : ∃ D2, D2 = (l.drop (A + N + 2)).take (M - 2) := ⟨_, rfl⟩
  rw [← hD1] at h1 hT1 ⊢
  rw [← hD2] at h2 hT2 ⊢
  obtain ⟨m, b1, hc1, hf1⟩ := refW_ways a1 N (cap - A) D1 (by omega) h1
  obtain ⟨x, b2, hc2, hf2⟩ := refW_ways a2 (M - 2) (cap - (A + N + 2)) D2 (by omega) h2
  have HT1 := Lib.hid hT1
  have HT2 := Lib.hid hT2
  have HC1 := Lib.hid hc1
  have HC2 := Lib.hid hc2
  have wA : IntKind.i64.wrap ((A : Int) + (N : Int)) = (A : Int) + (N : Int) := by rw [IntKind.wrap_i64]; omega
  have wB : IntKind.i64.wrap ((A : Int) + (N : Int) + 2) = (A : Int) + (N : Int) + 2 := by rw [IntKind.wrap_i64]; omega
  have wC : IntKind.i64.wrap ((A : Int) + (N : Int) + (M : Int)) = (A : Int) + (N : Int) + (M : Int) := by rw [IntKind.wrap_i64]; omega
  have HF1 := Lib.hid hf1
  have HF2 := Lib.hid hf2
  have HE := Lib.hid hE
  clear hs1 hs2 hT hT1 hT2 hc1 hc2 h1 h2 hD1 hD2 hf1 hf2
  go_enter Tryd.func64, Tryd.ntmps64
  go_wp2_with fail
  refine (HC1.out _ (HT1.out.below ((Below.refl w.heap.size w).alloc (Nat.le_refl _) _) (Nat.le_refl _))).mono ?_
  rintro e w1 ⟨rfl, rfl⟩
  go_wp2_with fail
  refine (HC2.out _ (HT2.out.below ((Below.refl w.heap.size w).alloc (Nat.le_refl _) _) (Nat.le_refl _))).mono ?_
  rintro e w1 ⟨rfl, rfl⟩
  clear hs1' hs2' wA wB
  have HF1' := HF1.out
  have HF2' := HF2.out
  have hway : realT A N M D1 D2 true = (zeroTok, 12) ∧ (b1 = false ∨ (b1 = true ∧ b2 = false) ∨ (b1 = true ∧ b2 = true ∧ (9007199254740992 ≤ m ∨ (m < 9007199254740992 ∧ 1074 < x) ∨ (m < 9007199254740992 ∧ x ≤ 1074 ∧ m % 2 = 0 ∧ m ≠ 0) ∨ (m = 0 ∧ x ≤ 1074 ∧ x ≠ 0) ∨ (m < 9007199254740992 ∧ m % 2 = 1 ∧ x = 0) ∨ (m = 0 ∧ x = 0)))) ∨
      (b1 = true ∧ b2 = true ∧ m < 9007199254740992 ∧ x ≤ 1074 ∧ ((m % 2 = 1) ∨ (m = 0 ∧ x = 0)) ∧ x ≠ 0 ∧ realT A N M D1 D2 true = (⟨3, [], 0, realBits m (-(x : Int)), A, N + M⟩, 0)) := by
    rcases HF1' with ⟨e1, f1, _⟩ | ⟨e1, f1⟩
    · rcases HF2' with ⟨e2, f2, _⟩ | ⟨e2, f2⟩
      · have hr : realT A N M D1 D2 true = (match realC m x true with | some b => (⟨3, [], 0, b, A, N + M⟩, 0) | none => (zeroTok, 12)) := by unfold realT; rw [f1, f2]
        rw [hr]
        unfold realC
        by_cases hc : 9007199254740992 ≤ m ∨ 1074 < x ∨ (m % 2 = 0 ∧ m ≠ 0) ∨ (m = 0 ∧ x ≠ 0) ∨ x = 0
        · left
          refine ⟨by rw [if_pos (by simpa using hc)], .inr (.inr ⟨e1, e2, ?_⟩)⟩
          omega
        · right
          refine ⟨e1, e2, by omega, by omega, by omega, by omega, ?_⟩
          rw [if_neg (by simpa using hc), if_pos rfl]
      · left
        refine ⟨by unfold realT; rw [f1, f2], .inr (.inl ⟨e1, e2⟩)⟩
    · left
      refine ⟨by unfold realT; rw [f1], .inl e1⟩
  rcases hway with ⟨hn, hw⟩ | ⟨rfl, rfl, g1, g2, g3, hok⟩
  · have HN := Lib.hid hn
    have hx1 : x ≤ 9223372036854775807 ∨ b2 = false := by
      rcases HF2' with ⟨_, _, h⟩ | ⟨h, _⟩
      · exact .inl h
      · exact .inr h
    have hm1 : m ≤ 9223372036854775807 ∨ b1 = false := by
      rcases HF1' with ⟨_, _, h⟩ | ⟨h, _⟩
      · exact .inl h
      · exact .inr h
    clear hn HF1' HF2' HF1 HF2
    rcases hw with rfl | ⟨rfl, rfl⟩ | ⟨rfl, rfl, hw⟩
    · clear hm1
      go_wp2_with fail
      refine bodyPost_ret (v := .tuple #[.agg #[.int .i64 0, .string ⟨#[]⟩, .int .i64 0, .float .f64 0, .int .i64 0, .int .i64 0], .int .i64 12]) (by simp [results, Tryd.results64, go_sem]) rfl ?_
      rw [HN.out]
      exact ⟨rfl, (Below.refl _ _).alloc (Nat.le_refl _) _⟩
    · clear hx1
      go_wp2_with fail
      refine bodyPost_ret (v := .tuple #[.agg #[.int .i64 0, .string ⟨#[]⟩, .int .i64 0, .float .f64 0, .int .i64 0, .int .i64 0], .int .i64 12]) (by simp [results, Tryd.results64, go_sem]) rfl ?_
      rw [HN.out]
      exact ⟨rfl, (Below.refl _ _).alloc (Nat.le_refl _) _⟩
    · have hx2 : x ≤ 9223372036854775807 := by rcases hx1 with h | h; exact h; cases h
      have hm2 : m ≤ 9223372036854775807 := by rcases hm1 with h | h; exact h; cases h
      clear hx1 hm1
      rcases hw with h1 | ⟨h1, h2⟩ | ⟨h1, h2, h3, h4⟩ | ⟨h1, h2, h3⟩ | ⟨h1, h2, h3⟩ | ⟨h1, h2⟩
      · have f1 : decide ((9007199254740992 : Int) ≤ (m : Int)) = true := by rw [decide_eq_true_eq]; omega
        have f1' : decide (9007199254740992 ≤ m) = true := by rw [decide_eq_true_eq]; omega
        clear h1
        go_wp2_with fail
        refine bodyPost_ret (v := .tuple #[.agg #[.int .i64 0, .string ⟨#[]⟩, .int .i64 0, .float .f64 0, .int .i64 0, .int .i64 0], .int .i64 12]) (by simp [results, Tryd.results64, go_sem]) rfl ?_
        rw [HN.out]
        exact ⟨rfl, (Below.refl _ _).alloc (Nat.le_refl _) _⟩
      · have f1 : decide ((9007199254740992 : Int) ≤ (m : Int)) = false := by rw [decide_eq_false_iff_not]; omega
        have f1' : decide (9007199254740992 ≤ m) = false := by rw [decide_eq_false_iff_not]; omega
        have f2 : decide ((1074 : Int) < (x : Int)) = true := by rw [decide_eq_true_eq]; omega
        have f2' : decide (1074 < x) = true := by rw [decide_eq_true_eq]; omega
        clear h1 h2
        go_wp2_with fail
        refine bodyPost_ret (v := .tuple #[.agg #[.int .i64 0, .string ⟨#[]⟩, .int .i64 0, .float .f64 0, .int .i64 0, .int .i64 0], .int .i64 12]) (by simp [results, Tryd.results64, go_sem]) rfl ?_
        rw [HN.out]
        exact ⟨rfl, (Below.refl _ _).alloc (Nat.le_refl _) _⟩
      · have f1 : decide ((9007199254740992 : Int) ≤ (m : Int)) = false := by rw [decide_eq_false_iff_not]; omega
        have f1' : decide (9007199254740992 ≤ m) = false := by rw [decide_eq_false_iff_not]; omega
        have f2 : decide ((1074 : Int) < (x : Int)) = false := by rw [decide_eq_false_iff_not]; omega
        have f2' : decide (1074 < x) = false := by rw [decide_eq_false_iff_not]; omega
        have f3 : ((m : Int) % 2 == 0) = true := by rw [beq_iff_eq]; omega
        have f4 : ((m : Int) == 0) = false := by rw [beq_eq_false_iff_ne]; omega
        have f4' : ((m : Int) != 0) = true := by rw [bne_iff_ne]; omega
        have f4n : (m == 0) = false := by rw [beq_eq_false_iff_ne]; omega
        have f4m : (m != 0) = true := by rw [bne_iff_ne]; omega
        clear h1 h2 h3 h4
        go_wp2_with fail
        refine bodyPost_ret (v := .tuple #[.agg #[.int .i64 0, .string ⟨#[]⟩, .int .i64 0, .float .f64 0, .int .i64 0, .int .i64 0], .int .i64 12]) (by simp [results, Tryd.results64, go_sem]) rfl ?_
        rw [HN.out]
        exact ⟨rfl, (Below.refl _ _).alloc (Nat.le_refl _) _⟩
      · have f1 : decide ((9007199254740992 : Int) ≤ (m : Int)) = false := by rw [decide_eq_false_iff_not]; omega
        have f1' : decide (9007199254740992 ≤ m) = false := by rw [decide_eq_false_iff_not]; omega
        have f2 : decide ((1074 : Int) < (x : Int)) = false := by rw [decide_eq_false_iff_not]; omega
        have f2' : decide (1074 < x) = false := by rw [decide_eq_false_iff_not]; omega
        have f3 : ((m : Int) % 2 == 0) = true := by rw [beq_iff_eq]; omega
        have f4 : ((m : Int) == 0) = true := by rw [beq_iff_eq]; omega
        have f4' : ((m : Int) != 0) = false := by rw [bne_eq_false_iff_eq]; omega
        have f4n : (m == 0) = true := by rw [beq_iff_eq]; omega
        have f4m : (m != 0) = false := by rw [bne_eq_false_iff_eq]; omega
        have f5 : ((x : Int) == 0) = false := by rw [beq_eq_false_iff_ne]; omega
        have f5' : ((x : Int) != 0) = true := by rw [bne_iff_ne]; omega
        have f5n : (x == 0) = false := by rw [beq_eq_false_iff_ne]; omega
        have f5m : (x != 0) = true := by rw [bne_iff_ne]; omega
        clear h1 h2 h3
        go_wp2_with fail
        refine bodyPost_ret (v := .tuple #[.agg #[.int .i64 0, .string ⟨#[]⟩, .int .i64 0, .float .f64 0, .int .i64 0, .int .i64 0], .int .i64 12]) (by simp [results, Tryd.results64, go_sem]) rfl ?_
        rw [HN.out]
        exact ⟨rfl, (Below.refl _ _).alloc (Nat.le_refl _) _⟩
      · have f1 : decide ((9007199254740992 : Int) ≤ (m : Int)) = false := by rw [decide_eq_false_iff_not]; omega
        have f1' : decide (9007199254740992 ≤ m) = false := by rw [decide_eq_false_iff_not]; omega
        have f2 : decide ((1074 : Int) < (x : Int)) = false := by rw [decide_eq_false_iff_not]; omega
        have f2' : decide (1074 < x) = false := by rw [decide_eq_false_iff_not]; omega
        have f3 : ((m : Int) % 2 == 0) = false := by rw [beq_eq_false_iff_ne]; omega
        have f4 : ((m : Int) == 0) = false := by rw [beq_eq_false_iff_ne]; omega
        have f4' : ((m : Int) != 0) = true := by rw [bne_iff_ne]; omega
        have f4n : (m == 0) = false := by rw [beq_eq_false_iff_ne]; omega
        have f4m : (m != 0) = true := by rw [bne_iff_ne]; omega
        have f5 : ((x : Int) == 0) = true := by rw [beq_iff_eq]; omega
        have f5' : ((x : Int) != 0) = false := by rw [bne_eq_false_iff_eq]; omega
        have f5n : (x == 0) = true := by rw [beq_iff_eq]; omega
        have f5m : (x != 0) = false := by rw [bne_eq_false_iff_eq]; omega
        clear h1 h2 h3
        go_wp2_with fail
        refine bodyPost_ret (v := .tuple #[.agg #[.int .i64 0, .string ⟨#[]⟩, .int .i64 0, .float .f64 0, .int .i64 0, .int .i64 0], .int .i64 12]) (by simp [results, Tryd.results64, go_sem]) rfl ?_
        rw [HN.out]
        exact ⟨rfl, (Below.refl _ _).alloc (Nat.le_refl _) _⟩
      · have f1 : decide ((9007199254740992 : Int) ≤ (m : Int)) = false := by rw [decide_eq_false_iff_not]; omega
        have f1' : decide (9007199254740992 ≤ m) = false := by rw [decide_eq_false_iff_not]; omega
        have f2 : decide ((1074 : Int) < (x : Int)) = false := by rw [decide_eq_false_iff_not]; omega
        have f2' : decide (1074 < x) = false := by rw [decide_eq_false_iff_not]; omega
        have f3 : ((m : Int) % 2 == 0) = true := by rw [beq_iff_eq]; omega
        have f4 : ((m : Int) == 0) = true := by rw [beq_iff_eq]; omega
        have f4' : ((m : Int) != 0) = false := by rw [bne_eq_false_iff_eq]; omega
        have f4n : (m == 0) = true := by rw [beq_iff_eq]; omega
        have f4m : (m != 0) = false := by rw [bne_eq_false_iff_eq]; omega
        have f5 : ((x : Int) == 0) = true := by rw [beq_iff_eq]; omega
        have f5' : ((x : Int) != 0) = false := by rw [bne_eq_false_iff_eq]; omega
        have f5n : (x == 0) = true := by rw [beq_iff_eq]; omega
        have f5m : (x != 0) = false := by rw [bne_eq_false_iff_eq]; omega
        clear h1 h2
        go_wp2_with fail
        refine bodyPost_ret (v := .tuple #[.agg #[.int .i64 0, .string ⟨#[]⟩, .int .i64 0, .float .f64 0, .int .i64 0, .int .i64 0], .int .i64 12]) (by simp [results, Tryd.results64, go_sem]) rfl ?_
        rw [HN.out]
        exact ⟨rfl, (Below.refl _ _).alloc (Nat.le_refl _) _⟩
  · obtain ⟨hx0, hok⟩ := hok
    clear HF1' HF2' HF1 HF2
    rcases g3 with g3 | ⟨g3, g4⟩
    · have f1 : decide ((9007199254740992 : Int) ≤ (m : Int)) = false := by rw [decide_eq_false_iff_not]; omega
      have f1' : decide (9007199254740992 ≤ m) = false := by rw [decide_eq_false_iff_not]; omega
      have f2 : decide ((1074 : Int) < (x : Int)) = false := by rw [decide_eq_false_iff_not]; omega
      have f2' : decide (1074 < x) = false := by rw [decide_eq_false_iff_not]; omega
      have f3 : ((m : Int) % 2 == 0) = false := by rw [beq_eq_false_iff_ne]; omega
      have f4 : ((m : Int) == 0) = false := by rw [beq_eq_false_iff_ne]; omega
      have f4' : ((m : Int) != 0) = true := by rw [bne_iff_ne]; omega
      have f4n : (m == 0) = false := by rw [beq_eq_false_iff_ne]; omega
      have f4m : (m != 0) = true := by rw [bne_iff_ne]; omega
      have f5 : ((x : Int) == 0) = false := by rw [beq_eq_false_iff_ne]; omega
      have f5' : ((x : Int) != 0) = true := by rw [bne_iff_ne]; omega
      have f5n : (x == 0) = false := by rw [beq_eq_false_iff_ne]; omega
      have f5m : (x != 0) = true := by rw [bne_iff_ne]; omega
      obtain ⟨r, hr⟩ : ∃ r, r = realBits m (-(x : Int)) := ⟨_, rfl⟩
      have HP : Hid (∀ w, Calls Tryd.prog 99 #[.int .i64 m, .int .i64 x, .bool true] w fun e w' => e = .returned (.float .f64 r) ∧ w = w') := by
        have : ∀ w, Calls Tryd.prog 99 #[.int .i64 m, .int .i64 x, .bool true] w fun e w' => e = .returned (.float .f64 r) ∧ w = w' := by rw [hr]; exact fun w => power_down m x w g1 (by omega) (by omega)
        exact this
      have hs : ∀ t w, (binOp .sub t (.float .f64 r) (.float .f64 r)).run Tryd.prog w = .ok (.float .f64 0) w := fun t w => run_float_arith (h := by rw [hr]; exact less_self m _ (by omega) g1 (by omega) (by have := log2_le (m := m) (by omega) g1; omega)) ..
      have hz : (FloatKind.f64.format.order 0 0 != some Ordering.eq) = false := by decide
      rw [← hr] at hok
      have HOK := Lib.hid hok
      clear hok hr g1 g2 g3
      go_wp2_with fail
      refine (HP.out _).mono ?_
      rintro e w1 ⟨rfl, rfl⟩
      go_wp2_with fail
      refine bodyPost_ret (v := .tuple #[.agg #[.int .i64 3, .string ⟨#[]⟩, .int .i64 0, .float .f64 r, .int .i64 A, .int .i64 (↑N + ↑M)], .int .i64 0]) (by simp [results, Tryd.results64, go_sem]) rfl ?_
      rw [HOK.out]
      exact ⟨rfl, (Below.refl _ _).alloc (Nat.le_refl _) _⟩
    · exact absurd g4 hx0

set_option maxHeartbeats 4000000 in
theorem refReal_up (a : Option Addr) (n cap A N M : Nat) (l : List UInt8) (w : World) (hT : Txt w a n cap l) (hr : n ≤ 140737488351232) (hE : A + N + M ≤ n) (hM : 1 ≤ M)
    (h1 : ∀ c ∈ (l.drop A).take N, 48 ≤ c.toNat ∧ c.toNat ≤ 57) (h2 : ∀ c ∈ (l.drop (A + N + 1)).take (M - 1), 48 ≤ c.toNat ∧ c.toNat ≤ 57) :
    Calls Tryd.prog 64 #[.slice a n cap, .int .i64 A, .int .i64 N, .int .i64 M, .int .i64 1] w fun e w' => RTok (realT A N M ((l.drop A).take N) ((l.drop (A + N + 1)).take (M - 1)) false) w e w' := by
  have sf : ∀ (p : Addr) (b : Nat) (m : Mode) (w' : World), (store p (.float .f64 b) m).run Tryd.prog w' = stored Tryd.prog w' p (.float .f64 b) m := fun p b m w' => run_store _ w' p _ m rfl
  obtain ⟨a1, hs1, hT1⟩ := slice_mid A (A + N) hT (Nat.le_add_right _ _) (by omega)
  obtain ⟨a2, hs2, hT2⟩ := slice_mid (A + N + 1) (A + N + M) hT (by omega) hE
  rw [Nat.add_sub_cancel_left] at hs1 hT1
  rw [show A + N + M - (A + N + 1) = M - 1 by omega] at hs2 hT2
  have hs1' : ∀ w', (Instr.slice 22 (.slice a n cap) (some (.int .i64 (A : Int))) (some (.int .i64 ((A : Int) + (N : Int)))) none).run Tryd.prog w' = .ok (.slice a1 N (cap - A)) w' := hs1
  have hs2' : ∀ w', (Instr.slice 22 (.slice a n cap) (some (.int .i64 ((A : Int) + (N : Int) + 1))) (some (.int .i64 ((A : Int) + (N : Int) + (M : Int)))) none).run Tryd.prog w' = .ok (.slice a2 (M - 1) (cap - (A + N + 1))) w' := hs2
  obtain ⟨D1, hD1⟩ : ∃ D1, D1 = (l.drop A).take N := ⟨_, rfl⟩
  obtain ⟨D2, hD2⟩ : ∃ D2, D2 = (l.drop (A + N + 1)).take (M - 1) := ⟨_, rfl⟩
  rw [← hD1] at h1 hT1 ⊢
  rw [← hD2] at h2 hT2 ⊢
  obtain ⟨m, b1, hc1, hf1⟩ := refW_ways a1 N (cap - A) D1 (by omega) h1
  obtain ⟨x, b2, hc2, hf2⟩ := refW_ways a2 (M - 1) (cap - (A + N + 1)) D2 (by omega) h2
  have HT1 := Lib.hid hT1
  have HT2 := Lib.hid hT2
  have HC1 := Lib.hid hc1
  have HC2 := Lib.hid hc2
  have wA : IntKind.i64.wrap ((A : Int) + (N : Int)) = (A : Int) + (N : Int) := by rw [IntKind.wrap_i64]; omega
  have wB : IntKind.i64.wrap ((A : Int) + (N : Int) + 1) = (A : Int) + (N : Int) + 1 := by rw [IntKind.wrap_i64]; omega
  have wC : IntKind.i64.wrap ((A : Int) + (N : Int) + (M : Int)) = (A : Int) + (N : Int) + (M : Int) := by rw [IntKind.wrap_i64]; omega
  have HF1 := Lib.hid hf1
  have HF2 := Lib.hid hf2
  have HE := Lib.hid hE
  clear hs1 hs2 hT hT1 hT2 hc1 hc2 h1 h2 hD1 hD2 hf1 hf2
  go_enter Tryd.func64, Tryd.ntmps64
  go_wp2_with fail
  refine (HC1.out _ (HT1.out.below ((Below.refl w.heap.size w).alloc (Nat.le_refl _) _) (Nat.le_refl _))).mono ?_
  rintro e w1 ⟨rfl, rfl⟩
  go_wp2_with fail
  refine (HC2.out _ (HT2.out.below ((Below.refl w.heap.size w).alloc (Nat.le_refl _) _) (Nat.le_refl _))).mono ?_
  rintro e w1 ⟨rfl, rfl⟩
  clear hs1' hs2' wA wB
  have HF1' := HF1.out
  have HF2' := HF2.out
  have hway : realT A N M D1 D2 false = (zeroTok, 12) ∧ (b1 = false ∨ (b1 = true ∧ b2 = false) ∨ (b1 = true ∧ b2 = true ∧ (9007199254740992 ≤ m ∨ (m < 9007199254740992 ∧ 1023 < x) ∨ (m < 9007199254740992 ∧ x ≤ 1023 ∧ m % 2 = 0 ∧ m ≠ 0) ∨ (m = 0 ∧ x ≤ 1023 ∧ x ≠ 0) ∨ (m < 9007199254740992 ∧ x ≤ 1023 ∧ m % 2 = 1 ∧ ¬ ((m.log2 : Int) + 1 + x ≤ 1024))))) ∨
      (b1 = true ∧ b2 = true ∧ m < 9007199254740992 ∧ x ≤ 1023 ∧ ((m % 2 = 1) ∨ (m = 0 ∧ x = 0)) ∧ ((m = 0 ∨ (m.log2 : Int) + 1 + x ≤ 1024) ∧ realT A N M D1 D2 false = (⟨3, [], 0, realBits m x, A, N + M⟩, 0))) := by
    rcases HF1' with ⟨e1, f1, _⟩ | ⟨e1, f1⟩
    · rcases HF2' with ⟨e2, f2, _⟩ | ⟨e2, f2⟩
      · have hr : realT A N M D1 D2 false = (match realC m x false with | some b => (⟨3, [], 0, b, A, N + M⟩, 0) | none => (zeroTok, 12)) := by unfold realT; rw [f1, f2]
        rw [hr]
        unfold realC
        by_cases hc : 9007199254740992 ≤ m ∨ 1023 < x ∨ (m % 2 = 0 ∧ m ≠ 0) ∨ (m = 0 ∧ x ≠ 0)
        · left
          refine ⟨by rw [if_pos (by simpa using hc)], .inr (.inr ⟨e1, e2, ?_⟩)⟩
          omega
        · by_cases hi : m = 0 ∨ (m.log2 : Int) + 1 + x ≤ 1024
          · right
            refine ⟨e1, e2, by omega, by omega, by omega, hi, ?_⟩
            rw [if_neg (by simpa using hc), if_neg (by simp), if_pos hi]
          · left
            refine ⟨by rw [if_neg (by simpa using hc), if_neg (by simp), if_neg hi], .inr (.inr ⟨e1, e2, ?_⟩)⟩
            omega
      · left
        refine ⟨by unfold realT; rw [f1, f2], .inr (.inl ⟨e1, e2⟩)⟩
    · left
      refine ⟨by unfold realT; rw [f1], .inl e1⟩
  rcases hway with ⟨hn, hw⟩ | ⟨rfl, rfl, g1, g2, g3, hok⟩
  · have HN := Lib.hid hn
    have hx1 : x ≤ 9223372036854775807 ∨ b2 = false := by
      rcases HF2' with ⟨_, _, h⟩ | ⟨h, _⟩
      · exact .inl h
      · exact .inr h
    have hm1 : m ≤ 9223372036854775807 ∨ b1 = false := by
      rcases HF1' with ⟨_, _, h⟩ | ⟨h, _⟩
      · exact .inl h
      · exact .inr h
    clear hn HF1' HF2' HF1 HF2
    rcases hw with rfl | ⟨rfl, rfl⟩ | ⟨rfl, rfl, hw⟩
    · clear hm1
      go_wp2_with fail
      refine bodyPost_ret (v := .tuple #[.agg #[.int .i64 0, .string ⟨#[]⟩, .int .i64 0, .float .f64 0, .int .i64 0, .int .i64 0], .int .i64 12]) (by simp [results, Tryd.results64, go_sem]) rfl ?_
      rw [HN.out]
      exact ⟨rfl, (Below.refl _ _).alloc (Nat.le_refl _) _⟩
    · clear hx1
      go_wp2_with fail
      refine bodyPost_ret (v := .tuple #[.agg #[.int .i64 0, .string ⟨#[]⟩, .int .i64 0, .float .f64 0, .int .i64 0, .int .i64 0], .int .i64 12]) (by simp [results, Tryd.results64, go_sem]) rfl ?_
      rw [HN.out]
      exact ⟨rfl, (Below.refl _ _).alloc (Nat.le_refl _) _⟩
    · have hx2 : x ≤ 9223372036854775807 := by rcases hx1 with h | h; exact h; cases h
      have hm2 : m ≤ 9223372036854775807 := by rcases hm1 with h | h; exact h; cases h
      clear hx1 hm1
      rcases hw with h1 | ⟨h1, h2⟩ | ⟨h1, h2, h3, h4⟩ | ⟨h1, h2, h3⟩ | ⟨h1, h2, h3, h4⟩
      · have f1 : decide ((9007199254740992 : Int) ≤ (m : Int)) = true := by rw [decide_eq_true_eq]; omega
        have f1' : decide (9007199254740992 ≤ m) = true := by rw [decide_eq_true_eq]; omega
        clear h1
        go_wp2_with fail
        refine bodyPost_ret (v := .tuple #[.agg #[.int .i64 0, .string ⟨#[]⟩, .int .i64 0, .float .f64 0, .int .i64 0, .int .i64 0], .int .i64 12]) (by simp [results, Tryd.results64, go_sem]) rfl ?_
        rw [HN.out]
        exact ⟨rfl, (Below.refl _ _).alloc (Nat.le_refl _) _⟩
      · have f1 : decide ((9007199254740992 : Int) ≤ (m : Int)) = false := by rw [decide_eq_false_iff_not]; omega
        have f1' : decide (9007199254740992 ≤ m) = false := by rw [decide_eq_false_iff_not]; omega
        have f2 : decide ((1023 : Int) < (x : Int)) = true := by rw [decide_eq_true_eq]; omega
        have f2' : decide (1023 < x) = true := by rw [decide_eq_true_eq]; omega
        clear h1 h2
        go_wp2_with fail
        refine bodyPost_ret (v := .tuple #[.agg #[.int .i64 0, .string ⟨#[]⟩, .int .i64 0, .float .f64 0, .int .i64 0, .int .i64 0], .int .i64 12]) (by simp [results, Tryd.results64, go_sem]) rfl ?_
        rw [HN.out]
        exact ⟨rfl, (Below.refl _ _).alloc (Nat.le_refl _) _⟩
      · have f1 : decide ((9007199254740992 : Int) ≤ (m : Int)) = false := by rw [decide_eq_false_iff_not]; omega
        have f1' : decide (9007199254740992 ≤ m) = false := by rw [decide_eq_false_iff_not]; omega
        have f2 : decide ((1023 : Int) < (x : Int)) = false := by rw [decide_eq_false_iff_not]; omega
        have f2' : decide (1023 < x) = false := by rw [decide_eq_false_iff_not]; omega
        have f3 : ((m : Int) % 2 == 0) = true := by rw [beq_iff_eq]; omega
        have f4 : ((m : Int) == 0) = false := by rw [beq_eq_false_iff_ne]; omega
        have f4' : ((m : Int) != 0) = true := by rw [bne_iff_ne]; omega
        have f4n : (m == 0) = false := by rw [beq_eq_false_iff_ne]; omega
        have f4m : (m != 0) = true := by rw [bne_iff_ne]; omega
        clear h1 h2 h3 h4
        go_wp2_with fail
        refine bodyPost_ret (v := .tuple #[.agg #[.int .i64 0, .string ⟨#[]⟩, .int .i64 0, .float .f64 0, .int .i64 0, .int .i64 0], .int .i64 12]) (by simp [results, Tryd.results64, go_sem]) rfl ?_
        rw [HN.out]
        exact ⟨rfl, (Below.refl _ _).alloc (Nat.le_refl _) _⟩
      · have f1 : decide ((9007199254740992 : Int) ≤ (m : Int)) = false := by rw [decide_eq_false_iff_not]; omega
        have f1' : decide (9007199254740992 ≤ m) = false := by rw [decide_eq_false_iff_not]; omega
        have f2 : decide ((1023 : Int) < (x : Int)) = false := by rw [decide_eq_false_iff_not]; omega
        have f2' : decide (1023 < x) = false := by rw [decide_eq_false_iff_not]; omega
        have f3 : ((m : Int) % 2 == 0) = true := by rw [beq_iff_eq]; omega
        have f4 : ((m : Int) == 0) = true := by rw [beq_iff_eq]; omega
        have f4' : ((m : Int) != 0) = false := by rw [bne_eq_false_iff_eq]; omega
        have f4n : (m == 0) = true := by rw [beq_iff_eq]; omega
        have f4m : (m != 0) = false := by rw [bne_eq_false_iff_eq]; omega
        have f5 : ((x : Int) == 0) = false := by rw [beq_eq_false_iff_ne]; omega
        have f5' : ((x : Int) != 0) = true := by rw [bne_iff_ne]; omega
        have f5n : (x == 0) = false := by rw [beq_eq_false_iff_ne]; omega
        have f5m : (x != 0) = true := by rw [bne_iff_ne]; omega
        clear h1 h2 h3
        go_wp2_with fail
        refine bodyPost_ret (v := .tuple #[.agg #[.int .i64 0, .string ⟨#[]⟩, .int .i64 0, .float .f64 0, .int .i64 0, .int .i64 0], .int .i64 12]) (by simp [results, Tryd.results64, go_sem]) rfl ?_
        rw [HN.out]
        exact ⟨rfl, (Below.refl _ _).alloc (Nat.le_refl _) _⟩
      · have f1 : decide ((9007199254740992 : Int) ≤ (m : Int)) = false := by rw [decide_eq_false_iff_not]; omega
        have f1' : decide (9007199254740992 ≤ m) = false := by rw [decide_eq_false_iff_not]; omega
        have f2 : decide ((1023 : Int) < (x : Int)) = false := by rw [decide_eq_false_iff_not]; omega
        have f2' : decide (1023 < x) = false := by rw [decide_eq_false_iff_not]; omega
        have f3 : ((m : Int) % 2 == 0) = false := by rw [beq_eq_false_iff_ne]; omega
        have f4 : ((m : Int) == 0) = false := by rw [beq_eq_false_iff_ne]; omega
        have f4' : ((m : Int) != 0) = true := by rw [bne_iff_ne]; omega
        have f4n : (m == 0) = false := by rw [beq_eq_false_iff_ne]; omega
        have f4m : (m != 0) = true := by rw [bne_iff_ne]; omega
        have HP : Hid (∀ w, Calls Tryd.prog 99 #[.int .i64 m, .int .i64 x, .bool false] w fun e w' => e = .returned (.float .f64 9218868437227405312) ∧ w = w') := by
          have : ∀ w, Calls Tryd.prog 99 #[.int .i64 m, .int .i64 x, .bool false] w fun e w' => e = .returned (.float .f64 9218868437227405312) ∧ w = w' := by rw [← real_inf m x (by omega) h1 (by omega) h4]; exact fun w => power_up m x w h1 (by omega) (by omega)
          exact this
        clear h1 h2 h3 h4
        go_wp2_with fail
        refine (HP.out _).mono ?_
        rintro e w1 ⟨rfl, rfl⟩
        obtain ⟨r, hs, hz⟩ := run_inf_less 38 (w.alloc (.cells #[.int .i64 0, .string ⟨#[]⟩, .int .i64 0, .float .f64 0, .int .i64 0, .int .i64 0] 54))
        go_wp2_with fail
        refine bodyPost_ret (v := .tuple #[.agg #[.int .i64 0, .string ⟨#[]⟩, .int .i64 0, .float .f64 0, .int .i64 0, .int .i64 0], .int .i64 12]) (by simp [results, Tryd.results64, go_sem]) rfl ?_
        rw [HN.out]
        exact ⟨rfl, ((Below.refl _ _).alloc (Nat.le_refl _) _).drew⟩
  · obtain ⟨hfin, hok⟩ := hok
    clear HF1' HF2' HF1 HF2
    rcases g3 with g3 | ⟨g3, g4⟩
    · have f1 : decide ((9007199254740992 : Int) ≤ (m : Int)) = false := by rw [decide_eq_false_iff_not]; omega
      have f1' : decide (9007199254740992 ≤ m) = false := by rw [decide_eq_false_iff_not]; omega
      have f2 : decide ((1023 : Int) < (x : Int)) = false := by rw [decide_eq_false_iff_not]; omega
      have f2' : decide (1023 < x) = false := by rw [decide_eq_false_iff_not]; omega
      have f3 : ((m : Int) % 2 == 0) = false := by rw [beq_eq_false_iff_ne]; omega
      have f4 : ((m : Int) == 0) = false := by rw [beq_eq_false_iff_ne]; omega
      have f4' : ((m : Int) != 0) = true := by rw [bne_iff_ne]; omega
      have f4n : (m == 0) = false := by rw [beq_eq_false_iff_ne]; omega
      have f4m : (m != 0) = true := by rw [bne_iff_ne]; omega
      obtain ⟨r, hr⟩ : ∃ r, r = realBits m x := ⟨_, rfl⟩
      have HP : Hid (∀ w, Calls Tryd.prog 99 #[.int .i64 m, .int .i64 x, .bool false] w fun e w' => e = .returned (.float .f64 r) ∧ w = w') := by
        have : ∀ w, Calls Tryd.prog 99 #[.int .i64 m, .int .i64 x, .bool false] w fun e w' => e = .returned (.float .f64 r) ∧ w = w' := by rw [hr]; exact fun w => power_up m x w g1 (by omega) (by omega)
        exact this
      have hs : ∀ t w, (binOp .sub t (.float .f64 r) (.float .f64 r)).run Tryd.prog w = .ok (.float .f64 0) w := fun t w => run_float_arith (h := by rw [hr]; exact less_self m _ (by omega) g1 (by omega) (by omega)) ..
      have hz : (FloatKind.f64.format.order 0 0 != some Ordering.eq) = false := by decide
      rw [← hr] at hok
      have HOK := Lib.hid hok
      clear hok hr g1 g2 g3
      go_wp2_with fail
      refine (HP.out _).mono ?_
      rintro e w1 ⟨rfl, rfl⟩
      go_wp2_with fail
      refine bodyPost_ret (v := .tuple #[.agg #[.int .i64 3, .string ⟨#[]⟩, .int .i64 0, .float .f64 r, .int .i64 A, .int .i64 (↑N + ↑M)], .int .i64 0]) (by simp [results, Tryd.results64, go_sem]) rfl ?_
      rw [HOK.out]
      exact ⟨rfl, (Below.refl _ _).alloc (Nat.le_refl _) _⟩
    · have f1 : decide ((9007199254740992 : Int) ≤ (m : Int)) = false := by rw [decide_eq_false_iff_not]; omega
      have f1' : decide (9007199254740992 ≤ m) = false := by rw [decide_eq_false_iff_not]; omega
      have f2 : decide ((1023 : Int) < (x : Int)) = false := by rw [decide_eq_false_iff_not]; omega
      have f2' : decide (1023 < x) = false := by rw [decide_eq_false_iff_not]; omega
      have f3 : ((m : Int) % 2 == 0) = true := by rw [beq_iff_eq]; omega
      have f4 : ((m : Int) == 0) = true := by rw [beq_iff_eq]; omega
      have f4' : ((m : Int) != 0) = false := by rw [bne_eq_false_iff_eq]; omega
      have f4n : (m == 0) = true := by rw [beq_iff_eq]; omega
      have f4m : (m != 0) = false := by rw [bne_eq_false_iff_eq]; omega
      have f5 : ((x : Int) == 0) = true := by rw [beq_iff_eq]; omega
      have f5' : ((x : Int) != 0) = false := by rw [bne_eq_false_iff_eq]; omega
      have f5n : (x == 0) = true := by rw [beq_iff_eq]; omega
      have f5m : (x != 0) = false := by rw [bne_eq_false_iff_eq]; omega
      obtain ⟨r, hr⟩ : ∃ r, r = realBits m x := ⟨_, rfl⟩
      have HP : Hid (∀ w, Calls Tryd.prog 99 #[.int .i64 m, .int .i64 x, .bool false] w fun e w' => e = .returned (.float .f64 r) ∧ w = w') := by
        have : ∀ w, Calls Tryd.prog 99 #[.int .i64 m, .int .i64 x, .bool false] w fun e w' => e = .returned (.float .f64 r) ∧ w = w' := by rw [hr]; exact fun w => power_up m x w g1 (by omega) (by omega)
        exact this
      have hs : ∀ t w, (binOp .sub t (.float .f64 r) (.float .f64 r)).run Tryd.prog w = .ok (.float .f64 0) w := fun t w => run_float_arith (h := by rw [hr]; rw [g3, g4]; exact zero_less) ..
      have hz : (FloatKind.f64.format.order 0 0 != some Ordering.eq) = false := by decide
      rw [← hr] at hok
      have HOK := Lib.hid hok
      clear hok hr g1 g2 g3 g4
      go_wp2_with fail
      refine (HP.out _).mono ?_
      rintro e w1 ⟨rfl, rfl⟩
      go_wp2_with fail
      refine bodyPost_ret (v := .tuple #[.agg #[.int .i64 3, .string ⟨#[]⟩, .int .i64 0, .float .f64 r, .int .i64 A, .int .i64 (↑N + ↑M)], .int .i64 0]) (by simp [results, Tryd.results64, go_sem]) rfl ?_
      rw [HOK.out]
      exact ⟨rfl, (Below.refl _ _).alloc (Nat.le_refl _) _⟩
end Go.Proofs.YtkhghbeojfgkhaaDoor
