/- Masks: the calls that count: below, Not, With, Without, Count, Rank, Next. -/
import Derived.Test.YtngfopnefmknoaaDoorMkSet
import Derived.Test.YtngfopnefmknoaaDoorMkPop
import Derived.Lib.TrailingZeros
import Derived.Lib.LaidTab
import Derived.Lib.Bytealg
set_option linter.all false
namespace Go.Proofs.YtngfopnefmknoaaDoor
open Go.RowKit
set_option maxRecDepth 100000
/-- the table that is read -/
abbrev GlobM (w : World) : Prop := Lib.TabIs Tryd.prog w "math/bits.deBruijn64tab" .u8 (Lib.deBruijn64tab.map Int.ofNat)
theorem globM_below {w w' : World} {B : Nat} (h : GlobM w) (hb : Below B w w') (hB : w.heap.size ≤ B) : GlobM w' := by
  unfold GlobM Lib.TabIs World.var? at h ⊢
  cases hg : (Tryd.prog).globalNamed "math/bits.deBruijn64tab" with
  | none => rw [hg] at h; simp at h
  | some g =>
    rw [hg] at h
    simp only [Option.bind_some] at h ⊢
    have hlt : g < w.heap.size := by
      rcases Nat.lt_or_ge g w.heap.size with h' | h'
      · exact h'
      · rw [Array.getElem?_eq_none h'] at h; cases h
    rw [hb.block g (by omega)]
    exact h
theorem tz_key (x a : Nat) (hx : x < 18446744073709551616) (hx0 : x ≠ 0) (hlow : x &&& (18446744073709551616 - x) = a) :
    IntKind.u64.wrap (bits BinOp.and IntKind.u64 (x : Int) (IntKind.u64.wrap (-(x : Int))) * 285870213051353865) / 288230376151711744 = ((a * 285870213051353865 % 18446744073709551616 / 288230376151711744 : Nat) : Int) := by
  have e1 : IntKind.u64.wrap (-(x : Int)) = ((18446744073709551616 - x : Nat) : Int) := by rw [IntKind.wrap_u64]; omega
  rw [e1, bits_and_u64_nat x _ hx (by omega), hlow, IntKind.wrap_u64]
  omega
theorem tz_core (x k idx : Nat) (w : World) (hx0 : ((x : Int) == 0) = false)
    (key : IntKind.u64.wrap (bits BinOp.and IntKind.u64 (x : Int) (IntKind.u64.wrap (-(x : Int))) * 285870213051353865) / 288230376151711744 = (idx : Int))
    (hi : idx < 64) (hk : k < 64) (hcell : w.cell? ⟨0, idx, none⟩ = some (.int .u8 k)) :
    Calls Tryd.prog 38 #[.int .u64 x] w fun e w' => e = .returned (.int .i64 k) ∧ w = w' := by
  go_enter Tryd.func38, Tryd.ntmps38
  go_wp2_with (simp only [key])
  go_ret
  exact ⟨rfl, rfl⟩
theorem tab_cell (w : World) (idx k : Nat) (hi : idx < 64) (htab : Lib.deBruijn64tab.getD idx 0 = k) (hT : GlobM w) :
    w.cell? ⟨0, idx, none⟩ = some (.int .u8 k) := by
  have hlen : Lib.deBruijn64tab.length = 64 := by decide
  have hcell := hT.cell (g := 0) (by kernel_rfl) idx (by rw [List.length_map, hlen]; exact hi)
  rw [hcell]
  simp only [List.getD_eq_getElem?_getD, List.getElem?_map] at htab ⊢
  rw [List.getElem?_eq_getElem (by omega)] at htab ⊢
  simp only [Option.getD_some, Option.map_some] at htab ⊢
  rw [htab]
  rfl
theorem tz_any (x : Nat) (hx : x < 18446744073709551616) (hx0 : x ≠ 0) (w : World) (hT : GlobM w) :
    Calls Tryd.prog 38 #[.int .u64 x] w fun e w' => e = .returned (.int .i64 (Lib.ctz 64 x : Nat)) ∧ w = w' := by
  obtain ⟨hlow, hk⟩ := Lib.lowest_bit 64 x hx0 hx
  obtain ⟨hi, htab⟩ := Lib.deBruijn64_at _ hk
  have hkey := tz_key x _ hx hx0 hlow
  generalize 2 ^ Lib.ctz 64 x * 285870213051353865 % 18446744073709551616 / 288230376151711744 = idx at hi htab hkey
  exact tz_core x (Lib.ctz 64 x) idx w (by rw [beq_eq_false_iff_ne]; omega) hkey hi hk (tab_cell w idx _ hi htab hT)
theorem bits_and_127 (u : Nat) (hu : u < 9223372036854775808) : bits .and .i64 (u : Int) 127 = ((u % 128 : Nat) : Int) := by
  have h1 : (BitVec.ofInt 64 (u : Int)).toNat = u := by
    rw [BitVec.ofInt_natCast, BitVec.toNat_ofNat]; exact Nat.mod_eq_of_lt (by omega)
  have h2 : (BitVec.ofInt 64 (127 : Int)).toNat = 127 := by decide
  show IntKind.i64.wrap ((BitVec.ofInt 64 (u : Int) &&& BitVec.ofInt 64 (127 : Int)).toNat : Int) = _
  rw [BitVec.toNat_and, h1, h2, show (127 : Nat) = 2 ^ 7 - 1 from rfl, Nat.and_two_pow_sub_one_eq_mod, IntKind.wrap_i64]
  omega
set_option maxHeartbeats 1000000 in
theorem ones_any {m : Nat} (hm : Wd m) (w : World) : Calls Tryd.prog 40 #[.int .u64 (m : Int)] w fun e w' => e = .returned (.int .i64 ((cntF m.testBit 64 : Nat) : Int)) ∧ w = w' := by
  obtain ⟨a, b, c, y, z, u, ha, hb, hc, hy, hz, hu, hul, hcnt⟩ := pop_all m hm
  have hcle := cntF_le m.testBit 64
  have e13 := bits_and_127 u hul
  rw [hcnt] at e13
  generalize cntF m.testBit 64 = cc at hcnt hcle e13
  unfold st1 at ha
  unfold st2 at hb
  unfold st3 at hc
  have e1 : bits .and .u64 ((m : Int) / 2) 6148914691236517205 = ((m / 2 &&& 6148914691236517205 : Nat) : Int) := bits_and_u64_nat (m / 2) 6148914691236517205 (by unfold Wd at hm; omega) (by omega)
  have e2 : bits .and .u64 (m : Int) 6148914691236517205 = ((m &&& 6148914691236517205 : Nat) : Int) := bits_and_u64_nat m 6148914691236517205 hm (by omega)
  have b1 : m / 2 &&& 6148914691236517205 ≤ 6148914691236517205 := Nat.and_le_right
  have b2 : m &&& 6148914691236517205 ≤ 6148914691236517205 := Nat.and_le_right
  generalize m / 2 &&& 6148914691236517205 = p1 at ha e1 b1
  generalize m &&& 6148914691236517205 = q1 at ha e2 b2
  have e3 : IntKind.u64.wrap ((p1 : Int) + (q1 : Int)) = (a : Int) := by rw [IntKind.wrap_u64]; omega
  have e4 : bits .and .u64 ((a : Int) / 4) 3689348814741910323 = ((a / 4 &&& 3689348814741910323 : Nat) : Int) := bits_and_u64_nat (a / 4) 3689348814741910323 (by omega) (by omega)
  have e5 : bits .and .u64 (a : Int) 3689348814741910323 = ((a &&& 3689348814741910323 : Nat) : Int) := bits_and_u64_nat a 3689348814741910323 (by omega) (by omega)
  have b3 : a / 4 &&& 3689348814741910323 ≤ 3689348814741910323 := Nat.and_le_right
  have b4 : a &&& 3689348814741910323 ≤ 3689348814741910323 := Nat.and_le_right
  generalize a / 4 &&& 3689348814741910323 = p2 at hb e4 b3
  generalize a &&& 3689348814741910323 = q2 at hb e5 b4
  have e6 : IntKind.u64.wrap ((p2 : Int) + (q2 : Int)) = (b : Int) := by rw [IntKind.wrap_u64]; omega
  obtain ⟨d, hd⟩ : ∃ d, d = b / 16 + b := ⟨_, rfl⟩
  rw [← hd] at hc
  have e7 : IntKind.u64.wrap ((b : Int) / 16 + (b : Int)) = (d : Int) := by rw [IntKind.wrap_u64]; omega
  have e8 : bits .and .u64 (d : Int) 1085102592571150095 = (c : Int) := by rw [hc]; exact bits_and_u64_nat d 1085102592571150095 (by omega) (by omega)
  have b5 : c ≤ 1085102592571150095 := by rw [hc]; exact Nat.and_le_right
  have e9 : IntKind.u64.wrap ((c : Int) + (c : Int) / 256) = (y : Int) := by rw [IntKind.wrap_u64]; omega
  have e10 : IntKind.u64.wrap ((y : Int) + (y : Int) / 65536) = (z : Int) := by rw [IntKind.wrap_u64]; omega
  have e11 : IntKind.u64.wrap ((z : Int) + (z : Int) / 4294967296) = (u : Int) := by rw [IntKind.wrap_u64]; omega
  have e12 : IntKind.i64.wrap (u : Int) = (u : Int) := by rw [IntKind.wrap_i64]; omega
  clear ha hb hc hy hz hu hul hcnt hcle b1 b2 b3 b4 b5 hd hm
  go_enter Tryd.func40, Tryd.ntmps40
  go_wp2
  go_ret
  exact ⟨rfl, rfl⟩
theorem count_any {m : Nat} (hm : Wd m) (w : World) : Calls Tryd.prog 23 #[.int .u64 (m : Int)] w fun e w' => e = .returned (.int .i64 ((cntF m.testBit 64 : Nat) : Int)) ∧ w = w' := by
  have H := Lib.hid (ones_any hm w)
  generalize cntF m.testBit 64 = c at H
  have hw : IntKind.u64.wrap (m : Int) = (m : Int) := by rw [IntKind.wrap_u64]; unfold Wd at hm; omega
  go_enter Tryd.func23, Tryd.ntmps23
  go_wp2_with (go_at_call 40; (with_reducible refine H.out.mono ?_); rintro e w' ⟨rfl, rfl⟩)
  go_ret
  exact ⟨rfl, rfl⟩
theorem below_any (i : Int) (hi : In i) (w : World) : Calls Tryd.prog 37 #[.int .i64 i] w fun e w' => e = .returned (.int .u64 ((belowM i : Nat) : Int)) ∧ w = w' := by
  by_cases h0 : i < 1
  · have e : belowM i = 0 := by unfold belowM; rw [show min i.toNat 64 = 0 by omega]
    rw [e]
    go_enter Tryd.func37, Tryd.ntmps37
    go_wp2
    go_ret
    exact ⟨rfl, rfl⟩
  · have h2 : 0 ≤ i := by omega
    obtain ⟨p, hp⟩ : ∃ p, p = 2 ^ min i.toNat 64 := ⟨_, rfl⟩
    have hp1 : 1 ≤ p := by rw [hp]; exact Nat.pow_pos (by omega)
    have hp2 : p ≤ 18446744073709551616 := by rw [hp, show (18446744073709551616 : Nat) = 2 ^ 64 from rfl]; exact Nat.pow_le_pow_right (by omega) (by omega)
    have e : belowM i = p - 1 := by unfold belowM; rw [hp]
    rw [e]
    have hpi : (2 : Int) ^ min i.toNat IntKind.u64.bits = (p : Int) := by rw [hp, Int.natCast_pow]; rfl
    have hs : ∀ W, (Op.shift .shl .u64 1 .i64 i).run Tryd.prog W = .ok (.int .u64 (IntKind.u64.wrap (p : Int))) W := fun W => by
      rw [shift_shl_any _ _ _ _ h2, Int.one_mul, hpi]; rfl
    have hs2 : Op.shift .shl .u64 1 .i64 i = pure (.int .u64 (IntKind.u64.wrap (p : Int))) := by
      rw [shift_shl_any _ _ _ _ h2, Int.one_mul, hpi]
    have hw : IntKind.u64.wrap (IntKind.u64.wrap (p : Int) - 1) = ((p - 1 : Nat) : Int) := by rw [IntKind.wrap_u64, IntKind.wrap_u64]; omega
    generalize IntKind.u64.wrap (p : Int) = p0 at hs hs2 hw
    clear hpi hp e hp1 hp2 hs
    go_enter Tryd.func37, Tryd.ntmps37
    go_wp2
    go_ret
    exact ⟨rfl, rfl⟩
theorem with_any {m : Nat} (hm : Wd m) (i : Int) (hi : In i) (w : World) : Calls Tryd.prog 15 #[.int .u64 (m : Int), .int .i64 i] w fun e w' => e = .returned (.int .u64 ((m ||| onlyM i : Nat) : Int)) ∧ w = w' := by
  have H1 := Lib.hid (only_any i hi w)
  have H2 := Lib.hid (or_any hm (wd_only i) w)
  go_enter Tryd.func15, Tryd.ntmps15
  go_wp2_with (first
    | (go_at_call 39; (with_reducible refine H1.out.mono ?_); rintro e w' ⟨rfl, rfl⟩)
    | (go_at_call 33; (with_reducible refine H2.out.mono ?_); rintro e w' ⟨rfl, rfl⟩))
  go_ret
  exact ⟨rfl, rfl⟩
theorem without_any {m : Nat} (hm : Wd m) (i : Int) (hi : In i) (w : World) : Calls Tryd.prog 18 #[.int .u64 (m : Int), .int .i64 i] w fun e w' => e = .returned (.int .u64 ((lessM m (onlyM i) : Nat) : Int)) ∧ w = w' := by
  have H1 := Lib.hid (only_any i hi w)
  have H2 := Lib.hid (less_any hm (wd_only i) w)
  go_enter Tryd.func18, Tryd.ntmps18
  go_wp2_with (first
    | (go_at_call 39; (with_reducible refine H1.out.mono ?_); rintro e w' ⟨rfl, rfl⟩)
    | (go_at_call 31; (with_reducible refine H2.out.mono ?_); rintro e w' ⟨rfl, rfl⟩))
  go_ret
  exact ⟨rfl, rfl⟩
theorem not_any {m : Nat} (hm : Wd m) (i : Int) (hi : In i) (w : World) : Calls Tryd.prog 19 #[.int .u64 (m : Int), .int .i64 i] w fun e w' => e = .returned (.int .u64 ((lessM (belowM i) m : Nat) : Int)) ∧ w = w' := by
  have H1 := Lib.hid (below_any i hi w)
  have H2 := Lib.hid (less_any (wd_below i) hm w)
  go_enter Tryd.func19, Tryd.ntmps19
  go_wp2_with (first
    | (go_at_call 37; (with_reducible refine H1.out.mono ?_); rintro e w' ⟨rfl, rfl⟩)
    | (go_at_call 31; (with_reducible refine H2.out.mono ?_); rintro e w' ⟨rfl, rfl⟩))
  go_ret
  exact ⟨rfl, rfl⟩
/-- how many are below i -/
def rankF (f : Nat → Bool) (i : Int) : Nat := cntF f (min i.toNat 64)
theorem rank_word {m : Nat} (i : Int) : cntF (m &&& belowM i).testBit 64 = rankF m.testBit i := by
  unfold rankF
  obtain ⟨k, hk⟩ : ∃ k, k = min i.toNat 64 := ⟨_, rfl⟩
  rw [← hk, show (64 : Nat) = k + (64 - k) by omega, cntF_add]
  have h1 : cntF (m &&& belowM i).testBit k = cntF m.testBit k := cntF_ext k fun j hj => by
    rw [Nat.testBit_and, below_bit, decide_eq_true (by omega), Bool.and_true]
  have h2 : cntF (fun j => (m &&& belowM i).testBit (k + j)) (64 - k) = 0 := by
    have : ∀ n, cntF (fun _ => false) n = 0 := fun n => by
      induction n with
      | zero => rfl
      | succ n ih => rw [cntF, ih]; rfl
    rw [← this (64 - k)]
    exact cntF_ext _ fun j hj => by rw [Nat.testBit_and, below_bit, decide_eq_false (by omega), Bool.and_false]
  rw [h1, h2]
  rfl
theorem rank_any {m : Nat} (hm : Wd m) (i : Int) (hi : In i) (w : World) : Calls Tryd.prog 21 #[.int .u64 (m : Int), .int .i64 i] w fun e w' => e = .returned (.int .i64 ((rankF m.testBit i : Nat) : Int)) ∧ w = w' := by
  have H1 := Lib.hid (below_any i hi w)
  have H2 := Lib.hid (and_any hm (wd_below i) w)
  have H3 := Lib.hid (count_any (wd_and (belowM i) hm) w)
  rw [rank_word] at H3
  go_enter Tryd.func21, Tryd.ntmps21
  go_wp2_with (first
    | (go_at_call 37; (with_reducible refine H1.out.mono ?_); rintro e w' ⟨rfl, rfl⟩)
    | (go_at_call 32; (with_reducible refine H2.out.mono ?_); rintro e w' ⟨rfl, rfl⟩)
    | (go_at_call 23; (with_reducible refine H3.out.mono ?_); rintro e w' ⟨rfl, rfl⟩))
  go_ret
  exact ⟨rfl, rfl⟩
end Go.Proofs.YtngfopnefmknoaaDoor
