/- Wire: numbers as bytes, and back: bytesOf, number. -/
import Derived.Test.YtloofajopgbfmaaWjKit
namespace Go.Proofs.Ytloofajopgbfmaa
set_option linter.all false
open Go.RowKit
set_option maxRecDepth 100000
def rowW (n k : Nat) : List Value := u8s ((beW 8 n).take k ++ List.replicate (8 - k) 0)
theorem rowW_set (n k : Nat) (hk : k < 8) : (rowW n k).set k (.int .u8 ((UInt8.ofNat (n / 256 ^ (7 - k) % 256)).toNat : Int)) = rowW n (k + 1) := by
  have h8 : beW 8 n = [UInt8.ofNat (n / 256 ^ 7 % 256), UInt8.ofNat (n / 256 ^ 6 % 256), UInt8.ofNat (n / 256 ^ 5 % 256), UInt8.ofNat (n / 256 ^ 4 % 256), UInt8.ofNat (n / 256 ^ 3 % 256), UInt8.ofNat (n / 256 ^ 2 % 256), UInt8.ofNat (n / 256 ^ 1 % 256), UInt8.ofNat (n / 256 ^ 0 % 256)] := rfl
  unfold rowW
  rw [h8]
  obtain rfl | rfl | rfl | rfl | rfl | rfl | rfl | rfl : k = 0 ∨ k = 1 ∨ k = 2 ∨ k = 3 ∨ k = 4 ∨ k = 5 ∨ k = 6 ∨ k = 7 := by omega
  all_goals rfl
theorem rowW_at (n k : Nat) (hk : k < 8) : (rowW n k)[k]? = some (.int .u8 0) := by
  obtain rfl | rfl | rfl | rfl | rfl | rfl | rfl | rfl : k = 0 ∨ k = 1 ∨ k = 2 ∨ k = 3 ∨ k = 4 ∨ k = 5 ∨ k = 6 ∨ k = 7 := by omega
  all_goals rfl
theorem rowW_next {w : World} {g n k : Nat} (h : Bk w g 69 (rowW n k)) (hk : k < 8) {x : Int} (hx : x = ((n / 256 ^ (7 - k) % 256 : Nat) : Int)) : Bk (w.setCell ⟨g, k, none⟩ (.int .u8 x)) g 69 (rowW n (k + 1)) := by
  have h1 := h.set k (.int .u8 x)
  rw [hx, show ((n / 256 ^ (7 - k) % 256 : Nat) : Int) = ((UInt8.ofNat (n / 256 ^ (7 - k) % 256)).toNat : Int) by simp, rowW_set n k hk] at h1
  rw [hx]
  simpa using h1
set_option maxHeartbeats 4000000 in
theorem bytesOf_any (n : Nat) (hn : n < 18446744073709551616) (w : World) : Calls Try.prog 57 #[.int .u64 n] w fun e w' => e = .returned (agB (beW 8 n)) ∧ Below w.heap.size w w' := by
  have hb0 : Below w.heap.size w ((w.alloc (.cells (rowW 0 8).toArray 69)).alloc (.cells (rowW 0 8).toArray 69)) := ((Below.refl _ w).alloc (Nat.le_refl _) _).alloc (by simp) _
  have hx0 : Bk ((w.alloc (.cells (rowW 0 8).toArray 69)).alloc (.cells (rowW 0 8).toArray 69)) w.heap.size 69 (rowW 0 8) := (Bk.new w _ _).alloc _
  have hy0 : Bk ((w.alloc (.cells (rowW 0 8).toArray 69)).alloc (.cells (rowW 0 8).toArray 69)) (w.heap.size + 1) 69 (rowW n 0) := heap_alloc2_new w _ _
  have HB := Lib.hid hb0
  have HX := Lib.hid hx0
  have HY := Lib.hid hy0
  clear hb0 hx0 hy0
  go_enter Try.func57, Try.ntmps57
  go_wp2
  go_loopw [5] (fun i wr => ∃ k : Nat, i = .int .i64 k ∧ k ≤ 8 ∧ Bk wr (w.heap.size + 1) 69 (rowW n k) ∧ Bk wr w.heap.size 69 (rowW 0 8) ∧ Below w.heap.size w wr) (fun i _ => 8 - (intOf i).toNat)
  case atStart => exact ⟨0, rfl, by omega, HY.out, HX.out, HB.out⟩
  case round =>
    obtain ⟨k, rfl, hk, hy, hx, hb⟩ := hrel
    clear HB HX HY
    rcases Nat.lt_or_ge k 8 with hlt | hge
    · have HY := Lib.hid hy
      have HX := Lib.hid hx
      have HB := Lib.hid hb
      have hf := hy.fz k
      have hl := hy.lt
      have hc := hy.c k (rowW_at n k hlt)
      clear hy hx hb
      obtain rfl | rfl | rfl | rfl | rfl | rfl | rfl | rfl : k = 0 ∨ k = 1 ∨ k = 2 ∨ k = 3 ∨ k = 4 ∨ k = 5 ∨ k = 6 ∨ k = 7 := by omega
      all_goals
        go_wp2
        go_roundw
        case rel => exact ⟨_, by go_num, by omega, rowW_next HY.out (by omega) (by simp only [IntKind.wrap_u8, Nat.reduceSub, Nat.reducePow]; omega), HX.out.other (by omega) _ _, HB.out.setCell (by simp) _⟩
        case measure => simp [intOf]
    · obtain rfl : k = 8 := by omega
      obtain ⟨b0, b1, b2, b3, b4, b5, b6, b7, hbe⟩ : ∃ b0 b1 b2 b3 b4 b5 b6 b7, beW 8 n = [b0, b1, b2, b3, b4, b5, b6, b7] := ⟨_, _, _, _, _, _, _, _, rfl⟩
      have hr : rowW n 8 = u8s [b0, b1, b2, b3, b4, b5, b6, b7] := by unfold rowW; rw [hbe]; rfl
      rw [hr] at hy
      have HBE := Lib.hid hbe
      have c0 := hy.c 0 rfl
      have c1 := hy.c 1 rfl
      have c2 := hy.c 2 rfl
      have c3 := hy.c 3 rfl
      have c4 := hy.c 4 rfl
      have c5 := hy.c 5 rfl
      have c6 := hy.c 6 rfl
      have c7 := hy.c 7 rfl
      have d0 := hx.c 0 rfl
      have d1 := hx.c 1 rfl
      have d2 := hx.c 2 rfl
      have d3 := hx.c 3 rfl
      have d4 := hx.c 4 rfl
      have d5 := hx.c 5 rfl
      have d6 := hx.c 6 rfl
      have d7 := hx.c 7 rfl
      have f0 := hx.fz 0
      have f1 := hx.fz 1
      have f2 := hx.fz 2
      have f3 := hx.fz 3
      have f4 := hx.fz 4
      have f5 := hx.fz 5
      have f6 := hx.fz 6
      have f7 := hx.fz 7
      have hl := hx.lt
      have HZ := Lib.hid (hx.put (u8s [b0, b1, b2, b3, b4, b5, b6, b7]) rfl)
      have HB := Lib.hid (below_putL (g := w.heap.size) (Nat.le_refl _) (u8s [b0, b1, b2, b3, b4, b5, b6, b7]) 0 hb)
      clear hr hbe hy hx hb
      go_wp2
      have Z : Bk ((((((((wr.setCell ⟨w.heap.size, 0, none⟩ (.int .u8 b0.toNat)).setCell ⟨w.heap.size, 1, none⟩ (.int .u8 b1.toNat)).setCell ⟨w.heap.size, 2, none⟩ (.int .u8 b2.toNat)).setCell ⟨w.heap.size, 3, none⟩ (.int .u8 b3.toNat)).setCell ⟨w.heap.size, 4, none⟩ (.int .u8 b4.toNat)).setCell ⟨w.heap.size, 5, none⟩ (.int .u8 b5.toNat)).setCell ⟨w.heap.size, 6, none⟩ (.int .u8 b6.toNat)).setCell ⟨w.heap.size, 7, none⟩ (.int .u8 b7.toNat)) w.heap.size 69 (u8s [b0, b1, b2, b3, b4, b5, b6, b7]) := HZ.out
      have z0 := Z.c 0 rfl
      have z1 := Z.c 1 rfl
      have z2 := Z.c 2 rfl
      have z3 := Z.c 3 rfl
      have z4 := Z.c 4 rfl
      have z5 := Z.c 5 rfl
      have z6 := Z.c 6 rfl
      have z7 := Z.c 7 rfl
      exact bodyPost_ret (v := agB [b0, b1, b2, b3, b4, b5, b6, b7]) (by simp [results, Try.results57, go_sem, z0, z1, z2, z3, z4, z5, z6, z7, agB, u8s]) rfl ⟨by rw [HBE.out], HB.out⟩
theorem or_add (a c : Nat) (hc : c < 256) : a * 256 ||| c = a * 256 + c := by
  have h := Nat.shiftLeft_add_eq_or_of_lt (b := c) (i := 8) hc a
  rw [Nat.shiftLeft_eq] at h
  exact h.symm
theorem num_step (l : List UInt8) (k : Nat) (hk : k < l.length) (h8 : l.length ≤ 8) :
    bits BinOp.or IntKind.u64 (IntKind.u64.wrap (((numW (l.take k) : Nat) : Int) * 256)) (IntKind.u64.wrap ((l[k].toNat : Nat) : Int)) = ((numW (l.take (k + 1)) : Nat) : Int) := by
  have h1 := numW_lt (l.take k)
  have hl : (l.take k).length = k := by simp; omega
  rw [hl] at h1
  have h2 : 256 ^ k ≤ 256 ^ 7 := Nat.pow_le_pow_right (by decide) (by omega)
  have h3 : numW (l.take k) < 72057594037927936 := Nat.lt_of_lt_of_le h1 h2
  have h4 := l[k].toNat_lt
  have h4' : l[k].toNat < 256 := h4
  have e1 : IntKind.u64.wrap (((numW (l.take k) : Nat) : Int) * 256) = ((numW (l.take k) * 256 : Nat) : Int) := by rw [IntKind.wrap_u64]; omega
  have e2 : IntKind.u64.wrap ((l[k].toNat : Nat) : Int) = ((l[k].toNat : Nat) : Int) := by rw [IntKind.wrap_u64]; omega
  rw [e1, e2, bits_or_u64_nat _ _ (by omega) (by omega), or_add _ _ h4', List.take_succ_eq_append_getElem hk, numW_snoc, Nat.mul_comm]
theorem number_any (a : Option Addr) (n cap : Nat) (l : List UInt8) (w : World) (ht : Txt w a n cap l) (hn : n ≤ 8) : Calls Try.prog 26 #[.slice a n cap] w fun e w' => e = .returned (.int .u64 (numW l)) ∧ w = w' := by
  obtain ⟨hl, hnc, hm, h4⟩ := ht
  have HL := Lib.hid hl
  have hx : ∀ k, k < n → ∃ (h : k < l.length), ∃ x : Addr, a = some x ∧ w.cell? (x.add k) = some (.int .u8 (l[k].toNat : Int)) := by
    intro k hk
    rcases h4 with ⟨rfl, h0, h1⟩ | ⟨x, rfl, hx⟩
    · omega
    · exact ⟨by omega, x, rfl, hx k (by omega)⟩
  have HX := Lib.hid hx
  clear hl h4 hx
  go_enter Try.func26, Try.ntmps26
  go_wp2
  go_loop [3, 8] (fun v i => ∃ k : Nat, i = .int .i64 k ∧ k ≤ n ∧ v = .int .u64 (numW (l.take k))) (fun _ i => n - (intOf i).toNat)
  case atStart => exact ⟨0, rfl, by omega, rfl⟩
  case round =>
    obtain ⟨k, rfl, hk, rfl⟩ := hrel
    rcases Nat.lt_or_ge k n with hlt | hge
    · obtain ⟨hkl, x, rfl, hc⟩ := HX.out k hlt
      go_wp2
      go_round
      case rel => exact ⟨k + 1, by go_num, by omega, by rw [num_step l k hkl (by rw [HL.out]; omega)]⟩
      case measure => simp [intOf]; omega
    · obtain rfl : k = n := by omega
      go_wp2
      go_ret
      rw [← HL.out, List.take_length]
      exact ⟨rfl, rfl⟩
end Go.Proofs.Ytloofajopgbfmaa
