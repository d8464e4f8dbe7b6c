/- Wire, the reference: sizes of a list with what is none at its end; what an append leaves of a reading. -/
import Derived.Test.YtloofajopgbfmaaWjRef7
namespace Go.Proofs.Ytloofajopgbfmaa
set_option linter.all false
open Go.RowKit
set_option maxRecDepth 100000
/-- plain, or what stands for none -/
def OkZ (x : V9) : Prop := Plain9 x ∨ x = zero9
def szZ (x : V9) : Nat := if x.kd = 0 then 0 else sizeV x
def sizeZ (l : List V9) : Nat := (l.map szZ).sum
theorem szZ_plain {x : V9} (h : Plain9 x) : szZ x = sizeV x := by
  unfold szZ
  rw [if_neg (by rcases h.kd with e | e | e | e <;> omega)]
theorem sizeZ_plain : ∀ {l : List V9}, (∀ x ∈ l, Plain9 x) → sizeZ l = sizeP l
  | [], _ => rfl
  | x :: l, h => by
    have h1 := szZ_plain (h x (by simp))
    have h2 := sizeZ_plain (l := l) (fun y hy => h y (by simp [hy]))
    unfold sizeZ at h2 ⊢
    unfold sizeP at h2 ⊢
    simp only [List.map_cons, List.sum_cons, h1, h2]
theorem szZ_le {x : V9} (h : OkZ x) : szZ x ≤ 256 := by
  rcases h with h | rfl
  · rw [szZ_plain h]; exact plain_size h
  · decide
theorem sizeZ_snoc (l : List V9) (x : V9) : sizeZ (l ++ [x]) = sizeZ l + szZ x := by simp [sizeZ]
theorem sizeZ_le {l : List V9} (h : ∀ x ∈ l, OkZ x) : sizeZ l ≤ 256 * l.length := by
  induction l with
  | nil => simp [sizeZ]
  | cons x l ih =>
    have h1 := szZ_le (h x (by simp))
    have h2 := ih (fun y hy => h y (by simp [hy]))
    simp only [sizeZ, List.map_cons, List.sum_cons, List.length_cons] at *
    omega
set_option maxHeartbeats 4000000 in
theorem rsize_zero (w : World) : Calls Try.prog 51 #[valO zero9] w fun e w' => e = .returned (.int .i64 0) ∧ Below w.heap.size w w' := by
  have hm := fun W => rmay_any 0 0 0 0 0 ⟨#[]⟩ W
  rw [show mayB 0 0 ⟨#[]⟩ = false from rfl] at hm
  unfold valV at hm
  have HM := Lib.hid hm
  have HB : Hid (Below w.heap.size w (w.alloc (.cells #[.int .i64 0, .int .i64 0, .float .f64 0, .complex .f64 0 0, .string ⟨#[]⟩] 27))) := Lib.hid ((Below.refl _ w).alloc (Nat.le_refl _) _)
  clear hm
  show Calls Try.prog 51 #[.agg #[.int .i64 0, .int .i64 0, .float .f64 0, .complex .f64 0 0, .string ⟨#[]⟩]] w fun e w' => e = .returned (.int .i64 0) ∧ Below w.heap.size w w'
  go_enter Try.func51, Try.ntmps51
  go_wp2_with fail
  refine (HM.out _).mono ?_
  rintro e w1 ⟨rfl, hb1⟩
  have HB1 := Lib.hid (HB.out.trans (hb1.mono HB.out.size))
  clear hb1
  go_wp2_with fail
  go_ret
  exact ⟨rfl, HB1.out⟩
theorem rsize_z (x : V9) (h : OkZ x) (w : World) : Calls Try.prog 51 #[valO x] w fun e w' => e = .returned (.int .i64 (szZ x)) ∧ Below w.heap.size w w' := by
  rcases h with h | rfl
  · rw [szZ_plain h]; exact rsize_any x h w
  · exact rsize_zero w
set_option maxHeartbeats 2000000 in
theorem rsizes_z (vs : List V9) (v : Value) (w : World) (hall : ∀ x ∈ vs, OkZ x) (hrow : w.ownsRow 0 27 5 v vs.length (cellsP vs)) (hn : vs.length ≤ 255) : Calls Try.prog 36 #[v] w fun e w' => e = .returned (.int .i64 (sizeZ vs)) ∧ Below w.heap.size w w' := by
  obtain ⟨a, cap, rfl⟩ := row_form hrow
  have HR := Lib.hid hrow
  have HA := Lib.hid hall
  obtain ⟨n, hn2⟩ : ∃ n, n = vs.length := ⟨_, rfl⟩
  have HN := Lib.hid hn2
  rw [← hn2] at hn ⊢
  have hts : vs.take n = vs := by rw [hn2]; exact List.take_length
  have HTS := Lib.hid hts
  clear hrow hall hn2 hts
  go_enter Try.func36, Try.ntmps36
  go_wp2
  go_loopw [3, 4] (fun z i wr => ∃ k : Nat, i = .int .i64 k ∧ k ≤ n ∧ z = .int .i64 (sizeZ (vs.take k)) ∧ Hid (Below w.heap.size w wr)) (fun _ i _ => n - (intOf i).toNat)
  case atStart => exact ⟨0, rfl, Nat.zero_le _, rfl, Lib.hid (Below.refl _ _)⟩
  case round =>
    obtain ⟨k, rfl, hk, rfl, HBR⟩ := hrel
    rcases Nat.lt_or_ge k n with hlt | hge
    · have hkl : k < vs.length := by rw [← HN.out]; exact hlt
      obtain ⟨x, hx⟩ : ∃ x, vs[k]? = some x := ⟨_, List.getElem?_eq_getElem hkl⟩
      obtain ⟨g, rfl, hg, e0, e1, e2, e3, e4⟩ := row_cells HR.out hx
      have c0 := old_cell9 HBR.out e0
      have c1 := old_cell9 HBR.out e1
      have c2 := old_cell9 HBR.out e2
      have c3 := old_cell9 HBR.out e3
      have c4 := old_cell9 HBR.out e4
      have hpl := HA.out x (List.mem_of_getElem? hx)
      have hs := fun W => rsize_z x hpl W
      unfold valO valV at hs
      have HS := Lib.hid hs
      have hts : sizeZ (vs.take (k + 1)) = sizeZ (vs.take k) + szZ x := by rw [take_at hx, sizeZ_snoc]
      have hz1 : szZ x ≤ 256 := szZ_le hpl
      have hz2 : sizeZ (vs.take k) ≤ 256 * k := Nat.le_trans (sizeZ_le (fun y hy => HA.out y (List.mem_of_mem_take hy))) (by have : (vs.take k).length ≤ k := List.length_take_le _ _; omega)
      have HT2 := Lib.hid hts
      clear e0 e1 e2 e3 e4 hs hpl hts
      go_wp2_with fail
      refine (HS.out _).mono ?_
      rintro e w3 ⟨rfl, hb3⟩
      have HB3 := Lib.hid (HBR.out.trans (hb3.mono HBR.out.size))
      clear hb3 c0 c1 c2 c3 c4
      go_wp2_with fail
      go_roundw
      case rel => exact ⟨k + 1, by go_num, by omega, by rw [HT2.out]; go_num, HB3⟩
      case measure => simp [intOf]; omega
    · obtain rfl : k = n := by omega
      rw [HTS.out]
      go_wp2
      go_ret
      exact ⟨rfl, HBR.out⟩
theorem Txt.grown {w W W' : World} {a : Option Addr} {n cap : Nat} {l : List UInt8} {row : Option Nat} (h0 : Txt w a n cap l) (h : Txt W a n cap l) (hg : W.grownBy W' row) (hr : ∀ g, row = some g → w.heap.size ≤ g) : Txt W' a n cap l := by
  obtain ⟨h1, h2, h3, h4⟩ := h
  refine ⟨h1, h2, h3, h4.imp id ?_⟩
  rintro ⟨x, rfl, hx⟩
  refine ⟨x, rfl, fun i hi => ?_⟩
  obtain ⟨_, _, _, g4⟩ := h0
  rcases g4 with ⟨g, _⟩ | ⟨y, g, hy⟩
  · cases g
  · cases g
    have hb := World.block_lt_of_cell? w _ (hy i hi)
    exact hg.cell (hx i hi) (fun e => by have := hr _ e.symm; omega)
theorem RSt.grown {w W W' : World} {p : Nat} {a : Option Addr} {n cap : Nat} {l : List UInt8} {o o2 : Option Nat} {row : Option Nat} (h0 : RSt w p a n cap l o2) (h : RSt W p a n cap l o) (hg : W.grownBy W' row) (hr : ∀ g : Nat, row = Option.some g → w.heap.size ≤ g) : RSt W' p a n cap l o := by
  obtain ⟨k, b, hb, hs⟩ := h.box
  have := h0.lt
  exact ⟨h0.txt.grown h.txt hg hr, h.off, k, b, (hg.block p hb.lt (fun e => by have := hr p e.symm; omega)).trans hb, hs⟩
theorem Eff9.grown {w W W' : World} {p : Nat} {row : Option Nat} (h : Eff9 p w W) (hg : W.grownBy W' row) (hr : ∀ g, row = some g → w.heap.size ≤ g) : Eff9 p w W' :=
  ⟨hg.os.trans h.os, hg.tape.trans h.tape, hg.output.trans h.output, Nat.le_trans h.size hg.size, fun i hi hn => (hg.block i (Nat.lt_of_lt_of_le hi h.size) (fun e => by have := hr i e.symm; omega)).trans (h.block i hi hn)⟩
end Go.Proofs.Ytloofajopgbfmaa
