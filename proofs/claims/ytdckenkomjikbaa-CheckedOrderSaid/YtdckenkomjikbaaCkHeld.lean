/- Lists of ints in memory of the call's own. -/
import Derived.Test.YtdckenkomjikbaaCkRefProd
namespace Go.Proofs.Ytdckenkomjikbaa
open Go.RowKit
set_option maxRecDepth 100000

theorem info_i64 : (Try.prog.info? 2).map (fun i => (i.zero, i.size, i.bytes)) = some (some (.int .i64 0), 1, 8) := by kernel_rfl
theorem own_below {w w' : World} {B base size n : Nat} {e : TypeId} {v : Value} {xs : List Value} (h : w.ownsRow base e size v n xs) (hb : Below B w w') (hB : w.heap.size ≤ B) : w'.ownsRow base e size v n xs := by
  refine ⟨h.1, ?_⟩
  rcases h.2 with hn | ⟨g, cap, cur, rfl, hbs, hgg, rest⟩
  · exact .inl hn
  · refine .inr ⟨g, cap, cur, rfl, hbs, ?_, rest⟩
    rw [hb.block g (by have := lt_of_block hgg; omega)]
    exact hgg
/-- of a row with one number more behind it: the list itself -/
theorem ints_of_own {w : World} {base g n c : Nat} {e : TypeId} {l : List Int} {u : Int} (hl : l.length = n) (ha : AllIn l) (h : w.ownsRow base e 1 (.slice (some ⟨g, 0, none⟩) (n + 1) c) (n + 1) ((l ++ [u]).map (Value.int .i64))) : Ints w (some ⟨g, 0, none⟩) n c l := by
  have hc : n + 1 ≤ c ∧ c ≤ maxLen := by
    rcases h.2 with ⟨h', _⟩ | ⟨_, _, _, he, _, _, h1, h2, _⟩
    · cases h'
    · cases he; exact ⟨h1, h2⟩
  refine ⟨hl, by omega, hc.2, ha, .inr ⟨_, rfl, fun i hi => ?_⟩⟩
  exact h.cells rfl i _ (by simp [hi, List.getElem?_append_left])
theorem last_of_own {w : World} {base g n c : Nat} {e : TypeId} {l : List Int} {u : Int} (hl : l.length = n) (h : w.ownsRow base e 1 (.slice (some ⟨g, 0, none⟩) (n + 1) c) (n + 1) ((l ++ [u]).map (Value.int .i64))) : w.cell? ⟨g, n, none⟩ = some (.int .i64 u) := by
  subst hl
  rw [h.cellAt l.length (by omega)]
  simp
theorem one_cell (l : List Int) : ∀ u ∈ l.map (Value.int .i64), u.oneCell' = true := by
  intro u hu
  obtain ⟨x, _, rfl⟩ := List.mem_map.1 hu
  rfl
theorem news_of {w : World} {x : Addr} {l : List Int} (h : IntsAt w x l) : ∀ j u, (l.map (Value.int .i64))[j]? = some u → w.cell? (x.add j) = some u := by
  intro j u hu
  simp only [List.getElem?_map, Option.map_eq_some_iff] at hu
  obtain ⟨b, hb, rfl⟩ := hu
  obtain ⟨hj, rfl⟩ := List.getElem?_eq_some_iff.1 hb
  exact h j hj

/-- a number halved and one more -/
def upd (x : Int) : Int := x.tdiv 2 + 1
theorem upd_in {x : Int} (h : -9223372036854775808 ≤ x ∧ x ≤ 9223372036854775807) : -9223372036854775808 ≤ upd x ∧ upd x ≤ 9223372036854775807 := by
  unfold upd
  have e : (x.tdiv 2).natAbs = x.natAbs / 2 := Int.natAbs_tdiv x 2
  omega
theorem upd_in1 {x : Int} (h : -9223372036854775808 ≤ x ∧ x ≤ 9223372036854775807) : -9223372036854775808 ≤ x.tdiv 2 ∧ x.tdiv 2 ≤ 4611686018427387904 := by
  have e : (x.tdiv 2).natAbs = x.natAbs / 2 := Int.natAbs_tdiv x 2
  omega

/-- the copy that the law works on: the numbers and the mark behind them, and the world as it was -/
def Held (w wr : World) (g c n : Nat) (zs : List Int) : Prop := zs.length = n ∧ AllIn zs ∧ wr.ownsRow w.heap.size 2 1 (.slice (some ⟨g, 0, none⟩) (n + 1) c) (n + 1) ((zs ++ [77]).map (Value.int .i64)) ∧ Below w.heap.size w wr
theorem Held.below {w wr w' : World} {g c n : Nat} {zs : List Int} (h : Held w wr g c n zs) (hb : Below wr.heap.size wr w') : Held w w' g c n zs :=
  ⟨h.1, h.2.1, own_below h.2.2.1 hb (Nat.le_refl _), h.2.2.2.trans (hb.mono h.2.2.2.size)⟩
theorem Held.ints {w wr : World} {g c n : Nat} {zs : List Int} (h : Held w wr g c n zs) : Ints wr (some ⟨g, 0, none⟩) n c zs := ints_of_own h.1 h.2.1 h.2.2.1
theorem Held.last {w wr : World} {g c n : Nat} {zs : List Int} (h : Held w wr g c n zs) : wr.cell? ⟨g, n, none⟩ = some (.int .i64 77) := last_of_own h.1 h.2.2.1
theorem Held.at {w wr : World} {g c n : Nat} {zs : List Int} (h : Held w wr g c n zs) (i : Nat) (hi : i < zs.length) : wr.cell? ⟨g, i, none⟩ = some (.int .i64 zs[i]) := by
  rw [h.2.2.1.cellAt i (by have := h.1; omega)]
  simp [hi, List.getElem?_append_left]
theorem Held.free {w wr : World} {g c n : Nat} {zs : List Int} (h : Held w wr g c n zs) (i : Nat) : wr.frozen? ⟨g, i, none⟩ = false := h.2.2.1.frozenAt i
theorem Held.lt {w wr : World} {g c n : Nat} {zs : List Int} (h : Held w wr g c n zs) : w.heap.size ≤ g ∧ g < wr.heap.size := h.2.2.1.lt g rfl
theorem Held.cap {w wr : World} {g c n : Nat} {zs : List Int} (h : Held w wr g c n zs) : n + 1 ≤ c ∧ c ≤ maxLen := by
  rcases h.2.2.1.2 with ⟨h', _⟩ | ⟨_, _, _, he, _, _, h1, h2, _⟩
  · cases h'
  · cases he; exact ⟨h1, h2⟩
theorem Held.set {w wr : World} {g c n : Nat} {zs : List Int} (h : Held w wr g c n zs) (i : Nat) (hi : i < n) {u : Int} (hu : -9223372036854775808 ≤ u ∧ u ≤ 9223372036854775807) : Held w (wr.setCell ⟨g, i, none⟩ (.int .i64 u)) g c n (zs.set i u) := by
  obtain ⟨h1, h2, h3, h4⟩ := h
  refine ⟨by simp [h1], fun x hx => ?_, ?_, h4.setCell (h3.lt g rfl).1 _⟩
  · rcases List.mem_or_eq_of_mem_set hx with hx | rfl
    · exact h2 x hx
    · exact hu
  · have := (h3.stored i (.int .i64 u)).1
    rw [← List.map_set, List.set_append_left _ _ (by omega)] at this
    exact this
/-- the other copy is no less what it was -/
theorem Ints.own_set {w : World} {B g j n c : Nat} {a : Option Addr} {l : List Int} (h : Ints w a n c l) (hb : ∀ x, a = some x → B ≤ x.block) (hg : g < B) (u : Value) : Ints (w.setCell ⟨g, j, none⟩ u) a n c l := by
  obtain ⟨h1, h2, h3, h5, h4⟩ := h
  refine ⟨h1, h2, h3, h5, h4.imp id ?_⟩
  rintro ⟨p, rfl, hp⟩
  refine ⟨p, rfl, hp.mono fun i hi => World.cell?_setCell_other _ _ _ _ ?_⟩
  have := hb p rfl
  intro e
  have h2 : p.block = g := by
    have h3 : (p.add i).block = p.block := by unfold Addr.add; split <;> rfl
    rw [← h3, ← e]
  omega
end Go.Proofs.Ytdckenkomjikbaa
