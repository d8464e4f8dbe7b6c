/- Plain facts on sums in 128 bits, and on lists of ints in memory: no program. -/
import Derived.Test.YtdckenkomjikbaaCkPlain
import Derived.WalkKit
namespace Go.Proofs.Ytdckenkomjikbaa
open Go.RowKit

/-- the lower 64 bits, the next 64 bits; a number's two halves in 128 bits; the carry -/
def loW (s : Int) : Int := s % 18446744073709551616
def hiW (s : Int) : Int := (s / 18446744073709551616) % 18446744073709551616
def upW (x : Int) : Int := if x < 0 then 18446744073709551615 else 0
def cyW (s x : Int) : Int := (loW s + loW x) / 18446744073709551616
def numW (s : Int) : Int := wrap64 (loW s)

theorem loW_in (s : Int) : 0 ≤ loW s ∧ loW s ≤ 18446744073709551615 := by unfold loW; omega
theorem hiW_in (s : Int) : 0 ≤ hiW s ∧ hiW s ≤ 18446744073709551615 := by unfold hiW; omega
theorem upW_in (s : Int) : 0 ≤ upW s ∧ upW s ≤ 18446744073709551615 := by unfold upW; split <;> omega
theorem cyW_in (s x : Int) : 0 ≤ cyW s x ∧ cyW s x ≤ 1 := by have := loW_in s; have := loW_in x; unfold cyW; omega
theorem lo_step (s x : Int) : (loW s + loW x + 0) % 18446744073709551616 = loW (s + x) := by unfold loW; omega
theorem cy_step (s x : Int) : (loW s + loW x + 0) / 18446744073709551616 = cyW s x := by unfold cyW; omega
theorem hi_step (s x : Int) (h : -9223372036854775808 ≤ x ∧ x ≤ 9223372036854775807) : (hiW s + upW x + cyW s x) % 18446744073709551616 = hiW (s + x) := by
  unfold hiW upW cyW loW; split <;> omega
theorem u64_lo (x : Int) : IntKind.u64.wrap x = loW x := by rw [IntKind.wrap_u64]; unfold loW; rfl
theorem num_in (s : Int) : -9223372036854775808 ≤ numW s ∧ numW s ≤ 9223372036854775807 := by unfold numW wrap64; omega
theorem num_fit (s : Int) (h : -170141183460469231731687303715884105728 ≤ s ∧ s < 170141183460469231731687303715884105728) (e : hiW s = upW (numW s)) : fitV s = numW s ∧ fitE s = 0 := by
  have : -9223372036854775808 ≤ s ∧ s ≤ 9223372036854775807 ∧ numW s = s := by
    revert e; unfold hiW upW numW wrap64 loW; split <;> omega
  rw [fitV_yes this.1 this.2.1, fitE_yes this.1 this.2.1]; exact ⟨this.2.2.symm, rfl⟩
theorem num_unfit (s : Int) (h : -170141183460469231731687303715884105728 ≤ s ∧ s < 170141183460469231731687303715884105728) (e : hiW s ≠ upW (numW s)) : fitV s = 0 ∧ fitE s = 30 := by
  have : s < -9223372036854775808 ∨ 9223372036854775807 < s := by
    rcases fit_cases s with h2 | h2
    · exfalso; apply e; unfold hiW upW numW wrap64 loW; split <;> omega
    · exact h2
  rw [fitV_no this, fitE_no this]; exact ⟨rfl, rfl⟩

/-- every number of the list is within 64 bits -/
def AllIn (l : List Int) : Prop := ∀ x ∈ l, -9223372036854775808 ≤ x ∧ x ≤ 9223372036854775807
theorem AllIn.get {l : List Int} (h : AllIn l) (k : Nat) (hk : k < l.length) : -9223372036854775808 ≤ l[k] ∧ l[k] ≤ 9223372036854775807 := h _ (List.getElem_mem hk)
theorem take_step {α : Type} (l : List α) (k : Nat) (h : k < l.length) : l.take (k + 1) = l.take k ++ [l[k]] := (List.take_append_getElem h).symm
theorem sum_step (l : List Int) (k : Nat) (h : k < l.length) : (l.take (k + 1)).sum = (l.take k).sum + l[k] := by
  rw [take_step l k h, List.sum_append]; simp
theorem sum_bd (l : List Int) (h : AllIn l) : -(l.length * 9223372036854775808 : Int) ≤ l.sum ∧ l.sum ≤ (l.length * 9223372036854775808 : Int) := by
  induction l with
  | nil => simp
  | cons x l ih =>
    have hx := h x (by simp)
    have := ih (fun y hy => h y (by simp [hy]))
    simp only [List.sum_cons, List.length_cons]
    push_cast
    omega

/-- the ints lie from the address on; a slice value of the ints -/
def IntsAt (w : World) (a : Addr) (l : List Int) : Prop := ∀ i (h : i < l.length), w.cell? (a.add i) = some (.int .i64 l[i])
def Ints (w : World) (a : Option Addr) (n cap : Nat) (l : List Int) : Prop :=
  l.length = n ∧ n ≤ cap ∧ cap ≤ maxLen ∧ AllIn l ∧ ((a = none ∧ n = 0 ∧ cap = 0) ∨ ∃ x, a = some x ∧ IntsAt w x l)
theorem IntsAt.spot {w : World} {b o : Nat} {s} {l : List Int} (h : IntsAt w ⟨b, o, s⟩ l) (hl : 0 < l.length) : s = none ∧ ∀ i (h : i < l.length), w.cell? ⟨b, o + i, none⟩ = some (.int .i64 l[i]) := by
  have h0 := h 0 hl
  have hs : s = none := by simpa [Addr.add] using World.cell?_spot h0
  subst hs
  refine ⟨rfl, fun i hi => ?_⟩
  have := h i hi
  have hadd : (⟨b, o, none⟩ : Addr).add i = ⟨b, o + i, none⟩ := by unfold Addr.add; split <;> simp_all
  rwa [hadd] at this
theorem IntsAt.lt {w : World} {a : Addr} {l : List Int} (h : IntsAt w a l) (hl : 0 < l.length) : a.block < w.heap.size := by
  have := World.block_lt_of_cell? w _ (h 0 hl)
  simpa [Addr.add] using this
theorem IntsAt.mono {w w' : World} {a : Addr} {l : List Int} (h : IntsAt w a l) (hc : ∀ i, i < l.length → w'.cell? (a.add i) = w.cell? (a.add i)) : IntsAt w' a l := fun i hi => (hc i hi).trans (h i hi)
theorem Ints.below {w w' : World} {B : Nat} {a : Option Addr} {n cap : Nat} {l : List Int} (h : Ints w a n cap l) (hb : Below B w w') (hB : w.heap.size ≤ B) : Ints w' a n cap l := by
  obtain ⟨h1, h2, h3, h5, h4⟩ := h
  refine ⟨h1, h2, h3, h5, h4.imp id ?_⟩
  rintro ⟨x, rfl, hx⟩
  refine ⟨x, rfl, hx.mono fun i hi => hb.cell (p := x.add i) ?_⟩
  have := World.block_lt_of_cell? w _ (hx i hi)
  omega
theorem IntsAt.owned {w : World} {base g cap n e : Nat} {l : List Int} (hown : w.ownsRow base e 1 (.slice (some ⟨g, 0, none⟩) n cap) n (l.map (Value.int .i64))) : IntsAt w ⟨g, 0, none⟩ l :=
  fun j hj => hown.cells rfl j _ (by simp [hj])
end Go.Proofs.Ytdckenkomjikbaa
