/- Queue: the steps that a law is told. -/
import Derived.Test.YtpemdfdmnbhpjaaQuRow
set_option linter.all false
namespace Go.Proofs.Ytpemdfdmnbhpjaa
open Go.RowKit
set_option maxRecDepth 100000
structure S3 where
  k : Int
  id : Int
  x : Int
  deriving Inhabited
/-- a list of steps in memory -/
structure Stps (w : World) (a : Option Addr) (n cap : Nat) (L : List S3) : Prop where
  len : L.length = n
  room : n ≤ cap
  top : cap ≤ maxLen
  ins : ∀ s ∈ L, In s.k ∧ In s.id ∧ In s.x
  at0 : ∀ i s, L[i]? = some s → ∃ x : Addr, a = some x ∧ (x.add (i * 3)).block < w.heap.size ∧ w.cell? (x.add (i * 3)) = some (.int .i64 s.k) ∧ w.cell? ⟨(x.add (i * 3)).block, (x.add (i * 3)).off + 1, none⟩ = some (.int .i64 s.id) ∧ w.cell? ⟨(x.add (i * 3)).block, (x.add (i * 3)).off + 2, none⟩ = some (.int .i64 s.x)
theorem Stps.below {w w' : World} {B : Nat} {a : Option Addr} {n cap : Nat} {L : List S3} (h : Stps w a n cap L) (hb : Below B w w') (hB : w.heap.size ≤ B) : Stps w' a n cap L :=
  ⟨h.len, h.room, h.top, h.ins, fun i s hi => by
    obtain ⟨x, rfl, hx, c0, c1, c2⟩ := h.at0 i s hi
    have hlt : (x.add (i * 3)).block < B := by omega
    exact ⟨x, rfl, Nat.lt_of_lt_of_le hx hb.size, (hb.cell hlt).trans c0, (hb.cell (p := ⟨(x.add (i * 3)).block, (x.add (i * 3)).off + 1, none⟩) hlt).trans c1, (hb.cell (p := ⟨(x.add (i * 3)).block, (x.add (i * 3)).off + 2, none⟩) hlt).trans c2⟩⟩
end Go.Proofs.Ytpemdfdmnbhpjaa
