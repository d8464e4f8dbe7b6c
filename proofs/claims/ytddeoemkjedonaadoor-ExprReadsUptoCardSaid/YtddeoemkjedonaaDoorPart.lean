/- The walk of part. -/
import Derived.Test.YtddeoemkjedonaaDoorRows
import Derived.Test.YtddeoemkjedonaaDoorMQuotePlain
import Derived.Test.YtddeoemkjedonaaDoorMTextWalks
import Derived.Test.YtddeoemkjedonaaDoorQuoteLex
import Derived.Test.YtddeoemkjedonaaDoorShelf
import Derived.WalkKit
import Derived.WalkSpells
import Derived.WalkLawsBesides
import Derived.Lib.Hide
namespace Go.Proofs.YtddeoemkjedonaaDoor
open Go.RowKit
set_option maxRecDepth 100000
theorem hex_or' : ∀ h : Nat, h < 16 → ∀ k : Nat, k < 16 → bits .or .i64 ((h : Int) * 16) (k : Int) = 16 * (h : Int) + (k : Int) := by decide +kernel
theorem hex_or (h k : Nat) (hh : h < 16) (hk : k < 16) : bits .or .i64 ((h : Int) * 16) (k : Int) = 16 * (h : Int) + (k : Int) := hex_or' h hh k hk
theorem partF_hex {l : List UInt8} {h k : Nat} {q : UInt8} (h92 : bAt l 0 = 92) (g120 : bAt l 1 = 120) (h2 : hexVal (bAt l 2) = some h) (h3 : hexVal (bAt l 3) = some k) (hq : q = UInt8.ofNat (16 * h + k)) : partF l = if plainB q = true then (0, 0) else (q, 4) := by
  unfold partF
  rw [if_neg (fun e => e.1 h92), if_neg (by rw [g120]; exact fun e => absurd e.2 (by decide)), if_pos ⟨h92, g120⟩, h2, h3, hq]

end Go.Proofs.YtddeoemkjedonaaDoor
