/- The reference's token, whichever. -/
import Derived.Test.YtkhghbeojfgkhaaDoorRefTok
namespace Go.Proofs.YtkhghbeojfgkhaaDoor
open Go.RowKit

/-- the reference's token at a place -/
def refTok (l : List UInt8) (A : Nat) : Tok × Nat :=
  if letterB (bAt l A) = true then refName l A else if digitB (bAt l A) = true then refNum l A else if bAt l A = 34 then refText l A else refMarkT l A
theorem refTok_any (a : Option Addr) (n cap A : Nat) (l : List UInt8) (w : World) (hT : Txt w a n cap l) (hr : n ≤ 140737488351232) (hA : A < n) :
    Calls Tryd.prog 22 #[.slice a n cap, .int .i64 A] w fun e w' => RTok (refTok l A) w e w' := by
  unfold refTok
  by_cases h1 : letterB (bAt l A) = true
  · rw [if_pos h1]; exact refTok_name a n cap A l w hT hr hA h1
  · rw [if_neg h1]
    have h1' : letterB (bAt l A) = false := by simpa using h1
    by_cases h2 : digitB (bAt l A) = true
    · rw [if_pos h2]; exact refTok_num a n cap A l w hT hr hA h1' h2
    · rw [if_neg h2]
      have h2' : digitB (bAt l A) = false := by simpa using h2
      by_cases h3 : bAt l A = 34
      · rw [if_pos h3]; exact refTok_text a n cap A l w hT hr hA h1' h3
      · rw [if_neg h3]; exact refTok_mark a n cap A l w hT hr hA h1' h2' h3
end Go.Proofs.YtkhghbeojfgkhaaDoor
