/- The reference's isMark. -/
import Derived.Test.YtkhghbeojfgkhaaDoorRefLeaf
namespace Go.Proofs.YtkhghbeojfgkhaaDoor
open Go.RowKit
set_option maxRecDepth 100000

/-- is it a mark's text? -/
def isMarkB (l : List UInt8) : Bool := l == [40] || l == [41] || l == [123] || l == [125] || l == [44] || l == [59] || l == [58] || l == [46] || l == [38] || l == [43] || l == [45] || l == [42] || l == [47] || l == [37] || l == [60] || l == [62] || l == [33] || l == [61] || l == [95] || l == [61, 61] || l == [33, 61] || l == [60, 61] || l == [62, 61] || l == [38, 38] || l == [124, 124] || l == [45, 62]
set_option maxHeartbeats 4000000 in
theorem refMark_any (s : ByteArray) (w : World) : Calls Tryd.prog 37 #[.string s] w fun e w' => e = .returned (.bool (isMarkB s.toList)) ∧ w = w' := by
  unfold isMarkB
  cases f0 : (s.toList == [40])
  case true =>
    go_enter Tryd.func37, Tryd.ntmps37
    go_wp2
    go_ret
    exact ⟨by simp only [Bool.or_true, Bool.true_or, Bool.or_false, Bool.false_or]; rfl, rfl⟩
  cases f1 : (s.toList == [41])
  case true =>
    go_enter Tryd.func37, Tryd.ntmps37
    go_wp2
    go_ret
    exact ⟨by simp only [Bool.or_true, Bool.true_or, Bool.or_false, Bool.false_or]; rfl, rfl⟩
  cases f2 : (s.toList == [123])
  case true =>
    go_enter Tryd.func37, Tryd.ntmps37
    go_wp2
    go_ret
    exact ⟨by simp only [Bool.or_true, Bool.true_or, Bool.or_false, Bool.false_or]; rfl, rfl⟩
  cases f3 : (s.toList == [125])
  case true =>
    go_enter Tryd.func37, Tryd.ntmps37
    go_wp2
    go_ret
    exact ⟨by simp only [Bool.or_true, Bool.true_or, Bool.or_false, Bool.false_or]; rfl, rfl⟩
  cases f4 : (s.toList == [44])
  case true =>
    go_enter Tryd.func37, Tryd.ntmps37
    go_wp2
    go_ret
    exact ⟨by simp only [Bool.or_true, Bool.true_or, Bool.or_false, Bool.false_or]; rfl, rfl⟩
  cases f5 : (s.toList == [59])
  case true =>
    go_enter Tryd.func37, Tryd.ntmps37
    go_wp2
    go_ret
    exact ⟨by simp only [Bool.or_true, Bool.true_or, Bool.or_false, Bool.false_or]; rfl, rfl⟩
  cases f6 : (s.toList == [58])
  case true =>
    go_enter Tryd.func37, Tryd.ntmps37
    go_wp2
    go_ret
    exact ⟨by simp only [Bool.or_true, Bool.true_or, Bool.or_false, Bool.false_or]; rfl, rfl⟩
  cases f7 : (s.toList == [46])
  case true =>
    go_enter Tryd.func37, Tryd.ntmps37
    go_wp2
    go_ret
    exact ⟨by simp only [Bool.or_true, Bool.true_or, Bool.or_false, Bool.false_or]; rfl, rfl⟩
  cases f8 : (s.toList == [38])
  case true =>
    go_enter Tryd.func37, Tryd.ntmps37
    go_wp2
    go_ret
    exact ⟨by simp only [Bool.or_true, Bool.true_or, Bool.or_false, Bool.false_or]; rfl, rfl⟩
  cases f9 : (s.toList == [43])
  case true =>
    go_enter Tryd.func37, Tryd.ntmps37
    go_wp2
    go_ret
    exact ⟨by simp only [Bool.or_true, Bool.true_or, Bool.or_false, Bool.false_or]; rfl, rfl⟩
  cases f10 : (s.toList == [45])
  case true =>
    go_enter Tryd.func37, Tryd.ntmps37
    go_wp2
    go_ret
    exact ⟨by simp only [Bool.or_true, Bool.true_or, Bool.or_false, Bool.false_or]; rfl, rfl⟩
  cases f11 : (s.toList == [42])
  case true =>
    go_enter Tryd.func37, Tryd.ntmps37
    go_wp2
    go_ret
    exact ⟨by simp only [Bool.or_true, Bool.true_or, Bool.or_false, Bool.false_or]; rfl, rfl⟩
  cases f12 : (s.toList == [47])
  case true =>
    go_enter Tryd.func37, Tryd.ntmps37
    go_wp2
    go_ret
    exact ⟨by simp only [Bool.or_true, Bool.true_or, Bool.or_false, Bool.false_or]; rfl, rfl⟩
  cases f13 : (s.toList == [37])
  case true =>
    go_enter Tryd.func37, Tryd.ntmps37
    go_wp2
    go_ret
    exact ⟨by simp only [Bool.or_true, Bool.true_or, Bool.or_false, Bool.false_or]; rfl, rfl⟩
  cases f14 : (s.toList == [60])
  case true =>
    go_enter Tryd.func37, Tryd.ntmps37
    go_wp2
    go_ret
    exact ⟨by simp only [Bool.or_true, Bool.true_or, Bool.or_false, Bool.false_or]; rfl, rfl⟩
  cases f15 : (s.toList == [62])
  case true =>
    go_enter Tryd.func37, Tryd.ntmps37
    go_wp2
    go_ret
    exact ⟨by simp only [Bool.or_true, Bool.true_or, Bool.or_false, Bool.false_or]; rfl, rfl⟩
  cases f16 : (s.toList == [33])
  case true =>
    go_enter Tryd.func37, Tryd.ntmps37
    go_wp2
    go_ret
    exact ⟨by simp only [Bool.or_true, Bool.true_or, Bool.or_false, Bool.false_or]; rfl, rfl⟩
  cases f17 : (s.toList == [61])
  case true =>
    go_enter Tryd.func37, Tryd.ntmps37
    go_wp2
    go_ret
    exact ⟨by simp only [Bool.or_true, Bool.true_or, Bool.or_false, Bool.false_or]; rfl, rfl⟩
  cases f18 : (s.toList == [95])
  case true =>
    go_enter Tryd.func37, Tryd.ntmps37
    go_wp2
    go_ret
    exact ⟨by simp only [Bool.or_true, Bool.true_or, Bool.or_false, Bool.false_or]; rfl, rfl⟩
  cases f19 : (s.toList == [61, 61])
  case true =>
    go_enter Tryd.func37, Tryd.ntmps37
    go_wp2
    go_ret
    exact ⟨by simp only [Bool.or_true, Bool.true_or, Bool.or_false, Bool.false_or]; rfl, rfl⟩
  cases f20 : (s.toList == [33, 61])
  case true =>
    go_enter Tryd.func37, Tryd.ntmps37
    go_wp2
    go_ret
    exact ⟨by simp only [Bool.or_true, Bool.true_or, Bool.or_false, Bool.false_or]; rfl, rfl⟩
  cases f21 : (s.toList == [60, 61])
  case true =>
    go_enter Tryd.func37, Tryd.ntmps37
    go_wp2
    go_ret
    exact ⟨by simp only [Bool.or_true, Bool.true_or, Bool.or_false, Bool.false_or]; rfl, rfl⟩
  cases f22 : (s.toList == [62, 61])
  case true =>
    go_enter Tryd.func37, Tryd.ntmps37
    go_wp2
    go_ret
    exact ⟨by simp only [Bool.or_true, Bool.true_or, Bool.or_false, Bool.false_or]; rfl, rfl⟩
  cases f23 : (s.toList == [38, 38])
  case true =>
    go_enter Tryd.func37, Tryd.ntmps37
    go_wp2
    go_ret
    exact ⟨by simp only [Bool.or_true, Bool.true_or, Bool.or_false, Bool.false_or]; rfl, rfl⟩
  cases f24 : (s.toList == [124, 124])
  case true =>
    go_enter Tryd.func37, Tryd.ntmps37
    go_wp2
    go_ret
    exact ⟨by simp only [Bool.or_true, Bool.true_or, Bool.or_false, Bool.false_or]; rfl, rfl⟩
  cases f25 : (s.toList == [45, 62])
  case true =>
    go_enter Tryd.func37, Tryd.ntmps37
    go_wp2
    go_ret
    exact ⟨by simp only [Bool.or_true, Bool.true_or, Bool.or_false, Bool.false_or]; rfl, rfl⟩
  go_enter Tryd.func37, Tryd.ntmps37
  go_wp2
  go_ret
  exact ⟨by simp only [Bool.or_false, Bool.false_or]; rfl, rfl⟩
end Go.Proofs.YtkhghbeojfgkhaaDoor
