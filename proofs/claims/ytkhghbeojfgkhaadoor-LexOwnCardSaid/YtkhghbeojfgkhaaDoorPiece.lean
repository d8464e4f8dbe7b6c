/- The walks of markSize, name, whole. -/
import Derived.Test.YtkhghbeojfgkhaaDoorRows
import Derived.Test.YtkhghbeojfgkhaaDoorPiecePlain
import Derived.Test.YtkhghbeojfgkhaaDoorLexClass
import Derived.Test.YtkhghbeojfgkhaaDoorSpan
import Derived.Test.YtkhghbeojfgkhaaDoorTextWalks
import Derived.Test.YtkhghbeojfgkhaaDoorShelf
import Derived.WalkKit
import Derived.WalkSpells
import Derived.WalkLawsBesides
import Derived.Lib.Hide
namespace Go.Proofs.YtkhghbeojfgkhaaDoor
open Go.RowKit
set_option maxRecDepth 100000

theorem name_any (a : Option Addr) (n cap : Nat) (l : List UInt8) (w : World) (ht : Txt w a n cap l) :
    Calls Tryd.prog 56 #[.slice a n cap] w fun e w' => e = .returned (if n ≤ 32 then .tuple #[.string ⟨l.toArray⟩, .int .i64 0] else .tuple #[.string ⟨#[]⟩, .int .i64 13]) ∧ w = w' := by
  have h := text_of ht
  by_cases hn : n ≤ 32
  · rw [if_pos hn]
    clear ht
    go_enter Tryd.func56, Tryd.ntmps56
    go_wp2
    go_ret2
    exact ⟨rfl, rfl⟩
  · rw [if_neg hn]
    clear ht
    go_enter Tryd.func56, Tryd.ntmps56
    go_wp2
    go_ret2
    exact ⟨rfl, rfl⟩

theorem mark_index (c : UInt8) : decide (0 ≤ Lib.indexByte marksText c) = oneMark c :=
  all_u8 (fun c => decide (0 ≤ Lib.indexByte marksText c) = oneMark c) (by decide +kernel) c

/-- strings.IndexByte of the marks' text -/
theorem marks_any (c : UInt8) (w : World) :
    Calls Tryd.prog 102 #[.string ⟨#[40, 41, 123, 125, 44, 59, 58, 46, 38, 43, 45, 42, 47, 37, 60, 62, 33, 61, 95]⟩, .int .u8 c.toNat] w fun e w' => e = .returned (.int .i64 (Lib.indexByte marksText c)) ∧ w = w' :=
  (Tryd.strings_IndexByte ⟨#[40, 41, 123, 125, 44, 59, 58, 46, 38, 43, 45, 42, 47, 37, 60, 62, 33, 61, 95]⟩ c.toNat w).mono fun e w' ⟨he, hw⟩ => ⟨by rw [he]; simp [marksText], hw.symm⟩

theorem markSize_one (b o cap : Nat) (c : UInt8) (w : World) (hcell : w.cell? ⟨b, o, none⟩ = some (.int .u8 c.toNat)) (hc : 1 ≤ cap) :
    Calls Tryd.prog 94 #[.slice (some ⟨b, o, none⟩) 1 cap] w fun e w' => e = .returned (.int .i64 (markLen [c])) ∧ w = w' := by
  have hcv := run_convert_bytes_back (P := Tryd.prog) w 22 9 5 ⟨b, o, none⟩ cap [c] Tryd.underlying22 Tryd.underlying5 Tryd.underlying9 (fun j hj => by
    obtain rfl : j = 0 := by simp at hj; omega
    simpa [Addr.add] using hcell)
  obtain ⟨s, hs⟩ : ∃ s : ByteArray, s = ⟨[c].toArray⟩ := ⟨_, rfl⟩
  rw [← hs] at hcv
  have hl : s.toList = [c] := by rw [hs, ByteArray.toList_mk]
  have f (x y : UInt8) : (s.toList == [x, y]) = false := by rw [hl]; simp
  have f1 := f 61 61
  have f2 := f 33 61
  have f3 := f 60 61
  have f4 := f 62 61
  have f5 := f 38 38
  have f6 := f 124 124
  have f7 := f 45 62
  have hI := Lib.hid (marks_any c w)
  have hmi := mark_index c
  have hge := Lib.indexByte_ge marksText c
  have hsz : ([c] : List UInt8).length = 1 := rfl
  have hmn : min (2 : Int) 1 = 1 := by decide
  rw [hsz] at hcv
  clear f hl hs
  cases ho : oneMark c
  · have hz : decide ((0 : Int) ≤ Lib.indexByte marksText c) = false := by rw [ho] at hmi; exact hmi
    have HO := Lib.hid ho
    clear ho hmi
    go_enter Tryd.func94, Tryd.ntmps94
    go_wp2_with (go_at_call 102; refine hI.out.mono ?_; rintro e w' ⟨rfl, rfl⟩)
    go_ret
    exact ⟨by simp [markLen, HO.out], rfl⟩
  · have hz : decide ((0 : Int) ≤ Lib.indexByte marksText c) = true := by rw [ho] at hmi; exact hmi
    have HO := Lib.hid ho
    clear ho hmi
    go_enter Tryd.func94, Tryd.ntmps94
    go_wp2_with (go_at_call 102; refine hI.out.mono ?_; rintro e w' ⟨rfl, rfl⟩)
    go_ret
    exact ⟨by simp [markLen, HO.out], rfl⟩

theorem markSize_two (b o n cap : Nat) (c d : UInt8) (t : List UInt8) (w : World) (hn : 2 ≤ n) (hnb : n ≤ 140737488351232) (hc0 : w.cell? ⟨b, o, none⟩ = some (.int .u8 c.toNat)) (hc1 : w.cell? ⟨b, o + 1, none⟩ = some (.int .u8 d.toNat)) (hc : n ≤ cap) :
    Calls Tryd.prog 94 #[.slice (some ⟨b, o, none⟩) n cap] w fun e w' => e = .returned (.int .i64 (markLen (c :: d :: t))) ∧ w = w' := by
  have hcv := run_convert_bytes_back (P := Tryd.prog) w 22 9 5 ⟨b, o, none⟩ cap [c, d] Tryd.underlying22 Tryd.underlying5 Tryd.underlying9 (fun j hj => by
    have hj2 : j = 0 ∨ j = 1 := by simp at hj; omega
    rcases hj2 with rfl | rfl
    · simpa [Addr.add] using hc0
    · simpa [Addr.add] using hc1)
  obtain ⟨s, hs⟩ : ∃ s : ByteArray, s = ⟨[c, d].toArray⟩ := ⟨_, rfl⟩
  rw [← hs] at hcv
  have hl : s.toList = [c, d] := by rw [hs, ByteArray.toList_mk]
  have f (x y : UInt8) : (s.toList == [x, y]) = (c == x && d == y) := by rw [hl]; simp [List.beq_eq_isEqv, List.isEqv]
  have ht : twoMark c d = (s.toList == [61, 61] || s.toList == [33, 61] || s.toList == [60, 61] || s.toList == [62, 61] || s.toList == [38, 38] || s.toList == [124, 124] || s.toList == [45, 62]) := by
    unfold twoMark
    rw [f, f, f, f, f, f, f]
  have HT := Lib.hid ht
  have hI := Lib.hid (marks_any c w)
  have hmi := mark_index c
  have hge := Lib.indexByte_ge marksText c
  have hsz : ([c, d] : List UInt8).length = 2 := rfl
  have hmn : min (2 : Int) (n : Int) = 2 := by omega
  rw [hsz] at hcv
  clear f hl hs ht
  have fin : ∀ k : Int, k = (markLen (c :: d :: t) : Nat) → Ending.returned (.int .i64 k) = .returned (.int .i64 (markLen (c :: d :: t) : Nat)) := fun k h => by rw [h]
  have FIN := Lib.hid fin
  clear fin
  cases f1 : (s.toList == [61, 61])
  case true =>
    go_enter Tryd.func94, Tryd.ntmps94
    go_wp2
    go_ret
    exact ⟨FIN.out 2 (by simp [markLen, HT.out, f1]), rfl⟩
  cases f2 : (s.toList == [33, 61])
  case true =>
    go_enter Tryd.func94, Tryd.ntmps94
    go_wp2
    go_ret
    exact ⟨FIN.out 2 (by simp [markLen, HT.out, f2]), rfl⟩
  cases f3 : (s.toList == [60, 61])
  case true =>
    go_enter Tryd.func94, Tryd.ntmps94
    go_wp2
    go_ret
    exact ⟨FIN.out 2 (by simp [markLen, HT.out, f3]), rfl⟩
  cases f4 : (s.toList == [62, 61])
  case true =>
    go_enter Tryd.func94, Tryd.ntmps94
    go_wp2
    go_ret
    exact ⟨FIN.out 2 (by simp [markLen, HT.out, f4]), rfl⟩
  cases f5 : (s.toList == [38, 38])
  case true =>
    go_enter Tryd.func94, Tryd.ntmps94
    go_wp2
    go_ret
    exact ⟨FIN.out 2 (by simp [markLen, HT.out, f5]), rfl⟩
  cases f6 : (s.toList == [124, 124])
  case true =>
    go_enter Tryd.func94, Tryd.ntmps94
    go_wp2
    go_ret
    exact ⟨FIN.out 2 (by simp [markLen, HT.out, f6]), rfl⟩
  cases f7 : (s.toList == [45, 62])
  case true =>
    go_enter Tryd.func94, Tryd.ntmps94
    go_wp2
    go_ret
    exact ⟨FIN.out 2 (by simp [markLen, HT.out, f7]), rfl⟩
  cases ho : oneMark c
  · have hz : decide ((0 : Int) ≤ Lib.indexByte marksText c) = false := by rw [ho] at hmi; exact hmi
    have HO := Lib.hid ho
    clear ho hmi
    go_enter Tryd.func94, Tryd.ntmps94
    go_wp2_with (go_at_call 102; refine hI.out.mono ?_; rintro e w' ⟨rfl, rfl⟩)
    go_ret
    exact ⟨FIN.out 0 (by simp [markLen, HT.out, HO.out, f1, f2, f3, f4, f5, f6, f7]), rfl⟩
  · have hz : decide ((0 : Int) ≤ Lib.indexByte marksText c) = true := by rw [ho] at hmi; exact hmi
    have HO := Lib.hid ho
    clear ho hmi
    go_enter Tryd.func94, Tryd.ntmps94
    go_wp2_with (go_at_call 102; refine hI.out.mono ?_; rintro e w' ⟨rfl, rfl⟩)
    go_ret
    exact ⟨FIN.out 1 (by simp [markLen, HT.out, HO.out, f1, f2, f3, f4, f5, f6, f7]), rfl⟩

theorem markSize_any (a : Option Addr) (n cap : Nat) (r : List UInt8) (w : World) (ht : Txt w a n cap r) (h0 : 0 < n) (hb : n ≤ 140737488351232) :
    Calls Tryd.prog 94 #[.slice a n cap] w fun e w' => e = .returned (.int .i64 (markLen r)) ∧ w = w' := by
  obtain ⟨hl, hnc, hm, h4⟩ := ht
  rcases h4 with ⟨_, h5, _⟩ | ⟨x, rfl, hx⟩
  · omega
  · obtain ⟨b, o, s⟩ := x
    obtain ⟨rfl, hc⟩ := hx.spot (by omega)
    match r, hl, hc with
    | [], hl, _ => simp at hl; omega
    | [c], hl, hc =>
      obtain rfl : n = 1 := by simpa using hl.symm
      exact markSize_one b o cap c w (hc 0 (by simp)) hnc
    | c :: d :: t, hl, hc => exact markSize_two b o n cap c d t w (by simp at hl; omega) hb (hc 0 (by simp)) (hc 1 (by simp)) hnc
end Go.Proofs.YtkhghbeojfgkhaaDoor
