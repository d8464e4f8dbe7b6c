/- The walk of next. -/
import Derived.Test.YtddeoemkjedonaaGreatDoorRows
import Derived.Test.YtddeoemkjedonaaGreatDoorMNextPlain
import Derived.Test.YtddeoemkjedonaaGreatDoorMScope
import Derived.Test.YtddeoemkjedonaaGreatDoorMPiece
import Derived.Test.YtddeoemkjedonaaGreatDoorWhole
import Derived.Test.YtddeoemkjedonaaGreatDoorScaled
import Derived.WalkKit
import Derived.WalkSpells
import Derived.WalkLawsBesides
import Derived.Lib.Hide
import Derived.Laws.ResultCell
namespace Go.Proofs.YtddeoemkjedonaaGreatDoor
open Go.RowKit
set_option maxRecDepth 100000

theorem span_any (a : Option Addr) (n cap i : Nat) (l : List UInt8) (w : World) (ht : Txt w a n cap l) (hn : n ≤ 140737488351232) (hi : i ≤ n) :
    Calls Tryz.prog 50 #[.slice a n cap, .int .i64 i] w fun e w' => e = .returned (.tuple #[.int .i64 (spanE l (i + skipS false (l.drop i))).1, .int .i64 (i + skipS false (l.drop i) : Nat), .int .i64 (spanE l (i + skipS false (l.drop i))).2]) ∧ w = w' := by
  obtain ⟨hl, hnc, hm, h4⟩ := id ht
  rcases Nat.eq_zero_or_pos n with h0 | h0
  · subst h0
    obtain rfl : l = [] := List.eq_nil_of_length_eq_zero hl
    obtain rfl : i = 0 := by omega
    have FIN : Hid (Ending.returned (.tuple #[.int .i64 0, .int .i64 0, .int .i64 0]) = Ending.returned (.tuple #[.int .i64 (spanE [] (0 + skipS false (([] : List UInt8).drop 0))).1, .int .i64 (0 + skipS false (([] : List UInt8).drop 0) : Nat), .int .i64 (spanE [] (0 + skipS false (([] : List UInt8).drop 0))).2])) := by
      have : spanE [] (0 + skipS false (([] : List UInt8).drop 0)) = (0, 0) := by decide
      rw [this]; rfl
    clear h4 hl ht hm
    go_enter Tryz.func50, Tryz.ntmps50
    go_wp2
    go_step3
    go_wp2
    go_step3
    go_wp2
    rw [Exit.noGoto_ret]
    go_ret3
    exact ⟨FIN.out, rfl⟩
  · rcases h4 with ⟨_, h5, _⟩ | ⟨x, rfl, hx⟩
    · omega
    · obtain ⟨b, o, s⟩ := x
      obtain ⟨rfl, _⟩ := hx.spot (by omega)
      exact span_some b o n cap i _ _ _ l w (fun a n cap r w h1 h2 h3 => markSize_any a n cap r w h1 h2 h3) h0 hl hnc hm hx hn ⟨by omega, rfl, rfl⟩

def tokVal (t : Tok) : Value := .agg #[.int .i64 t.kind, .string ⟨t.text.toArray⟩, .int .i64 t.int, .float .f64 t.real, .int .i64 t.at_, .int .i64 t.size]

theorem blocks_kept {w W w4 : World} {x0 x1 x2 x3 x4 x5 y0 y1 y2 y3 y4 y5 : Value} {T : TypeId} (hb : Below W.heap.size W w4) (hW : W = (w.alloc (.cells #[x0, x1, x2, x3, x4, x5] T)).alloc (.cells #[y0, y1, y2, y3, y4, y5] T)) (hz : W.heap.size = w.heap.size + 2) :
    ((w4.cell? ⟨w.heap.size, 0, none⟩ = some x0 ∧ w4.cell? ⟨w.heap.size, 1, none⟩ = some x1 ∧ w4.cell? ⟨w.heap.size, 2, none⟩ = some x2 ∧ w4.cell? ⟨w.heap.size, 3, none⟩ = some x3 ∧ w4.cell? ⟨w.heap.size, 4, none⟩ = some x4 ∧ w4.cell? ⟨w.heap.size, 5, none⟩ = some x5) ∧
     w4.cell? ⟨w.heap.size + 1, 0, none⟩ = some y0 ∧ w4.cell? ⟨w.heap.size + 1, 1, none⟩ = some y1 ∧ w4.cell? ⟨w.heap.size + 1, 2, none⟩ = some y2 ∧ w4.cell? ⟨w.heap.size + 1, 3, none⟩ = some y3 ∧ w4.cell? ⟨w.heap.size + 1, 4, none⟩ = some y4 ∧ w4.cell? ⟨w.heap.size + 1, 5, none⟩ = some y5) ∧
    ∀ b o, w.heap.size ≤ b → b < w.heap.size + 2 → w4.frozen? ⟨b, o, none⟩ = false := by
  have hc : ∀ b o, b < w.heap.size + 2 → w4.cell? ⟨b, o, none⟩ = W.cell? ⟨b, o, none⟩ := fun b o h => hb.cell (p := ⟨b, o, none⟩) (by rw [hz]; exact h)
  have hf : ∀ b o, b < w.heap.size + 2 → w4.frozen? ⟨b, o, none⟩ = W.frozen? ⟨b, o, none⟩ := fun b o h => hb.frozen (p := ⟨b, o, none⟩) (by rw [hz]; exact h)
  refine ⟨⟨⟨?_, ?_, ?_, ?_, ?_, ?_⟩, ?_, ?_, ?_, ?_, ?_, ?_⟩, ?_⟩
  all_goals first | (rw [hc _ _ (by omega), hW]; simp) | skip
  intro b o h1 h2
  rw [hf _ _ h2, hW]
  rcases Nat.eq_or_lt_of_le h1 with rfl | h3
  · simp
  · obtain rfl : b = w.heap.size + 1 := by omega
    simp

theorem below_chain7 {B : Nat} {a w : World} (h : Below B a w) (v1 v2 v3 v4 v5 v6 v7 : Value) {p1 p2 p3 p4 p5 p6 p7 : Addr} (h1 : B ≤ p1.block) (h2 : B ≤ p2.block) (h3 : B ≤ p3.block) (h4 : B ≤ p4.block) (h5 : B ≤ p5.block) (h6 : B ≤ p6.block) (h7 : B ≤ p7.block) :
    Below B a (((((((w.setCell p1 v1).setCell p2 v2).setCell p3 v3).setCell p4 v4).setCell p5 v5).setCell p6 v6).setCell p7 v7) :=
  ((((((h.setCell h1 _).setCell h2 _).setCell h3 _).setCell h4 _).setCell h5 _).setCell h6 _).setCell h7 _

set_option maxHeartbeats 1000000 in
theorem next_name_ok (a a2 : Option Addr) (n cap i A E : Nat) (l : List UInt8) (w : World) (hn : n ≤ 1048576) (hT : Txt w a n cap l)
    (hA : A ≤ n) (hAE : A ≤ E) (hE : E ≤ n) (hsp : ∀ w', Below w.heap.size w w' → Calls Tryz.prog 50 #[.slice a n cap, .int .i64 i] w' fun e w'' => e = .returned (.tuple #[.int .i64 1, .int .i64 A, .int .i64 E]) ∧ w' = w'')
    (hs2 : ∀ w', (Instr.slice 22 (.slice a n cap) (some (.int .i64 (A : Int))) (some (.int .i64 (E : Int))) none).run Tryz.prog w' = .ok (.slice a2 (E - A) (cap - A)) w') (x : ByteArray)
    (hC : ∀ W, Below w.heap.size w W → Calls Tryz.prog 51 #[.slice a2 (E - A) (cap - A)] W fun e w' => e = .returned (.tuple #[.string x, .int .i64 0]) ∧ Below W.heap.size W w') :
    Calls Tryz.prog 32 #[.slice a n cap, .int .i64 i] w fun e w' => e = .returned (.tuple #[.agg #[Value.int IntKind.i64 1, .string x, Value.int IntKind.i64 0, Value.float FloatKind.f64 0, Value.int IntKind.i64 ↑A, Value.int IntKind.i64 (↑E - ↑A)], .int .i64 0]) ∧ Below w.heap.size w w' := by
  have HCC := Lib.hid hC
  clear hC
  have sf : ∀ (p : Addr) (b : Nat) (m : Mode) (w' : World), (store p (.float .f64 b) m).run Tryz.prog w' = stored Tryz.prog w' p (.float .f64 b) m := fun p b m w' => run_store _ w' p _ m rfl
  have HS := Lib.hid hsp
  have HT := Lib.hid hT
  clear hsp hT
  go_enter Tryz.func32, Tryz.ntmps32
  go_wp2_with fail
  refine (HS.out _ ((Below.refl w.heap.size w).alloc (Nat.le_refl _) _)).mono ?_
  rintro e w1 ⟨rfl, hw1⟩
  subst hw1
  go_wp2_with fail
  obtain ⟨W, hW⟩ : ∃ W, W = ((w.alloc (Obj.cells #[Value.int IntKind.i64 0, Value.string { data := #[] }, Value.int IntKind.i64 0, Value.float FloatKind.f64 0, Value.int IntKind.i64 0, Value.int IntKind.i64 0] 64)).alloc (Obj.cells #[Value.int IntKind.i64 1, Value.string { data := #[] }, Value.int IntKind.i64 0, Value.float FloatKind.f64 0, Value.int IntKind.i64 ↑A, Value.int IntKind.i64 (↑E - ↑A)] 64)) := ⟨_, rfl⟩
  rw [← hW]
  have hbW : Below w.heap.size w W := by rw [hW]; exact ((Below.refl w.heap.size w).alloc (Nat.le_refl _) _).alloc (by simp) _
  have hWz : W.heap.size = w.heap.size + 2 := by rw [hW]; simp
  refine (HCC.out W hbW).mono ?_
  rintro e w4 ⟨rfl, hb4⟩
  have hz4 := hb4.size
  rw [hWz] at hz4
  obtain ⟨hc4, hf4⟩ := blocks_kept hb4 hW hWz
  have hb04 : Below w.heap.size w w4 := hbW.trans (hb4.mono (by omega))
  have HB04 := Lib.hid hb04
  clear hb4 hW hbW hWz HCC HS hb04
  go_wp2_with fail
  refine bodyPost_ret (v := .tuple #[.agg #[Value.int IntKind.i64 1, .string x, Value.int IntKind.i64 0, Value.float FloatKind.f64 0, Value.int IntKind.i64 ↑A, Value.int IntKind.i64 (↑E - ↑A)], .int .i64 0]) (by simp [results, Tryz.results32, go_sem, hc4]) rfl ⟨rfl, ?_⟩
  exact below_chain7 HB04.out _ _ _ _ _ _ _ (by simp) (by simp) (by simp) (by simp) (by simp) (by simp) (by simp)
set_option maxHeartbeats 1000000 in
theorem next_name_bad (a a2 : Option Addr) (n cap i A E : Nat) (l : List UInt8) (w : World) (hn : n ≤ 1048576) (hT : Txt w a n cap l)
    (hA : A ≤ n) (hAE : A ≤ E) (hE : E ≤ n) (hsp : ∀ w', Below w.heap.size w w' → Calls Tryz.prog 50 #[.slice a n cap, .int .i64 i] w' fun e w'' => e = .returned (.tuple #[.int .i64 1, .int .i64 A, .int .i64 E]) ∧ w' = w'')
    (hs2 : ∀ w', (Instr.slice 22 (.slice a n cap) (some (.int .i64 (A : Int))) (some (.int .i64 (E : Int))) none).run Tryz.prog w' = .ok (.slice a2 (E - A) (cap - A)) w') (x : ByteArray)
    (hC : ∀ W, Below w.heap.size w W → Calls Tryz.prog 51 #[.slice a2 (E - A) (cap - A)] W fun e w' => e = .returned (.tuple #[.string x, .int .i64 13]) ∧ Below W.heap.size W w') :
    Calls Tryz.prog 32 #[.slice a n cap, .int .i64 i] w fun e w' => e = .returned (.tuple #[.agg #[Value.int IntKind.i64 0, Value.string { data := #[] }, Value.int IntKind.i64 0, Value.float FloatKind.f64 0, Value.int IntKind.i64 ↑A, Value.int IntKind.i64 0], .int .i64 13]) ∧ Below w.heap.size w w' := by
  have HCC := Lib.hid hC
  clear hC
  have sf : ∀ (p : Addr) (b : Nat) (m : Mode) (w' : World), (store p (.float .f64 b) m).run Tryz.prog w' = stored Tryz.prog w' p (.float .f64 b) m := fun p b m w' => run_store _ w' p _ m rfl
  have HS := Lib.hid hsp
  have HT := Lib.hid hT
  clear hsp hT
  go_enter Tryz.func32, Tryz.ntmps32
  go_wp2_with fail
  refine (HS.out _ ((Below.refl w.heap.size w).alloc (Nat.le_refl _) _)).mono ?_
  rintro e w1 ⟨rfl, hw1⟩
  subst hw1
  go_wp2_with fail
  obtain ⟨W, hW⟩ : ∃ W, W = ((w.alloc (Obj.cells #[Value.int IntKind.i64 0, Value.string { data := #[] }, Value.int IntKind.i64 0, Value.float FloatKind.f64 0, Value.int IntKind.i64 0, Value.int IntKind.i64 0] 64)).alloc (Obj.cells #[Value.int IntKind.i64 1, Value.string { data := #[] }, Value.int IntKind.i64 0, Value.float FloatKind.f64 0, Value.int IntKind.i64 ↑A, Value.int IntKind.i64 (↑E - ↑A)] 64)) := ⟨_, rfl⟩
  rw [← hW]
  have hbW : Below w.heap.size w W := by rw [hW]; exact ((Below.refl w.heap.size w).alloc (Nat.le_refl _) _).alloc (by simp) _
  have hWz : W.heap.size = w.heap.size + 2 := by rw [hW]; simp
  refine (HCC.out W hbW).mono ?_
  rintro e w4 ⟨rfl, hb4⟩
  have hz4 := hb4.size
  rw [hWz] at hz4
  obtain ⟨hc4, hf4⟩ := blocks_kept hb4 hW hWz
  have hb04 : Below w.heap.size w w4 := hbW.trans (hb4.mono (by omega))
  have HB04 := Lib.hid hb04
  clear hb4 hW hbW hWz HCC HS hb04
  go_wp2_with fail
  refine bodyPost_ret (v := .tuple #[.agg #[Value.int IntKind.i64 0, Value.string { data := #[] }, Value.int IntKind.i64 0, Value.float FloatKind.f64 0, Value.int IntKind.i64 ↑A, Value.int IntKind.i64 0], .int .i64 13]) (by simp [results, Tryz.results32, go_sem, hc4]) rfl ⟨rfl, ?_⟩
  exact below_chain7 HB04.out _ _ _ _ _ _ _ (by simp) (by simp) (by simp) (by simp) (by simp) (by simp) (by simp)
set_option maxHeartbeats 1000000 in
theorem next_int_ok (a a2 : Option Addr) (n cap i A E : Nat) (l : List UInt8) (w : World) (hn : n ≤ 1048576) (hT : Txt w a n cap l)
    (hA : A ≤ n) (hAE : A ≤ E) (hE : E ≤ n) (hsp : ∀ w', Below w.heap.size w w' → Calls Tryz.prog 50 #[.slice a n cap, .int .i64 i] w' fun e w'' => e = .returned (.tuple #[.int .i64 2, .int .i64 A, .int .i64 E]) ∧ w' = w'')
    (hs2 : ∀ w', (Instr.slice 22 (.slice a n cap) (some (.int .i64 (A : Int))) (some (.int .i64 (E : Int))) none).run Tryz.prog w' = .ok (.slice a2 (E - A) (cap - A)) w') (x : Int) (hw8 : wordB (bAt l E) = false)
    (hC : ∀ W, Below w.heap.size w W → Calls Tryz.prog 52 #[.slice a2 (E - A) (cap - A)] W fun e w' => e = .returned (.tuple #[.int .i64 x, .int .i64 0]) ∧ Below W.heap.size W w') :
    Calls Tryz.prog 32 #[.slice a n cap, .int .i64 i] w fun e w' => e = .returned (.tuple #[.agg #[Value.int IntKind.i64 2, Value.string { data := #[] }, .int .i64 x, Value.float FloatKind.f64 0, Value.int IntKind.i64 ↑A, Value.int IntKind.i64 (↑E - ↑A)], .int .i64 0]) ∧ Below w.heap.size w w' := by
  have HCC := Lib.hid hC
  have HW8 := Lib.hid hw8
  clear hC hw8
  have sf : ∀ (p : Addr) (b : Nat) (m : Mode) (w' : World), (store p (.float .f64 b) m).run Tryz.prog w' = stored Tryz.prog w' p (.float .f64 b) m := fun p b m w' => run_store _ w' p _ m rfl
  have HS := Lib.hid hsp
  have HT := Lib.hid hT
  clear hsp hT
  go_enter Tryz.func32, Tryz.ntmps32
  go_wp2_with fail
  refine (HS.out _ ((Below.refl w.heap.size w).alloc (Nat.le_refl _) _)).mono ?_
  rintro e w1 ⟨rfl, hw1⟩
  subst hw1
  go_wp2_with fail
  obtain ⟨W, hW⟩ : ∃ W, W = ((w.alloc (Obj.cells #[Value.int IntKind.i64 0, Value.string { data := #[] }, Value.int IntKind.i64 0, Value.float FloatKind.f64 0, Value.int IntKind.i64 0, Value.int IntKind.i64 0] 64)).alloc (Obj.cells #[Value.int IntKind.i64 2, Value.string { data := #[] }, Value.int IntKind.i64 0, Value.float FloatKind.f64 0, Value.int IntKind.i64 ↑A, Value.int IntKind.i64 (↑E - ↑A)] 64)) := ⟨_, rfl⟩
  rw [← hW]
  have hbW : Below w.heap.size w W := by rw [hW]; exact ((Below.refl w.heap.size w).alloc (Nat.le_refl _) _).alloc (by simp) _
  have hWz : W.heap.size = w.heap.size + 2 := by rw [hW]; simp
  refine (HCC.out W hbW).mono ?_
  rintro e w4 ⟨rfl, hb4⟩
  have hz4 := hb4.size
  rw [hWz] at hz4
  obtain ⟨hc4, hf4⟩ := blocks_kept hb4 hW hWz
  have hb04 : Below w.heap.size w w4 := hbW.trans (hb4.mono (by omega))
  have HB04 := Lib.hid hb04
  clear hb4 hW hbW hWz HCC HS hb04
  go_wp2_with (first | (go_at_call 56; refine (byteAt_any _ n cap E l _ (HT.out.below (HB04.out.setCell (p := ⟨w.heap.size + 1, 2, none⟩) (by simp) _) (Nat.le_refl _))).mono ?_; rintro e w' ⟨rfl, rfl⟩) | (go_at_call 55; refine (isWord_any _ _).mono ?_; rintro e w' ⟨rfl, rfl⟩; rw [HW8.out]))
  refine bodyPost_ret (v := .tuple #[.agg #[Value.int IntKind.i64 2, Value.string { data := #[] }, .int .i64 x, Value.float FloatKind.f64 0, Value.int IntKind.i64 ↑A, Value.int IntKind.i64 (↑E - ↑A)], .int .i64 0]) (by simp [results, Tryz.results32, go_sem, hc4]) rfl ⟨rfl, ?_⟩
  exact below_chain7 HB04.out _ _ _ _ _ _ _ (by simp) (by simp) (by simp) (by simp) (by simp) (by simp) (by simp)
set_option maxHeartbeats 1000000 in
theorem next_int_word (a a2 : Option Addr) (n cap i A E : Nat) (l : List UInt8) (w : World) (hn : n ≤ 1048576) (hT : Txt w a n cap l)
    (hA : A ≤ n) (hAE : A ≤ E) (hE : E ≤ n) (hsp : ∀ w', Below w.heap.size w w' → Calls Tryz.prog 50 #[.slice a n cap, .int .i64 i] w' fun e w'' => e = .returned (.tuple #[.int .i64 2, .int .i64 A, .int .i64 E]) ∧ w' = w'')
    (hs2 : ∀ w', (Instr.slice 22 (.slice a n cap) (some (.int .i64 (A : Int))) (some (.int .i64 (E : Int))) none).run Tryz.prog w' = .ok (.slice a2 (E - A) (cap - A)) w') (x : Int) (hw8 : wordB (bAt l E) = true)
    (hC : ∀ W, Below w.heap.size w W → Calls Tryz.prog 52 #[.slice a2 (E - A) (cap - A)] W fun e w' => e = .returned (.tuple #[.int .i64 x, .int .i64 0]) ∧ Below W.heap.size W w') :
    Calls Tryz.prog 32 #[.slice a n cap, .int .i64 i] w fun e w' => e = .returned (.tuple #[.agg #[Value.int IntKind.i64 0, Value.string { data := #[] }, Value.int IntKind.i64 0, Value.float FloatKind.f64 0, Value.int IntKind.i64 ↑A, Value.int IntKind.i64 0], .int .i64 12]) ∧ Below w.heap.size w w' := by
  have HCC := Lib.hid hC
  have HW8 := Lib.hid hw8
  clear hC hw8
  have sf : ∀ (p : Addr) (b : Nat) (m : Mode) (w' : World), (store p (.float .f64 b) m).run Tryz.prog w' = stored Tryz.prog w' p (.float .f64 b) m := fun p b m w' => run_store _ w' p _ m rfl
  have HS := Lib.hid hsp
  have HT := Lib.hid hT
  clear hsp hT
  go_enter Tryz.func32, Tryz.ntmps32
  go_wp2_with fail
  refine (HS.out _ ((Below.refl w.heap.size w).alloc (Nat.le_refl _) _)).mono ?_
  rintro e w1 ⟨rfl, hw1⟩
  subst hw1
  go_wp2_with fail
  obtain ⟨W, hW⟩ : ∃ W, W = ((w.alloc (Obj.cells #[Value.int IntKind.i64 0, Value.string { data := #[] }, Value.int IntKind.i64 0, Value.float FloatKind.f64 0, Value.int IntKind.i64 0, Value.int IntKind.i64 0] 64)).alloc (Obj.cells #[Value.int IntKind.i64 2, Value.string { data := #[] }, Value.int IntKind.i64 0, Value.float FloatKind.f64 0, Value.int IntKind.i64 ↑A, Value.int IntKind.i64 (↑E - ↑A)] 64)) := ⟨_, rfl⟩
  rw [← hW]
  have hbW : Below w.heap.size w W := by rw [hW]; exact ((Below.refl w.heap.size w).alloc (Nat.le_refl _) _).alloc (by simp) _
  have hWz : W.heap.size = w.heap.size + 2 := by rw [hW]; simp
  refine (HCC.out W hbW).mono ?_
  rintro e w4 ⟨rfl, hb4⟩
  have hz4 := hb4.size
  rw [hWz] at hz4
  obtain ⟨hc4, hf4⟩ := blocks_kept hb4 hW hWz
  have hb04 : Below w.heap.size w w4 := hbW.trans (hb4.mono (by omega))
  have HB04 := Lib.hid hb04
  clear hb4 hW hbW hWz HCC HS hb04
  go_wp2_with (first | (go_at_call 56; refine (byteAt_any _ n cap E l _ (HT.out.below (HB04.out.setCell (p := ⟨w.heap.size + 1, 2, none⟩) (by simp) _) (Nat.le_refl _))).mono ?_; rintro e w' ⟨rfl, rfl⟩) | (go_at_call 55; refine (isWord_any _ _).mono ?_; rintro e w' ⟨rfl, rfl⟩; rw [HW8.out]))
  refine bodyPost_ret (v := .tuple #[.agg #[Value.int IntKind.i64 0, Value.string { data := #[] }, Value.int IntKind.i64 0, Value.float FloatKind.f64 0, Value.int IntKind.i64 ↑A, Value.int IntKind.i64 0], .int .i64 12]) (by simp [results, Tryz.results32, go_sem, hc4]) rfl ⟨rfl, ?_⟩
  exact below_chain7 HB04.out _ _ _ _ _ _ _ (by simp) (by simp) (by simp) (by simp) (by simp) (by simp) (by simp)
set_option maxHeartbeats 1000000 in
theorem next_int_bad (a a2 : Option Addr) (n cap i A E : Nat) (l : List UInt8) (w : World) (hn : n ≤ 1048576) (hT : Txt w a n cap l)
    (hA : A ≤ n) (hAE : A ≤ E) (hE : E ≤ n) (hsp : ∀ w', Below w.heap.size w w' → Calls Tryz.prog 50 #[.slice a n cap, .int .i64 i] w' fun e w'' => e = .returned (.tuple #[.int .i64 2, .int .i64 A, .int .i64 E]) ∧ w' = w'')
    (hs2 : ∀ w', (Instr.slice 22 (.slice a n cap) (some (.int .i64 (A : Int))) (some (.int .i64 (E : Int))) none).run Tryz.prog w' = .ok (.slice a2 (E - A) (cap - A)) w') (x : Int) (hw8 : wordB (bAt l E) = false)
    (hC : ∀ W, Below w.heap.size w W → Calls Tryz.prog 52 #[.slice a2 (E - A) (cap - A)] W fun e w' => e = .returned (.tuple #[.int .i64 x, .int .i64 12]) ∧ Below W.heap.size W w') :
    Calls Tryz.prog 32 #[.slice a n cap, .int .i64 i] w fun e w' => e = .returned (.tuple #[.agg #[Value.int IntKind.i64 0, Value.string { data := #[] }, Value.int IntKind.i64 0, Value.float FloatKind.f64 0, Value.int IntKind.i64 ↑A, Value.int IntKind.i64 0], .int .i64 12]) ∧ Below w.heap.size w w' := by
  have HCC := Lib.hid hC
  have HW8 := Lib.hid hw8
  clear hC hw8
  have sf : ∀ (p : Addr) (b : Nat) (m : Mode) (w' : World), (store p (.float .f64 b) m).run Tryz.prog w' = stored Tryz.prog w' p (.float .f64 b) m := fun p b m w' => run_store _ w' p _ m rfl
  have HS := Lib.hid hsp
  have HT := Lib.hid hT
  clear hsp hT
  go_enter Tryz.func32, Tryz.ntmps32
  go_wp2_with fail
  refine (HS.out _ ((Below.refl w.heap.size w).alloc (Nat.le_refl _) _)).mono ?_
  rintro e w1 ⟨rfl, hw1⟩
  subst hw1
  go_wp2_with fail
  obtain ⟨W, hW⟩ : ∃ W, W = ((w.alloc (Obj.cells #[Value.int IntKind.i64 0, Value.string { data := #[] }, Value.int IntKind.i64 0, Value.float FloatKind.f64 0, Value.int IntKind.i64 0, Value.int IntKind.i64 0] 64)).alloc (Obj.cells #[Value.int IntKind.i64 2, Value.string { data := #[] }, Value.int IntKind.i64 0, Value.float FloatKind.f64 0, Value.int IntKind.i64 ↑A, Value.int IntKind.i64 (↑E - ↑A)] 64)) := ⟨_, rfl⟩
  rw [← hW]
  have hbW : Below w.heap.size w W := by rw [hW]; exact ((Below.refl w.heap.size w).alloc (Nat.le_refl _) _).alloc (by simp) _
  have hWz : W.heap.size = w.heap.size + 2 := by rw [hW]; simp
  refine (HCC.out W hbW).mono ?_
  rintro e w4 ⟨rfl, hb4⟩
  have hz4 := hb4.size
  rw [hWz] at hz4
  obtain ⟨hc4, hf4⟩ := blocks_kept hb4 hW hWz
  have hb04 : Below w.heap.size w w4 := hbW.trans (hb4.mono (by omega))
  have HB04 := Lib.hid hb04
  clear hb4 hW hbW hWz HCC HS hb04
  go_wp2_with (first | (go_at_call 56; refine (byteAt_any _ n cap E l _ (HT.out.below (HB04.out.setCell (p := ⟨w.heap.size + 1, 2, none⟩) (by simp) _) (Nat.le_refl _))).mono ?_; rintro e w' ⟨rfl, rfl⟩) | (go_at_call 55; refine (isWord_any _ _).mono ?_; rintro e w' ⟨rfl, rfl⟩; rw [HW8.out]))
  refine bodyPost_ret (v := .tuple #[.agg #[Value.int IntKind.i64 0, Value.string { data := #[] }, Value.int IntKind.i64 0, Value.float FloatKind.f64 0, Value.int IntKind.i64 ↑A, Value.int IntKind.i64 0], .int .i64 12]) (by simp [results, Tryz.results32, go_sem, hc4]) rfl ⟨rfl, ?_⟩
  exact below_chain7 HB04.out _ _ _ _ _ _ _ (by simp) (by simp) (by simp) (by simp) (by simp) (by simp) (by simp)
set_option maxHeartbeats 1000000 in
theorem next_int_bad2 (a a2 : Option Addr) (n cap i A E : Nat) (l : List UInt8) (w : World) (hn : n ≤ 1048576) (hT : Txt w a n cap l)
    (hA : A ≤ n) (hAE : A ≤ E) (hE : E ≤ n) (hsp : ∀ w', Below w.heap.size w w' → Calls Tryz.prog 50 #[.slice a n cap, .int .i64 i] w' fun e w'' => e = .returned (.tuple #[.int .i64 2, .int .i64 A, .int .i64 E]) ∧ w' = w'')
    (hs2 : ∀ w', (Instr.slice 22 (.slice a n cap) (some (.int .i64 (A : Int))) (some (.int .i64 (E : Int))) none).run Tryz.prog w' = .ok (.slice a2 (E - A) (cap - A)) w') (x : Int) (hw8 : wordB (bAt l E) = true)
    (hC : ∀ W, Below w.heap.size w W → Calls Tryz.prog 52 #[.slice a2 (E - A) (cap - A)] W fun e w' => e = .returned (.tuple #[.int .i64 x, .int .i64 12]) ∧ Below W.heap.size W w') :
    Calls Tryz.prog 32 #[.slice a n cap, .int .i64 i] w fun e w' => e = .returned (.tuple #[.agg #[Value.int IntKind.i64 0, Value.string { data := #[] }, Value.int IntKind.i64 0, Value.float FloatKind.f64 0, Value.int IntKind.i64 ↑A, Value.int IntKind.i64 0], .int .i64 12]) ∧ Below w.heap.size w w' := by
  have HCC := Lib.hid hC
  have HW8 := Lib.hid hw8
  clear hC hw8
  have sf : ∀ (p : Addr) (b : Nat) (m : Mode) (w' : World), (store p (.float .f64 b) m).run Tryz.prog w' = stored Tryz.prog w' p (.float .f64 b) m := fun p b m w' => run_store _ w' p _ m rfl
  have HS := Lib.hid hsp
  have HT := Lib.hid hT
  clear hsp hT
  go_enter Tryz.func32, Tryz.ntmps32
  go_wp2_with fail
  refine (HS.out _ ((Below.refl w.heap.size w).alloc (Nat.le_refl _) _)).mono ?_
  rintro e w1 ⟨rfl, hw1⟩
  subst hw1
  go_wp2_with fail
  obtain ⟨W, hW⟩ : ∃ W, W = ((w.alloc (Obj.cells #[Value.int IntKind.i64 0, Value.string { data := #[] }, Value.int IntKind.i64 0, Value.float FloatKind.f64 0, Value.int IntKind.i64 0, Value.int IntKind.i64 0] 64)).alloc (Obj.cells #[Value.int IntKind.i64 2, Value.string { data := #[] }, Value.int IntKind.i64 0, Value.float FloatKind.f64 0, Value.int IntKind.i64 ↑A, Value.int IntKind.i64 (↑E - ↑A)] 64)) := ⟨_, rfl⟩
  rw [← hW]
  have hbW : Below w.heap.size w W := by rw [hW]; exact ((Below.refl w.heap.size w).alloc (Nat.le_refl _) _).alloc (by simp) _
  have hWz : W.heap.size = w.heap.size + 2 := by rw [hW]; simp
  refine (HCC.out W hbW).mono ?_
  rintro e w4 ⟨rfl, hb4⟩
  have hz4 := hb4.size
  rw [hWz] at hz4
  obtain ⟨hc4, hf4⟩ := blocks_kept hb4 hW hWz
  have hb04 : Below w.heap.size w w4 := hbW.trans (hb4.mono (by omega))
  have HB04 := Lib.hid hb04
  clear hb4 hW hbW hWz HCC HS hb04
  go_wp2_with (first | (go_at_call 56; refine (byteAt_any _ n cap E l _ (HT.out.below (HB04.out.setCell (p := ⟨w.heap.size + 1, 2, none⟩) (by simp) _) (Nat.le_refl _))).mono ?_; rintro e w' ⟨rfl, rfl⟩) | (go_at_call 55; refine (isWord_any _ _).mono ?_; rintro e w' ⟨rfl, rfl⟩; rw [HW8.out]))
  refine bodyPost_ret (v := .tuple #[.agg #[Value.int IntKind.i64 0, Value.string { data := #[] }, Value.int IntKind.i64 0, Value.float FloatKind.f64 0, Value.int IntKind.i64 ↑A, Value.int IntKind.i64 0], .int .i64 12]) (by simp [results, Tryz.results32, go_sem, hc4]) rfl ⟨rfl, ?_⟩
  exact below_chain7 HB04.out _ _ _ _ _ _ _ (by simp) (by simp) (by simp) (by simp) (by simp) (by simp) (by simp)
set_option maxHeartbeats 1000000 in
theorem next_real_ok (a a2 : Option Addr) (n cap i A E : Nat) (l : List UInt8) (w : World) (hn : n ≤ 1048576) (hT : Txt w a n cap l)
    (hA : A ≤ n) (hAE : A ≤ E) (hE : E ≤ n) (hsp : ∀ w', Below w.heap.size w w' → Calls Tryz.prog 50 #[.slice a n cap, .int .i64 i] w' fun e w'' => e = .returned (.tuple #[.int .i64 3, .int .i64 A, .int .i64 E]) ∧ w' = w'')
    (hs2 : ∀ w', (Instr.slice 22 (.slice a n cap) (some (.int .i64 (A : Int))) (some (.int .i64 (E : Int))) none).run Tryz.prog w' = .ok (.slice a2 (E - A) (cap - A)) w') (x : Nat) (hw8 : wordB (bAt l E) = false)
    (hC : ∀ W, Below w.heap.size w W → Calls Tryz.prog 53 #[.slice a2 (E - A) (cap - A)] W fun e w' => e = .returned (.tuple #[.float .f64 x, .int .i64 0]) ∧ Below W.heap.size W w') :
    Calls Tryz.prog 32 #[.slice a n cap, .int .i64 i] w fun e w' => e = .returned (.tuple #[.agg #[Value.int IntKind.i64 3, Value.string { data := #[] }, Value.int IntKind.i64 0, .float .f64 x, Value.int IntKind.i64 ↑A, Value.int IntKind.i64 (↑E - ↑A)], .int .i64 0]) ∧ Below w.heap.size w w' := by
  have HCC := Lib.hid hC
  have HW8 := Lib.hid hw8
  clear hC hw8
  have sf : ∀ (p : Addr) (b : Nat) (m : Mode) (w' : World), (store p (.float .f64 b) m).run Tryz.prog w' = stored Tryz.prog w' p (.float .f64 b) m := fun p b m w' => run_store _ w' p _ m rfl
  have HS := Lib.hid hsp
  have HT := Lib.hid hT
  clear hsp hT
  go_enter Tryz.func32, Tryz.ntmps32
  go_wp2_with fail
  refine (HS.out _ ((Below.refl w.heap.size w).alloc (Nat.le_refl _) _)).mono ?_
  rintro e w1 ⟨rfl, hw1⟩
  subst hw1
  go_wp2_with fail
  obtain ⟨W, hW⟩ : ∃ W, W = ((w.alloc (Obj.cells #[Value.int IntKind.i64 0, Value.string { data := #[] }, Value.int IntKind.i64 0, Value.float FloatKind.f64 0, Value.int IntKind.i64 0, Value.int IntKind.i64 0] 64)).alloc (Obj.cells #[Value.int IntKind.i64 3, Value.string { data := #[] }, Value.int IntKind.i64 0, Value.float FloatKind.f64 0, Value.int IntKind.i64 ↑A, Value.int IntKind.i64 (↑E - ↑A)] 64)) := ⟨_, rfl⟩
  rw [← hW]
  have hbW : Below w.heap.size w W := by rw [hW]; exact ((Below.refl w.heap.size w).alloc (Nat.le_refl _) _).alloc (by simp) _
  have hWz : W.heap.size = w.heap.size + 2 := by rw [hW]; simp
  refine (HCC.out W hbW).mono ?_
  rintro e w4 ⟨rfl, hb4⟩
  have hz4 := hb4.size
  rw [hWz] at hz4
  obtain ⟨hc4, hf4⟩ := blocks_kept hb4 hW hWz
  have hb04 : Below w.heap.size w w4 := hbW.trans (hb4.mono (by omega))
  have HB04 := Lib.hid hb04
  clear hb4 hW hbW hWz HCC HS hb04
  go_wp2_with (first | (go_at_call 56; refine (byteAt_any _ n cap E l _ (HT.out.below (HB04.out.setCell (p := ⟨w.heap.size + 1, 3, none⟩) (by simp) _) (Nat.le_refl _))).mono ?_; rintro e w' ⟨rfl, rfl⟩) | (go_at_call 55; refine (isWord_any _ _).mono ?_; rintro e w' ⟨rfl, rfl⟩; rw [HW8.out]))
  refine bodyPost_ret (v := .tuple #[.agg #[Value.int IntKind.i64 3, Value.string { data := #[] }, Value.int IntKind.i64 0, .float .f64 x, Value.int IntKind.i64 ↑A, Value.int IntKind.i64 (↑E - ↑A)], .int .i64 0]) (by simp [results, Tryz.results32, go_sem, hc4]) rfl ⟨rfl, ?_⟩
  exact below_chain7 HB04.out _ _ _ _ _ _ _ (by simp) (by simp) (by simp) (by simp) (by simp) (by simp) (by simp)
set_option maxHeartbeats 1000000 in
theorem next_real_word (a a2 : Option Addr) (n cap i A E : Nat) (l : List UInt8) (w : World) (hn : n ≤ 1048576) (hT : Txt w a n cap l)
    (hA : A ≤ n) (hAE : A ≤ E) (hE : E ≤ n) (hsp : ∀ w', Below w.heap.size w w' → Calls Tryz.prog 50 #[.slice a n cap, .int .i64 i] w' fun e w'' => e = .returned (.tuple #[.int .i64 3, .int .i64 A, .int .i64 E]) ∧ w' = w'')
    (hs2 : ∀ w', (Instr.slice 22 (.slice a n cap) (some (.int .i64 (A : Int))) (some (.int .i64 (E : Int))) none).run Tryz.prog w' = .ok (.slice a2 (E - A) (cap - A)) w') (x : Nat) (hw8 : wordB (bAt l E) = true)
    (hC : ∀ W, Below w.heap.size w W → Calls Tryz.prog 53 #[.slice a2 (E - A) (cap - A)] W fun e w' => e = .returned (.tuple #[.float .f64 x, .int .i64 0]) ∧ Below W.heap.size W w') :
    Calls Tryz.prog 32 #[.slice a n cap, .int .i64 i] w fun e w' => e = .returned (.tuple #[.agg #[Value.int IntKind.i64 0, Value.string { data := #[] }, Value.int IntKind.i64 0, Value.float FloatKind.f64 0, Value.int IntKind.i64 ↑A, Value.int IntKind.i64 0], .int .i64 12]) ∧ Below w.heap.size w w' := by
  have HCC := Lib.hid hC
  have HW8 := Lib.hid hw8
  clear hC hw8
  have sf : ∀ (p : Addr) (b : Nat) (m : Mode) (w' : World), (store p (.float .f64 b) m).run Tryz.prog w' = stored Tryz.prog w' p (.float .f64 b) m := fun p b m w' => run_store _ w' p _ m rfl
  have HS := Lib.hid hsp
  have HT := Lib.hid hT
  clear hsp hT
  go_enter Tryz.func32, Tryz.ntmps32
  go_wp2_with fail
  refine (HS.out _ ((Below.refl w.heap.size w).alloc (Nat.le_refl _) _)).mono ?_
  rintro e w1 ⟨rfl, hw1⟩
  subst hw1
  go_wp2_with fail
  obtain ⟨W, hW⟩ : ∃ W, W = ((w.alloc (Obj.cells #[Value.int IntKind.i64 0, Value.string { data := #[] }, Value.int IntKind.i64 0, Value.float FloatKind.f64 0, Value.int IntKind.i64 0, Value.int IntKind.i64 0] 64)).alloc (Obj.cells #[Value.int IntKind.i64 3, Value.string { data := #[] }, Value.int IntKind.i64 0, Value.float FloatKind.f64 0, Value.int IntKind.i64 ↑A, Value.int IntKind.i64 (↑E - ↑A)] 64)) := ⟨_, rfl⟩
  rw [← hW]
  have hbW : Below w.heap.size w W := by rw [hW]; exact ((Below.refl w.heap.size w).alloc (Nat.le_refl _) _).alloc (by simp) _
  have hWz : W.heap.size = w.heap.size + 2 := by rw [hW]; simp
  refine (HCC.out W hbW).mono ?_
  rintro e w4 ⟨rfl, hb4⟩
  have hz4 := hb4.size
  rw [hWz] at hz4
  obtain ⟨hc4, hf4⟩ := blocks_kept hb4 hW hWz
  have hb04 : Below w.heap.size w w4 := hbW.trans (hb4.mono (by omega))
  have HB04 := Lib.hid hb04
  clear hb4 hW hbW hWz HCC HS hb04
  go_wp2_with (first | (go_at_call 56; refine (byteAt_any _ n cap E l _ (HT.out.below (HB04.out.setCell (p := ⟨w.heap.size + 1, 3, none⟩) (by simp) _) (Nat.le_refl _))).mono ?_; rintro e w' ⟨rfl, rfl⟩) | (go_at_call 55; refine (isWord_any _ _).mono ?_; rintro e w' ⟨rfl, rfl⟩; rw [HW8.out]))
  refine bodyPost_ret (v := .tuple #[.agg #[Value.int IntKind.i64 0, Value.string { data := #[] }, Value.int IntKind.i64 0, Value.float FloatKind.f64 0, Value.int IntKind.i64 ↑A, Value.int IntKind.i64 0], .int .i64 12]) (by simp [results, Tryz.results32, go_sem, hc4]) rfl ⟨rfl, ?_⟩
  exact below_chain7 HB04.out _ _ _ _ _ _ _ (by simp) (by simp) (by simp) (by simp) (by simp) (by simp) (by simp)
set_option maxHeartbeats 1000000 in
theorem next_real_bad (a a2 : Option Addr) (n cap i A E : Nat) (l : List UInt8) (w : World) (hn : n ≤ 1048576) (hT : Txt w a n cap l)
    (hA : A ≤ n) (hAE : A ≤ E) (hE : E ≤ n) (hsp : ∀ w', Below w.heap.size w w' → Calls Tryz.prog 50 #[.slice a n cap, .int .i64 i] w' fun e w'' => e = .returned (.tuple #[.int .i64 3, .int .i64 A, .int .i64 E]) ∧ w' = w'')
    (hs2 : ∀ w', (Instr.slice 22 (.slice a n cap) (some (.int .i64 (A : Int))) (some (.int .i64 (E : Int))) none).run Tryz.prog w' = .ok (.slice a2 (E - A) (cap - A)) w') (x : Nat) (hw8 : wordB (bAt l E) = false)
    (hC : ∀ W, Below w.heap.size w W → Calls Tryz.prog 53 #[.slice a2 (E - A) (cap - A)] W fun e w' => e = .returned (.tuple #[.float .f64 x, .int .i64 12]) ∧ Below W.heap.size W w') :
    Calls Tryz.prog 32 #[.slice a n cap, .int .i64 i] w fun e w' => e = .returned (.tuple #[.agg #[Value.int IntKind.i64 0, Value.string { data := #[] }, Value.int IntKind.i64 0, Value.float FloatKind.f64 0, Value.int IntKind.i64 ↑A, Value.int IntKind.i64 0], .int .i64 12]) ∧ Below w.heap.size w w' := by
  have HCC := Lib.hid hC
  have HW8 := Lib.hid hw8
  clear hC hw8
  have sf : ∀ (p : Addr) (b : Nat) (m : Mode) (w' : World), (store p (.float .f64 b) m).run Tryz.prog w' = stored Tryz.prog w' p (.float .f64 b) m := fun p b m w' => run_store _ w' p _ m rfl
  have HS := Lib.hid hsp
  have HT := Lib.hid hT
  clear hsp hT
  go_enter Tryz.func32, Tryz.ntmps32
  go_wp2_with fail
  refine (HS.out _ ((Below.refl w.heap.size w).alloc (Nat.le_refl _) _)).mono ?_
  rintro e w1 ⟨rfl, hw1⟩
  subst hw1
  go_wp2_with fail
  obtain ⟨W, hW⟩ : ∃ W, W = ((w.alloc (Obj.cells #[Value.int IntKind.i64 0, Value.string { data := #[] }, Value.int IntKind.i64 0, Value.float FloatKind.f64 0, Value.int IntKind.i64 0, Value.int IntKind.i64 0] 64)).alloc (Obj.cells #[Value.int IntKind.i64 3, Value.string { data := #[] }, Value.int IntKind.i64 0, Value.float FloatKind.f64 0, Value.int IntKind.i64 ↑A, Value.int IntKind.i64 (↑E - ↑A)] 64)) := ⟨_, rfl⟩
  rw [← hW]
  have hbW : Below w.heap.size w W := by rw [hW]; exact ((Below.refl w.heap.size w).alloc (Nat.le_refl _) _).alloc (by simp) _
  have hWz : W.heap.size = w.heap.size + 2 := by rw [hW]; simp
  refine (HCC.out W hbW).mono ?_
  rintro e w4 ⟨rfl, hb4⟩
  have hz4 := hb4.size
  rw [hWz] at hz4
  obtain ⟨hc4, hf4⟩ := blocks_kept hb4 hW hWz
  have hb04 : Below w.heap.size w w4 := hbW.trans (hb4.mono (by omega))
  have HB04 := Lib.hid hb04
  clear hb4 hW hbW hWz HCC HS hb04
  go_wp2_with (first | (go_at_call 56; refine (byteAt_any _ n cap E l _ (HT.out.below (HB04.out.setCell (p := ⟨w.heap.size + 1, 3, none⟩) (by simp) _) (Nat.le_refl _))).mono ?_; rintro e w' ⟨rfl, rfl⟩) | (go_at_call 55; refine (isWord_any _ _).mono ?_; rintro e w' ⟨rfl, rfl⟩; rw [HW8.out]))
  refine bodyPost_ret (v := .tuple #[.agg #[Value.int IntKind.i64 0, Value.string { data := #[] }, Value.int IntKind.i64 0, Value.float FloatKind.f64 0, Value.int IntKind.i64 ↑A, Value.int IntKind.i64 0], .int .i64 12]) (by simp [results, Tryz.results32, go_sem, hc4]) rfl ⟨rfl, ?_⟩
  exact below_chain7 HB04.out _ _ _ _ _ _ _ (by simp) (by simp) (by simp) (by simp) (by simp) (by simp) (by simp)
set_option maxHeartbeats 1000000 in
theorem next_real_bad2 (a a2 : Option Addr) (n cap i A E : Nat) (l : List UInt8) (w : World) (hn : n ≤ 1048576) (hT : Txt w a n cap l)
    (hA : A ≤ n) (hAE : A ≤ E) (hE : E ≤ n) (hsp : ∀ w', Below w.heap.size w w' → Calls Tryz.prog 50 #[.slice a n cap, .int .i64 i] w' fun e w'' => e = .returned (.tuple #[.int .i64 3, .int .i64 A, .int .i64 E]) ∧ w' = w'')
    (hs2 : ∀ w', (Instr.slice 22 (.slice a n cap) (some (.int .i64 (A : Int))) (some (.int .i64 (E : Int))) none).run Tryz.prog w' = .ok (.slice a2 (E - A) (cap - A)) w') (x : Nat) (hw8 : wordB (bAt l E) = true)
    (hC : ∀ W, Below w.heap.size w W → Calls Tryz.prog 53 #[.slice a2 (E - A) (cap - A)] W fun e w' => e = .returned (.tuple #[.float .f64 x, .int .i64 12]) ∧ Below W.heap.size W w') :
    Calls Tryz.prog 32 #[.slice a n cap, .int .i64 i] w fun e w' => e = .returned (.tuple #[.agg #[Value.int IntKind.i64 0, Value.string { data := #[] }, Value.int IntKind.i64 0, Value.float FloatKind.f64 0, Value.int IntKind.i64 ↑A, Value.int IntKind.i64 0], .int .i64 12]) ∧ Below w.heap.size w w' := by
  have HCC := Lib.hid hC
  have HW8 := Lib.hid hw8
  clear hC hw8
  have sf : ∀ (p : Addr) (b : Nat) (m : Mode) (w' : World), (store p (.float .f64 b) m).run Tryz.prog w' = stored Tryz.prog w' p (.float .f64 b) m := fun p b m w' => run_store _ w' p _ m rfl
  have HS := Lib.hid hsp
  have HT := Lib.hid hT
  clear hsp hT
  go_enter Tryz.func32, Tryz.ntmps32
  go_wp2_with fail
  refine (HS.out _ ((Below.refl w.heap.size w).alloc (Nat.le_refl _) _)).mono ?_
  rintro e w1 ⟨rfl, hw1⟩
  subst hw1
  go_wp2_with fail
  obtain ⟨W, hW⟩ : ∃ W, W = ((w.alloc (Obj.cells #[Value.int IntKind.i64 0, Value.string { data := #[] }, Value.int IntKind.i64 0, Value.float FloatKind.f64 0, Value.int IntKind.i64 0, Value.int IntKind.i64 0] 64)).alloc (Obj.cells #[Value.int IntKind.i64 3, Value.string { data := #[] }, Value.int IntKind.i64 0, Value.float FloatKind.f64 0, Value.int IntKind.i64 ↑A, Value.int IntKind.i64 (↑E - ↑A)] 64)) := ⟨_, rfl⟩
  rw [← hW]
  have hbW : Below w.heap.size w W := by rw [hW]; exact ((Below.refl w.heap.size w).alloc (Nat.le_refl _) _).alloc (by simp) _
  have hWz : W.heap.size = w.heap.size + 2 := by rw [hW]; simp
  refine (HCC.out W hbW).mono ?_
  rintro e w4 ⟨rfl, hb4⟩
  have hz4 := hb4.size
  rw [hWz] at hz4
  obtain ⟨hc4, hf4⟩ := blocks_kept hb4 hW hWz
  have hb04 : Below w.heap.size w w4 := hbW.trans (hb4.mono (by omega))
  have HB04 := Lib.hid hb04
  clear hb4 hW hbW hWz HCC HS hb04
  go_wp2_with (first | (go_at_call 56; refine (byteAt_any _ n cap E l _ (HT.out.below (HB04.out.setCell (p := ⟨w.heap.size + 1, 3, none⟩) (by simp) _) (Nat.le_refl _))).mono ?_; rintro e w' ⟨rfl, rfl⟩) | (go_at_call 55; refine (isWord_any _ _).mono ?_; rintro e w' ⟨rfl, rfl⟩; rw [HW8.out]))
  refine bodyPost_ret (v := .tuple #[.agg #[Value.int IntKind.i64 0, Value.string { data := #[] }, Value.int IntKind.i64 0, Value.float FloatKind.f64 0, Value.int IntKind.i64 ↑A, Value.int IntKind.i64 0], .int .i64 12]) (by simp [results, Tryz.results32, go_sem, hc4]) rfl ⟨rfl, ?_⟩
  exact below_chain7 HB04.out _ _ _ _ _ _ _ (by simp) (by simp) (by simp) (by simp) (by simp) (by simp) (by simp)
set_option maxHeartbeats 1000000 in
theorem next_text_ok (a a2 : Option Addr) (n cap i A E : Nat) (l : List UInt8) (w : World) (hn : n ≤ 1048576) (hT : Txt w a n cap l)
    (hA : A ≤ n) (hAE : A ≤ E) (hE : E ≤ n) (hsp : ∀ w', Below w.heap.size w w' → Calls Tryz.prog 50 #[.slice a n cap, .int .i64 i] w' fun e w'' => e = .returned (.tuple #[.int .i64 4, .int .i64 A, .int .i64 E]) ∧ w' = w'')
    (hs2 : ∀ w', (Instr.slice 22 (.slice a n cap) (some (.int .i64 (A : Int))) (some (.int .i64 (E : Int))) none).run Tryz.prog w' = .ok (.slice a2 (E - A) (cap - A)) w') (x : ByteArray)
    (hC : ∀ W, Below w.heap.size w W → Calls Tryz.prog 54 #[.slice a2 (E - A) (cap - A)] W fun e w' => e = .returned (.tuple #[.string x, .int .i64 0]) ∧ Below W.heap.size W w') :
    Calls Tryz.prog 32 #[.slice a n cap, .int .i64 i] w fun e w' => e = .returned (.tuple #[.agg #[Value.int IntKind.i64 4, .string x, Value.int IntKind.i64 0, Value.float FloatKind.f64 0, Value.int IntKind.i64 ↑A, Value.int IntKind.i64 (↑E - ↑A)], .int .i64 0]) ∧ Below w.heap.size w w' := by
  have HCC := Lib.hid hC
  clear hC
  have sf : ∀ (p : Addr) (b : Nat) (m : Mode) (w' : World), (store p (.float .f64 b) m).run Tryz.prog w' = stored Tryz.prog w' p (.float .f64 b) m := fun p b m w' => run_store _ w' p _ m rfl
  have HS := Lib.hid hsp
  have HT := Lib.hid hT
  clear hsp hT
  go_enter Tryz.func32, Tryz.ntmps32
  go_wp2_with fail
  refine (HS.out _ ((Below.refl w.heap.size w).alloc (Nat.le_refl _) _)).mono ?_
  rintro e w1 ⟨rfl, hw1⟩
  subst hw1
  go_wp2_with fail
  obtain ⟨W, hW⟩ : ∃ W, W = ((w.alloc (Obj.cells #[Value.int IntKind.i64 0, Value.string { data := #[] }, Value.int IntKind.i64 0, Value.float FloatKind.f64 0, Value.int IntKind.i64 0, Value.int IntKind.i64 0] 64)).alloc (Obj.cells #[Value.int IntKind.i64 4, Value.string { data := #[] }, Value.int IntKind.i64 0, Value.float FloatKind.f64 0, Value.int IntKind.i64 ↑A, Value.int IntKind.i64 (↑E - ↑A)] 64)) := ⟨_, rfl⟩
  rw [← hW]
  have hbW : Below w.heap.size w W := by rw [hW]; exact ((Below.refl w.heap.size w).alloc (Nat.le_refl _) _).alloc (by simp) _
  have hWz : W.heap.size = w.heap.size + 2 := by rw [hW]; simp
  refine (HCC.out W hbW).mono ?_
  rintro e w4 ⟨rfl, hb4⟩
  have hz4 := hb4.size
  rw [hWz] at hz4
  obtain ⟨hc4, hf4⟩ := blocks_kept hb4 hW hWz
  have hb04 : Below w.heap.size w w4 := hbW.trans (hb4.mono (by omega))
  have HB04 := Lib.hid hb04
  clear hb4 hW hbW hWz HCC HS hb04
  go_wp2_with fail
  refine bodyPost_ret (v := .tuple #[.agg #[Value.int IntKind.i64 4, .string x, Value.int IntKind.i64 0, Value.float FloatKind.f64 0, Value.int IntKind.i64 ↑A, Value.int IntKind.i64 (↑E - ↑A)], .int .i64 0]) (by simp [results, Tryz.results32, go_sem, hc4]) rfl ⟨rfl, ?_⟩
  exact below_chain7 HB04.out _ _ _ _ _ _ _ (by simp) (by simp) (by simp) (by simp) (by simp) (by simp) (by simp)
set_option maxHeartbeats 1000000 in
theorem next_text_bad (a a2 : Option Addr) (n cap i A E : Nat) (l : List UInt8) (w : World) (hn : n ≤ 1048576) (hT : Txt w a n cap l)
    (hA : A ≤ n) (hAE : A ≤ E) (hE : E ≤ n) (hsp : ∀ w', Below w.heap.size w w' → Calls Tryz.prog 50 #[.slice a n cap, .int .i64 i] w' fun e w'' => e = .returned (.tuple #[.int .i64 4, .int .i64 A, .int .i64 E]) ∧ w' = w'')
    (hs2 : ∀ w', (Instr.slice 22 (.slice a n cap) (some (.int .i64 (A : Int))) (some (.int .i64 (E : Int))) none).run Tryz.prog w' = .ok (.slice a2 (E - A) (cap - A)) w') (x : ByteArray)
    (hC : ∀ W, Below w.heap.size w W → Calls Tryz.prog 54 #[.slice a2 (E - A) (cap - A)] W fun e w' => e = .returned (.tuple #[.string x, .int .i64 11]) ∧ Below W.heap.size W w') :
    Calls Tryz.prog 32 #[.slice a n cap, .int .i64 i] w fun e w' => e = .returned (.tuple #[.agg #[Value.int IntKind.i64 0, Value.string { data := #[] }, Value.int IntKind.i64 0, Value.float FloatKind.f64 0, Value.int IntKind.i64 ↑A, Value.int IntKind.i64 0], .int .i64 11]) ∧ Below w.heap.size w w' := by
  have HCC := Lib.hid hC
  clear hC
  have sf : ∀ (p : Addr) (b : Nat) (m : Mode) (w' : World), (store p (.float .f64 b) m).run Tryz.prog w' = stored Tryz.prog w' p (.float .f64 b) m := fun p b m w' => run_store _ w' p _ m rfl
  have HS := Lib.hid hsp
  have HT := Lib.hid hT
  clear hsp hT
  go_enter Tryz.func32, Tryz.ntmps32
  go_wp2_with fail
  refine (HS.out _ ((Below.refl w.heap.size w).alloc (Nat.le_refl _) _)).mono ?_
  rintro e w1 ⟨rfl, hw1⟩
  subst hw1
  go_wp2_with fail
  obtain ⟨W, hW⟩ : ∃ W, W = ((w.alloc (Obj.cells #[Value.int IntKind.i64 0, Value.string { data := #[] }, Value.int IntKind.i64 0, Value.float FloatKind.f64 0, Value.int IntKind.i64 0, Value.int IntKind.i64 0] 64)).alloc (Obj.cells #[Value.int IntKind.i64 4, Value.string { data := #[] }, Value.int IntKind.i64 0, Value.float FloatKind.f64 0, Value.int IntKind.i64 ↑A, Value.int IntKind.i64 (↑E - ↑A)] 64)) := ⟨_, rfl⟩
  rw [← hW]
  have hbW : Below w.heap.size w W := by rw [hW]; exact ((Below.refl w.heap.size w).alloc (Nat.le_refl _) _).alloc (by simp) _
  have hWz : W.heap.size = w.heap.size + 2 := by rw [hW]; simp
  refine (HCC.out W hbW).mono ?_
  rintro e w4 ⟨rfl, hb4⟩
  have hz4 := hb4.size
  rw [hWz] at hz4
  obtain ⟨hc4, hf4⟩ := blocks_kept hb4 hW hWz
  have hb04 : Below w.heap.size w w4 := hbW.trans (hb4.mono (by omega))
  have HB04 := Lib.hid hb04
  clear hb4 hW hbW hWz HCC HS hb04
  go_wp2_with fail
  refine bodyPost_ret (v := .tuple #[.agg #[Value.int IntKind.i64 0, Value.string { data := #[] }, Value.int IntKind.i64 0, Value.float FloatKind.f64 0, Value.int IntKind.i64 ↑A, Value.int IntKind.i64 0], .int .i64 11]) (by simp [results, Tryz.results32, go_sem, hc4]) rfl ⟨rfl, ?_⟩
  exact below_chain7 HB04.out _ _ _ _ _ _ _ (by simp) (by simp) (by simp) (by simp) (by simp) (by simp) (by simp)
end Go.Proofs.YtddeoemkjedonaaGreatDoor
