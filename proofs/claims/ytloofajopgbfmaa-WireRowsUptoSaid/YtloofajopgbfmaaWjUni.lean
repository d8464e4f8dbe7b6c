/- Wire: what the program reads and what the reference reads, under the same names. -/
import Derived.Test.YtloofajopgbfmaaWjLaw
import Derived.Test.YtloofajopgbfmaaWjRef12
namespace Go.Proofs.Ytloofajopgbfmaa
set_option linter.all false
open Go.RowKit
set_option maxRecDepth 100000
abbrev fVal (x : V9) : Value := .agg #[.int .i64 x.kd, .int .i64 x.iv, .float .f64 x.rl, .complex .f64 x.re x.im, .string ⟨x.tx.toArray⟩]
/-- reading a value: by the program, by the reference, the end -/
structure UV (l : List UInt8) (x : V9) (N E : Int) (o : Option Nat) : Prop where
  ok : OkZ x
  prog : ansV (rdV l) = .tuple #[fVal x, .int .i64 N, .int .i64 E]
  ref : valR l 0 = (x, o)
  fin : endV o = .tuple #[.int .i64 N, .int .i64 E]
theorem uv (l : List UInt8) : ∃ x N E o, UV l x N E o := by
  cases h : rdV l with
  | none => exact ⟨zero9, 0, 110, none, .inr rfl, by rw [h]; rfl, valR_none h, rfl⟩
  | some q =>
    obtain ⟨v, m⟩ := q
    exact ⟨v, m, 0, some m, .inl (rdV_form h).2.2.1, by rw [h]; rfl, by rw [valR_some (k := 0) h, Nat.zero_add], rfl⟩
structure UP (l : List UInt8) (vs : List V9) (N E : Int) (o : Option Nat) : Prop where
  ok : ∀ x ∈ vs, OkZ x
  few : vs.length ≤ 6
  prog : ∀ B e w', PlA (rdP l) B e w' → ∃ al cp, e = .returned (.tuple #[.slice al vs.length cp, .int .i64 N, .int .i64 E]) ∧ w'.ownsRow B 27 5 (.slice al vs.length cp) vs.length (cellsP vs)
  ref : plR l (some 0) = (vs, o)
  fin : endV o = .tuple #[.int .i64 N, .int .i64 E]
theorem up (l : List UInt8) : ∃ vs N E o, UP l vs N E o := by
  cases h : rdP l with
  | none => exact ⟨[], 0, 110, none, (fun x hx => by cases hx), by simp, fun B e w' hh => by (rw [h] at hh; exact ⟨none, 0, hh, World.ownsRow_nil _ _ _ _⟩), by unfold plR; simp only [List.drop_zero]; rw [h], rfl⟩
  | some q =>
    obtain ⟨vs, m⟩ := q
    have hp := (rdP_form h).2.2.1
    exact ⟨vs, m, 0, some m, fun x hx => .inl (hp.all x hx), hp.few, fun B e w' hh => by (rw [h] at hh; exact hh), by unfold plR; simp only [List.drop_zero]; rw [h]; simp, rfl⟩
structure UM (l : List UInt8) (m : M9) (N E : Int) (o : Option Nat) : Prop where
  ok : ∀ x ∈ m.vs, OkZ x
  few : m.vs.length ≤ 6
  prog : ∀ B e w', MsA (rdM l) B e w' → ∃ al cp, e = .returned (.tuple #[.agg #[.int .i64 m.id, .string ⟨m.tag.toArray⟩, .slice al m.vs.length cp], .int .i64 N, .int .i64 E]) ∧ w'.ownsRow B 27 5 (.slice al m.vs.length cp) m.vs.length (cellsP m.vs)
  ref : mxR l 0 = (m, o)
  fin : endV o = .tuple #[.int .i64 N, .int .i64 E]
theorem um (l : List UInt8) : ∃ m N E o, UM l m N E o := by
  cases h : rdM l with
  | none => exact ⟨zeroM9, 0, 110, none, (fun x hx => by cases hx), by decide, fun B e w' hh => by (rw [h] at hh; exact ⟨none, 0, hh, World.ownsRow_nil _ _ _ _⟩), mxR_none h, rfl⟩
  | some q =>
    obtain ⟨m, k⟩ := q
    have hp := (rdM_form h).2.2.1.vs
    exact ⟨m, k, 0, some k, fun x hx => .inl (hp.all x hx), hp.few, fun B e w' hh => by (rw [h] at hh; exact hh), by unfold mxR; simp only [List.drop_zero]; rw [h]; simp, rfl⟩
section
variable {l : List UInt8} {x : V9} {vs : List V9} {m : M9} {N E : Int} {o : Option Nat} {a : Option Addr} {n cap p : Nat} {W : World}
theorem UV.pc (h : UV l x N E o) (ht : Txt W a n cap l) : Calls Try.prog 7 #[.slice a n cap] W fun e w' => e = .returned (.tuple #[fVal x, .int .i64 N, .int .i64 E]) ∧ Below W.heap.size W w' := by
  have := readValue_any a n cap l W ht
  rw [h.prog] at this
  exact this
theorem UP.pc (h : UP l vs N E o) (ht : Txt W a n cap l) : Calls Try.prog 8 #[.slice a n cap] W fun e w' => (∃ al cp, e = .returned (.tuple #[.slice al vs.length cp, .int .i64 N, .int .i64 E]) ∧ w'.ownsRow W.heap.size 27 5 (.slice al vs.length cp) vs.length (cellsP vs)) ∧ Below W.heap.size W w' :=
  (readPayload_any a n cap l W ht).mono fun e w' hh => ⟨h.prog _ _ _ hh.1, hh.2⟩
theorem UM.pc (h : UM l m N E o) (ht : Txt W a n cap l) : Calls Try.prog 9 #[.slice a n cap] W fun e w' => (∃ al cp, e = .returned (.tuple #[.agg #[.int .i64 m.id, .string ⟨m.tag.toArray⟩, .slice al m.vs.length cp], .int .i64 N, .int .i64 E]) ∧ w'.ownsRow W.heap.size 27 5 (.slice al m.vs.length cp) m.vs.length (cellsP m.vs)) ∧ Below W.heap.size W w' :=
  (readMessage_any a n cap l W ht).mono fun e w' hh => ⟨h.prog _ _ _ hh.1, hh.2⟩
theorem UV.rc (h : UV l x N E o) (hs : RSt W p a n cap l (some 0)) : Calls Try.prog 10 #[.pointer (some ⟨p, 0, none⟩)] W fun e w' => e = .returned (fVal x) ∧ RSt w' p a n cap l o ∧ Eff9 p W w' := by
  have := refValue_any p 0 a n cap l W hs
  rw [h.ref] at this
  exact this
theorem UP.rc (h : UP l vs N E o) (hs : RSt W p a n cap l (some 0)) : Calls Try.prog 11 #[.pointer (some ⟨p, 0, none⟩)] W fun e w' => ∃ al cp, e = .returned (.slice al vs.length cp) ∧ w'.ownsRow W.heap.size 27 5 (.slice al vs.length cp) vs.length (cellsP vs) ∧ RSt w' p a n cap l o ∧ Eff9 p W w' := by
  have := refPayload_any p a n cap l (some 0) W hs
  rw [h.ref] at this
  exact this
theorem UM.rc (h : UM l m N E o) (hs : RSt W p a n cap l (some 0)) : Calls Try.prog 12 #[.pointer (some ⟨p, 0, none⟩)] W fun e w' => ∃ al cp, e = .returned (.agg #[.int .i64 m.id, .string ⟨m.tag.toArray⟩, .slice al m.vs.length cp]) ∧ w'.ownsRow W.heap.size 27 5 (.slice al m.vs.length cp) m.vs.length (cellsP m.vs) ∧ RSt w' p a n cap l o ∧ Eff9 p W w' := by
  have := refMessage_any p 0 a n cap l W hs
  rw [h.ref] at this
  exact this
theorem end_u (hf : endV o = .tuple #[.int .i64 N, .int .i64 E]) (hs : RSt W p a n cap l o) : Calls Try.prog 13 #[.pointer (some ⟨p, 0, none⟩)] W fun e w' => e = .returned (.tuple #[.int .i64 N, .int .i64 E]) ∧ W = w' := by
  have := end_r p a n cap l o W hs
  rw [hf] at this
  exact this
end
theorem txt_lent {w : World} {B g n cp : Nat} {l : List UInt8} (h : w.ownsRow B 5 1 (.slice (some ⟨g, 0, none⟩) (n + 2) cp) (n + 2) (u8s (l ++ [201, 202]))) : Txt w (some ⟨g, 0, none⟩) n cp l ∧ At w ⟨g, 0, none⟩ (l ++ [201, 202]) ∧ l.length = n ∧ n + 2 ≤ cp := by
  have ht := txt_of_owned h
  have hl : l.length = n := by have := ht.1; simp at this; exact this
  have h2 := txt_take n ht (by omega)
  have e2 : List.take n (l ++ [201, 202]) = l := by subst hl; simp
  rw [e2] at h2
  exact ⟨h2, At.owned h, hl, ht.2.1⟩
theorem Below.of_eff {B p : Nat} {w a b : World} (hB : Below B w a) (h : Eff9 p a b) (hp : B ≤ p) (hw : B ≤ w.heap.size) : Below B w b := h.to hB hp (Nat.le_trans hw hB.size)
/-- a reading begun -/
theorem RSt.start {w : World} {p n cap : Nat} {a : Option Addr} {l : List UInt8} (ht : Txt w a n cap l) (ho : ∀ x : Addr, a = Option.some x → x.block ≠ p) (hb : Bk w p 40 [.slice a n cap, .int .i64 0, .bool false]) : RSt w p a n cap l (Option.some 0) :=
  ⟨ht, ho, 0, false, hb, Nat.zero_le _, fun m e => by (cases e; exact ⟨rfl, rfl⟩), fun e => by (cases e)⟩
theorem own_eff9 {w w' : World} {B n sz p : Nat} {T : TypeId} {v : Value} {xs : List Value} (h : w.ownsRow B T sz v n xs) (he : Eff9 p w w') (hp : ∀ g, v.ownBlock = some g → g ≠ p) : w'.ownsRow B T sz v n xs := by
  refine h.kept he ?_
  cases hv : v.ownBlock with
  | none => exact .inl rfl
  | some g => exact .inr (fun e => hp g hv (Option.some.inj e))
end Go.Proofs.Ytloofajopgbfmaa
