/- lex.Scan at the reference's tokens. -/
import Derived.Test.YtddeoemkjedonaaGreatDoorScan
import Derived.Test.YtddeoemkjedonaaGreatDoorFloat
import Derived.Test.YtddeoemkjedonaaGreatDoorMRefScan
import Derived.Test.YtddeoemkjedonaaGreatDoorMExPlain
import Derived.Test.YtddeoemkjedonaaGreatDoorMNextPlain
import Derived.Test.YtddeoemkjedonaaGreatDoorMEbSmall
import Derived.Laws.FloatBits
namespace Go.Proofs.YtddeoemkjedonaaGreatDoor
open Go.RowKit Go.Shelf
set_option maxRecDepth 100000

theorem Scan_any (a : Option Addr) (n cap : Nat) (l : List UInt8) (w : World) (hT : Txt w a n cap l) (hG : Glob w) :
    Calls Tryz.prog 9 #[.slice a n cap] w fun e W' => Below w.heap.size w W' ∧
      ((∃ v, e = .returned (.tuple #[v, .int .i64 0, .int .i64 0]) ∧ (∀ x ∈ allF l, x.2 = 0) ∧ W'.ownsRow w.heap.size 64 6 v (allF l).length (flatT (allF l))) ∨
       (∃ p x r, allF l = p ++ x :: r ∧ (∀ y ∈ p, y.2 = 0) ∧ x.2 ≠ 0 ∧ e = .returned (.tuple #[.slice none 0 0, .int .i64 x.1.at_, .int .i64 x.2]))) :=
  (callsIn_wide (n := 3)).1 (Scan_in 3 a n cap l w (Nat.le_refl _) ldexpSaid hT hG)

theorem firstBad {p q r s : List (Tok × Nat)} {x y : Tok × Nat} (h : p ++ x :: r = q ++ y :: s) (hp : ∀ z ∈ p, z.2 = 0) (hq : ∀ z ∈ q, z.2 = 0) (hx : x.2 ≠ 0) (hy : y.2 ≠ 0) : x = y := by
  induction p generalizing q with
  | nil =>
    cases q with
    | nil => simp at h; exact h.1
    | cons z q => simp at h; exact absurd (hq z (by simp)) (h.1 ▸ hx)
  | cons z p ih =>
    cases q with
    | nil => simp at h; exact absurd (hp z (by simp)) (h.1 ▸ hy)
    | cons u q =>
      simp at h
      exact ih h.2 (fun z hz => hp z (List.mem_cons_of_mem _ hz)) (fun z hz => hq z (List.mem_cons_of_mem _ hz))
theorem seqR_place (l : List UInt8) : ∀ (f i : Nat), (seqR f l i).2.2 = 0 → (seqR f l i).2.1 = 0
  | 0, _, _ => rfl
  | f + 1, i, h => by
    rw [seqR_S] at h ⊢
    unfold seqS at h ⊢
    split
    · rfl
    · rename_i h1
      rw [if_neg h1] at h
      split
      · rename_i h2
        rw [if_pos h2] at h
        exact absurd h h2
      · rename_i h2
        rw [if_neg h2] at h
        exact seqR_place l f _ h
theorem allR_place {l : List UInt8} (h : (allR l).2.2 = 0) : (allR l).2.1 = 0 := by
  unfold allR at h ⊢
  split
  · rfl
  · rename_i h1
    rw [if_neg h1] at h
    exact seqR_place l _ _ h
theorem all_ok {l : List UInt8} (h : ∀ x ∈ allF l, x.2 = 0) : (allR l).2.1 = 0 ∧ (allR l).2.2 = 0 ∧ allF l = (allR l).1.map (fun t => (t, 0)) := by
  have e := same_all l
  unfold toldR at e
  by_cases h0 : (allR l).2.2 = 0
  · rw [if_pos h0, List.append_nil] at e
    exact ⟨allR_place h0, h0, e⟩
  · rw [if_neg h0] at e
    exact absurd (h (⟨0, [], 0, 0, (allR l).2.1, 0⟩, (allR l).2.2) (by rw [e]; simp)) h0
theorem map_zero {xs : List Tok} : ∀ y ∈ xs.map (fun t => (t, 0)), (y : Tok × Nat).2 = 0 := by
  intro y hy
  obtain ⟨t, _, rfl⟩ := List.mem_map.1 hy
  rfl
theorem all_bad {l : List UInt8} {p r : List (Tok × Nat)} {x : Tok × Nat} (h : allF l = p ++ x :: r) (hp : ∀ y ∈ p, y.2 = 0) (hx : x.2 ≠ 0) : (allR l).2.1 = x.1.at_ ∧ (allR l).2.2 = x.2 := by
  have e := same_all l
  unfold toldR at e
  by_cases h0 : (allR l).2.2 = 0
  · rw [if_pos h0, List.append_nil] at e
    exact absurd (map_zero x (by rw [← e, h]; simp)) hx
  · rw [if_neg h0] at e
    have := firstBad (h.symm.trans e) hp map_zero hx h0
    rw [this]
    exact ⟨rfl, rfl⟩
theorem flatT_map (xs : List Tok) : flatT (xs.map (fun t => (t, 0))) = flatR xs := by unfold flatT flatR; rw [List.flatMap_map]
/-- Scan, by the reference's tokens -/
def EScan (l : List UInt8) (w : World) (e : Ending) (w' : World) : Prop :=
  (((allR l).2.2 = 0 ∧ ∃ v, e = .returned (.tuple #[v, .int .i64 0, .int .i64 0]) ∧ w'.ownsRow w.heap.size 64 6 v (allR l).1.length (flatR (allR l).1)) ∨
   ((allR l).2.2 ≠ 0 ∧ e = .returned (.tuple #[.slice none 0 0, .int .i64 (allR l).2.1, .int .i64 (allR l).2.2]))) ∧ Below w.heap.size w w'
theorem escan_any (a : Option Addr) (n cap : Nat) (l : List UInt8) (w : World) (hT : Txt w a n cap l) (hG : Glob w) :
    Calls Tryz.prog 9 #[.slice a n cap] w (EScan l w) := by
  refine (Scan_any a n cap l w hT hG).mono ?_
  rintro e W' ⟨hb, ⟨v, he, hz, hr⟩ | ⟨p, x, r, h1, h2, h3, he⟩⟩
  · obtain ⟨q1, q2, q3⟩ := all_ok hz
    rw [q3, flatT_map, List.length_map] at hr
    exact ⟨.inl ⟨q2, v, he, hr⟩, hb⟩
  · obtain ⟨q1, q2⟩ := all_bad h1 h2 h3
    exact ⟨.inr ⟨by rw [q2]; exact h3, by rw [q1, q2]; exact he⟩, hb⟩
end Go.Proofs.YtddeoemkjedonaaGreatDoor
/- Reading stays within the tokens; the tokens of a text. -/
namespace Go.Proofs.YtddeoemkjedonaaGreatDoor
open Go.RowKit

def inR (N : Nat) : Rs → Prop
  | .ok _ q => q ≤ N
  | .bad q => q ≤ N
theorem gL_no {L : List TokE} {k : Nat} (h : ¬ k < L.length) : gL L k = .no := by unfold gL; rw [if_neg h]
theorem isM_lt {L : List TokE} {k : Nat} {s : List UInt8} (h : isM (gL L k) s = true) : k < L.length := by
  rcases Nat.lt_or_ge k L.length with h' | h'
  · exact h'
  · rw [gL_no (by omega)] at h; cases h
theorem thenR_in {N : Nat} {o : Option Rs} {k : Ex → Nat → Option Rs} {r : Rs} (h : thenR o k = some r) (h1 : ∀ x, o = some x → inR N x) (h2 : ∀ a q, q ≤ N → k a q = some r → inR N r) : inR N r := by
  unfold thenR at h
  cases ho : o with
  | none => rw [ho] at h; cases h
  | some x =>
    rw [ho] at h
    have hx := h1 x ho
    cases x with
    | ok a e => exact h2 a e hx h
    | bad e => cases h; exact hx
theorem rd_in (L : List TokE) : ∀ (f : Nat) (X : Nt) (p : Nat) (r : Rs), (∀ n a, X = .loop n a → 1 ≤ n) → (∀ n, X = .lvl n → 1 ≤ n) → p ≤ L.length → rd (gL L) f X p = some r → inR L.length r := by
  intro f
  induction f with
  | zero => intro X p r _ _ _ h; unfold rd at h; cases h
  | succ f ih =>
    intro X p r hl hv hp h
    have ih1 : ∀ n p r, 1 ≤ n → p ≤ L.length → rd (gL L) f (.lvl n) p = some r → inR L.length r := fun n p r hn hp h => ih _ _ _ (fun _ _ e => by cases e) (fun _ e => by cases e; exact hn) hp h
    cases X with
    | lvl n =>
      have hn := hv n rfl
      rw [rd] at h
      split at h
      · cases hg : gL L p with
        | leaf l =>
          rw [hg] at h
          have hlt : p < L.length := by
            rcases Nat.lt_or_ge p L.length with h' | h'
            · exact h'
            · rw [gL_no (by omega)] at hg; cases hg
          cases h
          exact hlt
        | mark s =>
          rw [hg] at h
          have hlt : p < L.length := by
            rcases Nat.lt_or_ge p L.length with h' | h'
            · exact h'
            · rw [gL_no (by omega)] at hg; cases hg
          simp only at h
          split at h
          · refine thenR_in h (fun x hx => ih1 1 _ _ (by omega) hlt hx) (fun a q hq hk => ?_)
            split at hk
            · rename_i hm; cases hk; exact isM_lt hm
            · cases hk; exact hq
          · cases h; exact hp
        | word k =>
          rw [hg] at h
          have hlt : p < L.length := by
            rcases Nat.lt_or_ge p L.length with h' | h'
            · exact h'
            · rw [gL_no (by omega)] at hg; cases hg
          simp only at h
          split at h
          · rename_i hb
            have hlt2 := isM_lt hb
            refine thenR_in h (fun x hx => ih1 1 _ _ (by omega) hlt2 hx) (fun a q hq hk => ?_)
            split at hk
            · split at hk
              · rename_i hm; cases hk; exact isM_lt hm
              · cases hk; exact hq
            · split at hk
              · rename_i hm
                have hlt3 := isM_lt hm
                refine thenR_in hk (fun x hx => ih1 1 _ _ (by omega) hlt3 hx) (fun b q2 hq2 hk2 => ?_)
                split at hk2
                · rename_i hm2; cases hk2; exact isM_lt hm2
                · cases hk2; exact hq2
              · cases hk; exact hq
          · cases h; exact hlt
        | no => rw [hg] at h; cases h; exact hp
      · split at h
        · split at h
          · exact ih1 _ _ _ (by omega) hp h
          · rename_i hs
            have hlt : p < L.length := by
              rcases Nat.lt_or_ge p L.length with h' | h'
              · exact h'
              · rw [gL_no (by omega)] at hs; exact absurd rfl hs
            exact thenR_in h (fun x hx => ih1 6 _ _ (by omega) hlt hx) (fun a q hq hk => by cases hk; exact hq)
        · exact thenR_in h (fun x hx => ih1 _ _ _ (by omega) hp hx) (fun a q hq hk => ih _ _ _ (fun _ _ e => by cases e; exact hn) (fun _ e => by cases e) hq hk)
    | loop n a =>
      have hn := hl n a rfl
      rw [rd] at h
      split at h
      · rename_i hop
        have hlt : p < L.length := by
          rcases Nat.lt_or_ge p L.length with h' | h'
          · exact h'
          · rw [gL_no (by omega)] at hop
            have e0 : opL (clK .no) = 0 := rfl
            omega
        refine thenR_in h (fun x hx => ih1 _ _ _ (by omega) hlt hx) (fun b q hq hk => ?_)
        split at hk
        · cases hk; exact hq
        · exact ih _ _ _ (fun _ _ e => by cases e; exact hn) (fun _ e => by cases e) hq hk
      · cases h; exact hp
theorem Rd.bad_le {L : List TokE} {n p q : Nat} (hn : 1 ≤ n) (hp : p ≤ L.length) (h : Rd (gL L) (.lvl n) p (.bad q)) : q ≤ L.length := by
  obtain ⟨f, hf⟩ := h
  exact rd_in L f _ _ _ (fun _ _ e => by cases e) (fun _ e => by cases e; exact hn) hp hf
theorem Rd.ok_le {L : List TokE} {n p q : Nat} {t : Ex} (hn : 1 ≤ n) (hp : p ≤ L.length) (h : Rd (gL L) (.lvl n) p (.ok t q)) : q ≤ L.length := by
  obtain ⟨f, hf⟩ := h
  exact rd_in L f _ _ _ (fun _ _ e => by cases e) (fun _ e => by cases e; exact hn) hp hf
/-- a token as the reader has it -/
def tokE (t : Tok) : TokE := ⟨t.kind, ⟨t.text.toArray⟩, t.int, t.real, t.at_, t.size⟩
end Go.Proofs.YtddeoemkjedonaaGreatDoor
/- The tokens of a text: how many, how great. -/
namespace Go.Proofs.YtddeoemkjedonaaGreatDoor
open Go.RowKit Go.Shelf
set_option maxRecDepth 100000

theorem realBits_lt (m e : Int) : realBits m e < 18446744073709551616 := Ieee.Format.nearest_lt Ieee.double _ _ _
def smallT (n : Nat) (t : Tok) : Prop := t.real < 18446744073709551616 ∧ t.text.length ≤ n
theorem z64 : (0 : Nat) < 18446744073709551616 := by decide
theorem zero_small (n : Nat) : smallT n zeroTok := ⟨by decide, Nat.zero_le _⟩
theorem real_small (n A N M : Nat) (D1 D2 : List UInt8) (below : Bool) : smallT n (realT A N M D1 D2 below).1 := by
  unfold realT
  split
  · split
    · rename_i b hb
      refine ⟨?_, Nat.zero_le _⟩
      unfold realC at hb
      repeat' split at hb
      all_goals first
        | (cases hb; done)
        | (cases hb; exact realBits_lt _ _)
        | (cases hb; decide)
    · exact zero_small n
  · exact zero_small n
theorem refTok_small (l : List UInt8) (A : Nat) (he : (refTok l A).2 = 0) : smallT (l.length + 256) (refTok l A).1 := by
  have ht : ∀ a b : Nat, ((l.drop a).take b).length ≤ l.length + 256 := fun a b => by rw [List.length_take, List.length_drop]; omega
  unfold refTok at he ⊢
  split
  · unfold refName
    split
    · exact zero_small _
    · exact ⟨z64, ht _ _⟩
  · split
    · unfold refNum
      split
      · exact zero_small _
      · split
        · exact real_small _ _ _ _ _ _ _
        · split
          · exact ⟨z64, Nat.zero_le _⟩
          · exact zero_small _
    · split
      · unfold refText
        split
        · rename_i h
          exact ⟨z64, by have := h.2.2; simp only; omega⟩
        · exact zero_small _
      · unfold refMarkT
        split
        · exact ⟨z64, ht _ _⟩
        · split
          · exact ⟨z64, ht _ _⟩
          · exact zero_small _
theorem seqR_small (l : List UInt8) : ∀ (f i : Nat), ∀ t ∈ (seqR f l i).1, smallT (l.length + 256) t
  | 0, i, t, h => by unfold seqR at h; cases h
  | f + 1, i, t, h => by
    rw [seqR_S] at h
    unfold seqS at h
    split at h
    · cases h
    · split at h
      · cases h
      · rename_i h1 h2
        rcases List.mem_cons.1 h with rfl | h3
        · exact refTok_small l _ (Classical.not_not.1 h2)
        · exact seqR_small l f _ t h3
theorem allR_small (l : List UInt8) : ∀ t ∈ (allR l).1, smallT 33024 t := by
  intro t h
  unfold allR at h
  split at h
  · cases h
  · rename_i hl
    have := seqR_small l _ _ t h
    exact ⟨this.1, by have := this.2; omega⟩
theorem allR_few (l : List UInt8) : (allR l).1.length ≤ 32768 := by
  unfold allR
  split
  · exact Nat.zero_le _
  · have := seqR_few (l := l) (l.length + 1) 0 (Nat.zero_le _)
    omega
/-- the tokens of a text, as the readers have them -/
def toksL (l : List UInt8) : List TokE := (allR l).1.map tokE
theorem toksL_len (l : List UInt8) : (toksL l).length = (allR l).1.length := List.length_map ..
theorem toksL_few (l : List UInt8) : (toksL l).length ≤ 32768 := by rw [toksL_len]; exact allR_few l
theorem toksL_at {l : List UInt8} {i : Nat} (h : i < (toksL l).length) : ∃ x ∈ (allR l).1, (allR l).1[i]? = some x ∧ (toksL l).getD i default = tokE x := by
  rw [toksL_len] at h
  refine ⟨_, List.getElem_mem h, List.getElem?_eq_getElem h, ?_⟩
  unfold toksL
  rw [List.getD_eq_getElem?_getD, List.getElem?_map, List.getElem?_eq_getElem h]
  rfl
theorem toksL_real (l : List UInt8) (i : Nat) : ((toksL l).getD i default).rl < 18446744073709551616 := by
  rcases Nat.lt_or_ge i (toksL l).length with h | h
  · obtain ⟨x, hx, _, e⟩ := toksL_at h
    rw [e]
    exact (allR_small l x hx).1
  · rw [List.getD_eq_getElem?_getD, List.getElem?_eq_none h]
    decide
theorem toksL_size (l : List UInt8) (i : Nat) : ((toksL l).getD i default).tx.size ≤ 140737488351232 := by
  rcases Nat.lt_or_ge i (toksL l).length with h | h
  · obtain ⟨x, hx, _, e⟩ := toksL_at h
    rw [e]
    have := (allR_small l x hx).2
    show x.text.toArray.size ≤ _
    simp
    omega
  · rw [List.getD_eq_getElem?_getD, List.getElem?_eq_none h]
    decide
/-- a row of tokens, as the readers have them -/
theorem toks_own {w : World} {base N : Nat} {e : TypeId} {v : Value} {l : List UInt8} (hN : (allR l).1.length = N) (h : w.ownsRow base e 6 v N (flatR (allR l).1)) :
    ∃ a c, v = .slice a (toksL l).length c ∧ Toks w a (toksL l) ∧ (∀ x, a = some x → ∀ n, base ≤ (x.add n).block ∧ (x.add n).block < w.heap.size) := by
  have hlen := toksL_len l
  rcases Nat.eq_zero_or_pos N with h0 | h0
  · rcases h.2 with ⟨he, _⟩ | ⟨g, cap, cur, he, hb, hgg, _⟩
    · refine ⟨none, 0, by rw [he, hlen, hN, h0], fun i hi => by omega, fun x hx => by cases hx⟩
    · refine ⟨_, _, by rw [he, hlen, hN], fun i hi => by omega, fun x hx n => ?_⟩
      cases hx
      rw [show ((⟨g, 0, none⟩ : Addr).add n).block = g by unfold Addr.add; split <;> rfl]
      exact ⟨hb, lt_of_block hgg⟩
  · obtain ⟨g, c, he, hb, hl, hc⟩ := etok_row hN h h0
    have hadd : ∀ n, (⟨g, 0, none⟩ : Addr).add n = ⟨g, n, none⟩ := fun n => by unfold Addr.add; split <;> simp_all
    refine ⟨_, _, by rw [he, hlen, hN], fun i hi => ?_, fun x hx n => ?_⟩
    · obtain ⟨x, _, hx, e1⟩ := toksL_at hi
      refine ⟨_, rfl, ?_⟩
      rw [hadd, e1]
      exact ⟨hc i 0 x _ hx rfl, hc i 1 x _ hx rfl, hc i 2 x _ hx rfl, hc i 3 x _ hx rfl, hc i 4 x _ hx rfl, hc i 5 x _ hx rfl⟩
    · cases hx
      rw [hadd]
      exact ⟨hb, hl⟩
end Go.Proofs.YtddeoemkjedonaaGreatDoor
