/- Reading stays within the tokens; the tokens of a text. -/
import Derived.Test.YtddeoemkjedonaaDoorMExPlain
import Derived.Test.YtddeoemkjedonaaDoorMNextPlain
namespace Go.Proofs.YtddeoemkjedonaaDoor
open Go.RowKit

def inR (N : Nat) : Rs → Prop
  | .ok _ q => q ≤ N
  | .bad q => q ≤ N
theorem gL_no {L : List TokE} {k : Nat} (h : ¬ k < L.length) : gL L k = .no := by unfold gL; rw [if_neg h]
theorem isM_lt {L : List TokE} {k : Nat} {s : List UInt8} (h : isM (gL L k) s = true) : k < L.length := by
  rcases Nat.lt_or_ge k L.length with h' | h'
  · exact h'
  · rw [gL_no (by omega)] at h; cases h
theorem thenR_in {N : Nat} {o : Option Rs} {k : Ex → Nat → Option Rs} {r : Rs} (h : thenR o k = some r) (h1 : ∀ x, o = some x → inR N x) (h2 : ∀ a q, q ≤ N → k a q = some r → inR N r) : inR N r := by
  unfold thenR at h
  cases ho : o with
  | none => rw [ho] at h; cases h
  | some x =>
    rw [ho] at h
    have hx := h1 x ho
    cases x with
    | ok a e => exact h2 a e hx h
    | bad e => cases h; exact hx
theorem rd_in (L : List TokE) : ∀ (f : Nat) (X : Nt) (p : Nat) (r : Rs), (∀ n a, X = .loop n a → 1 ≤ n) → (∀ n, X = .lvl n → 1 ≤ n) → p ≤ L.length → rd (gL L) f X p = some r → inR L.length r := by
  intro f
  induction f with
  | zero => intro X p r _ _ _ h; unfold rd at h; cases h
  | succ f ih =>
    intro X p r hl hv hp h
    have ih1 : ∀ n p r, 1 ≤ n → p ≤ L.length → rd (gL L) f (.lvl n) p = some r → inR L.length r := fun n p r hn hp h => ih _ _ _ (fun _ _ e => by cases e) (fun _ e => by cases e; exact hn) hp h
    cases X with
    | lvl n =>
      have hn := hv n rfl
      rw [rd] at h
      split at h
      · cases hg : gL L p with
        | leaf l =>
          rw [hg] at h
          have hlt : p < L.length := by
            rcases Nat.lt_or_ge p L.length with h' | h'
            · exact h'
            · rw [gL_no (by omega)] at hg; cases hg
          cases h
          exact hlt
        | mark s =>
          rw [hg] at h
          have hlt : p < L.length := by
            rcases Nat.lt_or_ge p L.length with h' | h'
            · exact h'
            · rw [gL_no (by omega)] at hg; cases hg
          simp only at h
          split at h
          · refine thenR_in h (fun x hx => ih1 1 _ _ (by omega) hlt hx) (fun a q hq hk => ?_)
            split at hk
            · rename_i hm; cases hk; exact isM_lt hm
            · cases hk; exact hq
          · cases h; exact hp
        | word k =>
          rw [hg] at h
          have hlt : p < L.length := by
            rcases Nat.lt_or_ge p L.length with h' | h'
            · exact h'
            · rw [gL_no (by omega)] at hg; cases hg
          simp only at h
          split at h
          · rename_i hb
            have hlt2 := isM_lt hb
            refine thenR_in h (fun x hx => ih1 1 _ _ (by omega) hlt2 hx) (fun a q hq hk => ?_)
            split at hk
            · split at hk
              · rename_i hm; cases hk; exact isM_lt hm
              · cases hk; exact hq
            · split at hk
              · rename_i hm
                have hlt3 := isM_lt hm
                refine thenR_in hk (fun x hx => ih1 1 _ _ (by omega) hlt3 hx) (fun b q2 hq2 hk2 => ?_)
                split at hk2
                · rename_i hm2; cases hk2; exact isM_lt hm2
                · cases hk2; exact hq2
              · cases hk; exact hq
          · cases h; exact hlt
        | no => rw [hg] at h; cases h; exact hp
      · split at h
        · split at h
          · exact ih1 _ _ _ (by omega) hp h
          · rename_i hs
            have hlt : p < L.length := by
              rcases Nat.lt_or_ge p L.length with h' | h'
              · exact h'
              · rw [gL_no (by omega)] at hs; exact absurd rfl hs
            exact thenR_in h (fun x hx => ih1 6 _ _ (by omega) hlt hx) (fun a q hq hk => by cases hk; exact hq)
        · exact thenR_in h (fun x hx => ih1 _ _ _ (by omega) hp hx) (fun a q hq hk => ih _ _ _ (fun _ _ e => by cases e; exact hn) (fun _ e => by cases e) hq hk)
    | loop n a =>
      have hn := hl n a rfl
      rw [rd] at h
      split at h
      · rename_i hop
        have hlt : p < L.length := by
          rcases Nat.lt_or_ge p L.length with h' | h'
          · exact h'
          · rw [gL_no (by omega)] at hop
            have e0 : opL (clK .no) = 0 := rfl
            omega
        refine thenR_in h (fun x hx => ih1 _ _ _ (by omega) hlt hx) (fun b q hq hk => ?_)
        split at hk
        · cases hk; exact hq
        · exact ih _ _ _ (fun _ _ e => by cases e; exact hn) (fun _ e => by cases e) hq hk
      · cases h; exact hp
theorem Rd.bad_le {L : List TokE} {n p q : Nat} (hn : 1 ≤ n) (hp : p ≤ L.length) (h : Rd (gL L) (.lvl n) p (.bad q)) : q ≤ L.length := by
  obtain ⟨f, hf⟩ := h
  exact rd_in L f _ _ _ (fun _ _ e => by cases e) (fun _ e => by cases e; exact hn) hp hf
theorem Rd.ok_le {L : List TokE} {n p q : Nat} {t : Ex} (hn : 1 ≤ n) (hp : p ≤ L.length) (h : Rd (gL L) (.lvl n) p (.ok t q)) : q ≤ L.length := by
  obtain ⟨f, hf⟩ := h
  exact rd_in L f _ _ _ (fun _ _ e => by cases e) (fun _ e => by cases e; exact hn) hp hf
/-- a token as the reader has it -/
def tokE (t : Tok) : TokE := ⟨t.kind, ⟨t.text.toArray⟩, t.int, t.real, t.at_, t.size⟩
end Go.Proofs.YtddeoemkjedonaaDoor
