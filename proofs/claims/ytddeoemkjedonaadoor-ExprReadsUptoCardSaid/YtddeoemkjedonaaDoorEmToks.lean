/- The law's copy of the tokens. -/
import Derived.Test.YtddeoemkjedonaaDoorErRead
namespace Go.Proofs.YtddeoemkjedonaaDoor
open Go.RowKit Go.Shelf
set_option maxRecDepth 100000

def flatE (L : List TokE) : List Value := L.flatMap tkC
def markE : TokE := ⟨-7, ⟨#[]⟩, 0, 0, 0, 0⟩
theorem flatE_snoc (L : List TokE) (t : TokE) : flatE (L ++ [t]) = flatE L ++ tkC t := by simp [flatE]
theorem flatE_len : ∀ L : List TokE, (flatE L).length = L.length * 6
  | [] => rfl
  | t :: L => by
    have : flatE (t :: L) = tkC t ++ flatE L := rfl
    rw [this, List.length_append, flatE_len L]
    simp [tkC]
    omega
theorem flatE_at : ∀ (xs : List TokE) (k j : Nat) (x : TokE), xs[k]? = some x → j < 6 → (flatE xs)[k * 6 + j]? = (tkC x)[j]?
  | [], k, j, x, h, _ => by simp at h
  | y :: ys, 0, j, x, h, hj => by
    simp at h; subst h
    have : (tkC y).length = 6 := rfl
    unfold flatE
    rw [List.flatMap_cons, List.getElem?_append_left (by omega)]
    simp
  | y :: ys, k + 1, j, x, h, hj => by
    have hl : (tkC y).length = 6 := rfl
    have := flatE_at ys k j x (by simpa using h) hj
    unfold flatE at this ⊢
    rw [List.flatMap_cons, List.getElem?_append_right (by omega), hl]
    rw [show (k + 1) * 6 + j - 6 = k * 6 + j by omega]
    exact this
theorem infoL : (Tryd.prog.info? 35).map (fun i => (i.zero, i.size, i.bytes)) = some (some (.agg #[.int .i64 0, .string ⟨#[]⟩, .int .i64 0, .float .f64 0, .int .i64 0, .int .i64 0]), 6, 56) := by kernel_rfl
theorem tk_one (t : TokE) : ∀ u ∈ tkC t, u.oneCell' = true := by
  intro u hu
  simp [tkC] at hu
  rcases hu with rfl | rfl | rfl | rfl | rfl | rfl <;> rfl
theorem takeE_snoc (L : List TokE) (k : Nat) (h : k < L.length) : L.take (k + 1) = L.take k ++ [L.getD k default] := by
  rw [List.take_add_one, List.getElem?_eq_getElem h, List.getD_eq_getElem?_getD, List.getElem?_eq_getElem h]
  rfl
theorem row_cap {w : World} {base n c g : Nat} {e : TypeId} {xs : List Value} {s : Nat} (h : w.ownsRow base e s (.slice (some ⟨g, 0, none⟩) n c) n xs) : n ≤ c ∧ c ≤ maxLen := by
  rcases h.2 with ⟨h', _⟩ | ⟨_, _, _, he, _, _, h1, h2, _⟩
  · cases h'
  · cases he
    exact ⟨h1, h2⟩
def ToksD (L : List TokE) (w : World) (e : Ending) (w' : World) : Prop :=
  ∃ g c, e = .returned (.slice (some ⟨g, 0, none⟩) L.length c) ∧ L.length + 1 ≤ c ∧ c ≤ maxLen ∧ w.heap.size ≤ g ∧ g < w'.heap.size ∧ w'.ownsRow w.heap.size 35 6 (.slice (some ⟨g, 0, none⟩) (L.length + 1) c) (L.length + 1) (flatE (L ++ [markE])) ∧ Below w.heap.size w w'
set_option maxHeartbeats 4000000 in
theorem etokens_any (a : Option Addr) (cap : Nat) (L : List TokE) (w : World) (hT : Toks w a L) (low : ∀ x, a = some x → ∀ n, (x.add n).block < w.heap.size) (hlen : L.length ≤ 1000000) :
    Calls Tryd.prog 4 #[.slice a L.length cap] w (ToksD L w) := by
  obtain ⟨i0, hi, hz0, hz1, hz2⟩ := info_parts3 infoL
  have sf := store_float
  have HT := Lib.hid hT
  have HLW := Lib.hid low
  unfold ToksD
  obtain ⟨N, hN⟩ : ∃ N, N = L.length := ⟨_, rfl⟩
  rw [← hN] at hlen ⊢
  have HN := Lib.hid hN
  clear hT low hN
  go_enter Tryd.func4, Tryd.ntmps4
  go_wp2
  go_loopw [3, 4] (fun v i wr => ∃ k : Nat, i = .int .i64 k ∧ k ≤ N ∧ Hid (wr.ownsRow w.heap.size 35 6 v k (flatE (L.take k))) ∧ Hid (Below w.heap.size w wr)) (fun _ i _ => N - (intOf i).toNat)
  case atStart => exact ⟨0, rfl, Nat.zero_le _, Lib.hid (World.ownsRow_nil _ _ _ _), Lib.hid (Below.refl _ _)⟩
  case round =>
    obtain ⟨k, rfl, hk, HR, HB⟩ := hrel
    rcases Nat.lt_or_ge k N with hlt | hge
    · have hkl : k < L.length := by have := HN.out; omega
      obtain ⟨x, hax, t0, t1, t2, t3, t4, t5⟩ := HT.out k hkl
      have hl := HLW.out x hax (k * 6)
      have hts := takeE_snoc L k hkl
      subst hax
      generalize L.getD k default = t at t0 t1 t2 t3 t4 t5 hts
      have s0 := (HB.out.cell hl).trans t0
      have s1 := (HB.out.cell (p := ⟨(x.add (k * 6)).block, _, none⟩) hl).trans t1
      have s2 := (HB.out.cell (p := ⟨(x.add (k * 6)).block, _, none⟩) hl).trans t2
      have s3 := (HB.out.cell (p := ⟨(x.add (k * 6)).block, _, none⟩) hl).trans t3
      have s4 := (HB.out.cell (p := ⟨(x.add (k * 6)).block, _, none⟩) hl).trans t4
      have s5 := (HB.out.cell (p := ⟨(x.add (k * 6)).block, _, none⟩) hl).trans t5
      have HTS := Lib.hid hts
      have hzr := HB.out.size
      clear t0 t1 t2 t3 t4 t5 hts
      go_upto_region 6 with (fail)
      obtain ⟨W1, hW1⟩ : ∃ W1, W1 = wr.alloc (.cells #[.int .i64 t.kd, .string t.tx, .int .i64 t.iv, .float .f64 t.rl, .int .i64 t.pl, .int .i64 t.sz] 36) := ⟨_, rfl⟩
      have hx : Bx W1 wr.heap.size 36 (tkC t) := by rw [hW1]; exact Bx.new wr _ (tkC t)
      have hb1 : Below wr.heap.size wr W1 := by rw [hW1]; exact (Below.refl _ wr).alloc (Nat.le_refl _) _
      rw [← hW1]
      have HR1 := Lib.hid (own_keep HR.out hb1 (Nat.le_refl _))
      have HB1 := Lib.hid (HB.out.trans (hb1.mono hzr))
      have x0 := hx.c 0 rfl
      have x1 := hx.c 1 rfl
      have x2 := hx.c 2 rfl
      have x3 := hx.c 3 rfl
      have x4 := hx.c 4 rfl
      have x5 := hx.c 5 rfl
      have hz1' := HB1.out.size
      clear hx hb1 hW1 s0 s1 s2 s3 s4 s5
      go_wp2_with (at_builtin; refine wpList_append_lies _ rfl (.tmp 16) (.tmp 30) 23 rfl w.heap.size 35 i0 (.agg #[.int .i64 0, .string ⟨#[]⟩, .int .i64 0, .float .f64 0, .int .i64 0, .int .i64 0]) 6 56 Tryd.underlying23 hi hz0 hz1 hz2 rfl (by decide) _ _ _ rfl (HR1.out.alloc (.cells (tkC t).toArray 35)) ⟨W1.heap.size, 0, none⟩ 1 1 (tkC t) rfl rfl (cells_laid W1 (tkC t) 35) (tk_one t) (by decide) (by unfold maxLen; omega) (by omega) (by simp; omega) _ rfl ?_; intro g cap' w7 hown hgrow hat hlt; have HOW := Lib.hid hown; have HB7 := Lib.hid ((HB1.out.alloc hz1' (.cells (tkC t).toArray 35)).grown hgrow (by simp; omega) (fun b hb => (HR1.out.lt b hb).1)); clear hown hgrow hat hlt)
      go_roundw
      case rel => exact ⟨k + 1, by go_num, hlt, Lib.hid (by rw [HTS.out, flatE_snoc]; exact HOW.out), HB7⟩
      case measure => simp [intOf]; omega
    · obtain rfl : k = N := by omega
      have HR1 := HR
      have hzr := HB.out.size
      go_upto_region 7 with (fail)
      go_wp2_with (at_builtin; refine wpList_append_lies _ rfl (.tmp 32) (.tmp 34) 23 rfl w.heap.size 35 i0 (.agg #[.int .i64 0, .string ⟨#[]⟩, .int .i64 0, .float .f64 0, .int .i64 0, .int .i64 0]) 6 56 Tryd.underlying23 hi hz0 hz1 hz2 rfl (by decide) _ _ _ rfl (HR1.out.alloc (.cells (tkC markE).toArray 35)) ⟨wr.heap.size, 0, none⟩ 1 1 (tkC markE) rfl rfl (cells_laid wr (tkC markE) 35) (tk_one markE) (by decide) (by unfold maxLen; omega) (by omega) (by simp; omega) _ rfl ?_; intro g cap' w7 hown hgrow hat hlt; have hcc := row_cap hown; have HOW := Lib.hid hown; have HGR := Lib.hid hgrow; have HLT := Lib.hid hlt; clear hown hgrow hat hlt)
      have HB7 := Lib.hid ((HB.out.alloc hzr (.cells (tkC markE).toArray 35)).grown HGR.out (by simp; omega) (fun b hb => (HR1.out.lt b hb).1))
      have HOW2 : Hid (w7.ownsRow w.heap.size 35 6 (.slice (some ⟨g, 0, none⟩) (k + 1) cap') (k + 1) (flatE (L ++ [markE]))) := Lib.hid (by
        have h := HOW.out
        rw [HN.out, List.take_length, ← flatE_snoc, ← HN.out] at h
        exact h)
      clear HOW HGR
      go_ret
      exact ⟨g, cap', rfl, hcc.1, hcc.2, (HOW2.out.lt g rfl).1, HLT.out, HOW2.out, HB7.out⟩
/-- the copy, read -/
theorem toks_copy {w : World} {base g n c : Nat} {L : List TokE} (hn : L.length + 1 = n) (h : w.ownsRow base 35 6 (.slice (some ⟨g, 0, none⟩) n c) n (flatE (L ++ [markE]))) :
    Toks w (some ⟨g, 0, none⟩) L ∧ w.cell? ⟨g, L.length * 6, none⟩ = some (.int .i64 (-7)) := by
  have hadd : ∀ n, (⟨g, 0, none⟩ : Addr).add n = ⟨g, n, none⟩ := fun n => by unfold Addr.add; split <;> simp_all
  have hc : ∀ (i j : Nat) (t : TokE) (u : Value), (L ++ [markE])[i]? = some t → (tkC t)[j]? = some u → w.cell? ⟨g, i * 6 + j, none⟩ = some u := fun i j t u hi hj => by
    have hj6 : j < 6 := by obtain ⟨h, _⟩ := List.getElem?_eq_some_iff.1 hj; exact h
    have hil : i < L.length + 1 := by obtain ⟨h, _⟩ := List.getElem?_eq_some_iff.1 hi; simpa using h
    rw [h.cellAt (i * 6 + j) (by omega), flatE_at _ i j t hi hj6]
    exact hj
  refine ⟨fun i hi => ⟨_, rfl, ?_⟩, ?_⟩
  · have ht : (L ++ [markE])[i]? = some (L.getD i default) := by
      rw [List.getElem?_append_left hi, List.getElem?_eq_getElem hi, List.getD_eq_getElem?_getD, List.getElem?_eq_getElem hi]
      rfl
    rw [hadd]
    exact ⟨hc i 0 _ _ ht rfl, hc i 1 _ _ ht rfl, hc i 2 _ _ ht rfl, hc i 3 _ _ ht rfl, hc i 4 _ _ ht rfl, hc i 5 _ _ ht rfl⟩
  · exact hc L.length 0 markE _ (by simp) rfl
end Go.Proofs.YtddeoemkjedonaaDoor
