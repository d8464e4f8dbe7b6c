/- The reference's marks: is, bad, must, one. -/
import Derived.Test.YtddeoemkjedonaaDoorErNext
import Derived.Test.YtddeoemkjedonaaDoorMErPlain
import Derived.Deep.LoopGhost
namespace Go.Proofs.YtddeoemkjedonaaDoor
open Go.RowKit Go.Shelf
set_option maxRecDepth 100000

theorem clT_mark {t : TokE} {s : List UInt8} (h : t.kd ≠ 5) : isM (clT t) s = false := by
  unfold clT
  rw [if_neg h]
  repeat' split
  all_goals rfl
theorem isM_tok {L : List TokE} {k : Nat} (hk : k < L.length) (s : List UInt8) : isM (gL L k) s = (decide ((L.getD k default).kd = 5) && ((L.getD k default).tx.data.toList == s)) := by
  unfold gL
  rw [if_pos hk]
  by_cases h : (L.getD k default).kd = 5
  · rw [decide_eq_true h]
    unfold clT
    rw [if_pos h]
    rfl
  · rw [clT_mark h, decide_eq_false h]
    rfl
set_option maxHeartbeats 2000000 in
theorem ris_any (p cap k : Nat) (bad : Int) (a : Option Addr) (L : List TokE) (m : ByteArray) (w : World) (h : RSt w p cap a L k bad) :
    Calls Tryd.prog 34 #[.pointer (some ⟨p, 0, none⟩), .string m] w fun e w' => e = .returned (.bool (isM (gL L k) m.data.toList)) ∧ Below w.heap.size w w' := by
  have HN := Lib.hid (rnext_any p cap k bad a L w h)
  have sf := store_float
  have hne : 0 = 0 := rfl
  by_cases hg : gL L k = .no
  · have hm : isM (gL L k) m.data.toList = false := by rw [hg]; rfl
    rw [hm]
    have HG := Lib.hid hg
    clear hg hm h
    go_enter Tryd.func34, Tryd.ntmps34
    go_wp2_with (go_at_call 28; refine HN.out.mono ?_; rintro e w1 ⟨hc, hb⟩; rcases hc with ⟨_, rfl⟩ | ⟨hx, _, _⟩; rotate_left; (exact absurd HG.out hx); have HB := Lib.hid (hb.alloc hb.size (.cells zTok.toArray 36)); clear hb; unfold zTok)
    go_ret
    exact ⟨rfl, HB.out⟩
  · have hk : k < L.length := by
      rcases Nat.lt_or_ge k L.length with h' | h'
      · exact h'
      · exact absurd (by unfold gL; rw [if_neg (by omega)]) hg
    have hm := isM_tok hk m.data.toList
    have HG := Lib.hid hg
    rw [hm]
    unfold NextD tkC at HN
    clear hg hm h hk
    generalize L.getD k default = t at HN ⊢
    cases hb5 : decide (t.kd = 5) with
    | false =>
      have d5 : (t.kd == 5) = false := beq_eq_false_iff_ne.2 (of_decide_eq_false hb5)
      clear hb5
      go_enter Tryd.func34, Tryd.ntmps34
      go_wp2_with (go_at_call 28; refine HN.out.mono ?_; rintro e w1 ⟨hc, hb⟩; rcases hc with ⟨hx, _⟩ | ⟨_, _, rfl⟩; (exact absurd hx HG.out); have HB := Lib.hid (hb.alloc hb.size (.cells #[.int .i64 t.kd, .string t.tx, .int .i64 t.iv, .float .f64 t.rl, .int .i64 t.pl, .int .i64 t.sz] 36)); clear hb)
      go_ret
      exact ⟨rfl, HB.out⟩
    | true =>
      have d5 : (t.kd == 5) = true := beq_iff_eq.2 (of_decide_eq_true hb5)
      clear hb5
      cases hbt : (t.tx.data.toList == m.data.toList) with
      | false =>
        have e1 : (t.tx.toList == m.toList) = false := by rw [tl_dat, tl_dat]; exact hbt
        clear hbt
        go_enter Tryd.func34, Tryd.ntmps34
        go_wp2_with (go_at_call 28; refine HN.out.mono ?_; rintro e w1 ⟨hc, hb⟩; rcases hc with ⟨hx, _⟩ | ⟨_, _, rfl⟩; (exact absurd hx HG.out); have HB := Lib.hid (hb.alloc hb.size (.cells #[.int .i64 t.kd, .string t.tx, .int .i64 t.iv, .float .f64 t.rl, .int .i64 t.pl, .int .i64 t.sz] 36)); clear hb)
        go_ret
        exact ⟨rfl, HB.out⟩
      | true =>
        have e1 : (t.tx.toList == m.toList) = true := by rw [tl_dat, tl_dat]; exact hbt
        clear hbt
        go_enter Tryd.func34, Tryd.ntmps34
        go_wp2_with (go_at_call 28; refine HN.out.mono ?_; rintro e w1 ⟨hc, hb⟩; rcases hc with ⟨hx, _⟩ | ⟨_, _, rfl⟩; (exact absurd hx HG.out); have HB := Lib.hid (hb.alloc hb.size (.cells #[.int .i64 t.kd, .string t.tx, .int .i64 t.iv, .float .f64 t.rl, .int .i64 t.pl, .int .i64 t.sz] 36)); clear hb)
        go_ret
        exact ⟨rfl, HB.out⟩
/-- a token cannot stand -/
theorem rbad_any (p cap k : Nat) (a : Option Addr) (L : List TokE) (w : World) (h : RSt w p cap a L k (-1)) :
    Calls Tryd.prog 29 #[.pointer (some ⟨p, 0, none⟩)] w fun e w' => e = .returned (.pointer none) ∧ w' = w.setCell ⟨p, 2, none⟩ (.int .i64 k) := by
  have c1 := h.rdr.c1
  have c2 := h.rdr.c2
  have fz := h.rdr.fz (o := 2)
  clear h
  go_enter Tryd.func29, Tryd.ntmps29
  go_wp2
  go_ret
  exact ⟨rfl, rfl⟩
/-- a mark that must be next -/
def MustD (p cap k : Nat) (a : Option Addr) (L : List TokE) (m : List UInt8) (w : World) (e : Ending) (w' : World) : Prop :=
  ((isM (gL L k) m = false ∧ e = .returned (.bool false) ∧ RSt w' p cap a L k k) ∨ (isM (gL L k) m = true ∧ e = .returned (.bool true) ∧ RSt w' p cap a L (k + 1) (-1))) ∧ Below p w w' ∧ Oth p w w'
set_option maxHeartbeats 1000000 in
theorem must_any (p cap k : Nat) (a : Option Addr) (L : List TokE) (m : ByteArray) (w : World) (h : RSt w p cap a L k (-1)) :
    Calls Tryd.prog 30 #[.pointer (some ⟨p, 0, none⟩), .string m] w (MustD p cap k a L m.data.toList w) := by
  have HI := Lib.hid (ris_any p cap k (-1) a L m w h)
  have HH := Lib.hid h
  have hplt := h.rdr.lt
  have hkl : isM (gL L k) m.data.toList = true → k < L.length := fun hi => by
    rcases Nat.lt_or_ge k L.length with h' | h'
    · exact h'
    · unfold gL at hi; rw [if_neg (by omega)] at hi; cases hi
  unfold MustD
  clear h
  cases hb : isM (gL L k) m.data.toList with
  | false =>
    rw [hb] at HI
    clear hb hkl
    go_enter Tryd.func30, Tryd.ntmps30
    go_wp2_with (first | (go_at_call 34; refine HI.out.mono ?_; rintro e w1 ⟨rfl, hb1⟩; have HS := Lib.hid (HH.out.below hb1); have HB := Lib.hid hb1; clear hb1) | (go_at_call 29; refine (rbad_any p cap k a L _ HS.out).mono ?_; rintro e w2 ⟨rfl, rfl⟩))
    go_ret
    exact ⟨.inl ⟨by first | rfl | trivial, rfl, HS.out.mark k⟩, (HB.out.mono (Nat.le_of_lt hplt)).setCell (Nat.le_refl p) _, (Oth.of_below HB.out).set 2 _⟩
  | true =>
    have hk := hkl hb
    rw [hb] at HI
    clear hb hkl
    go_enter Tryd.func30, Tryd.ntmps30
    go_wp2_with (first | (go_at_call 34; refine HI.out.mono ?_; rintro e w1 ⟨rfl, hb1⟩; have HS := Lib.hid (HH.out.below hb1); have HB := Lib.hid hb1; have c1 := HS.out.rdr.c1; have fz := HS.out.rdr.fz (o := 1); have hlen := HS.out.len; clear hb1))
    rw [show (k : Int) + 1 = ((k + 1 : Nat) : Int) from rfl]
    go_ret
    exact ⟨.inr ⟨by first | rfl | trivial, rfl, HS.out.move (k + 1) (by omega)⟩, (HB.out.mono (Nat.le_of_lt hplt)).setCell (Nat.le_refl p) _, (Oth.of_below HB.out).set 1 _⟩
set_option maxHeartbeats 2000000 in
/-- the operator of a level that is next -/
theorem one_any (p cap k n : Nat) (a : Option Addr) (L : List TokE) (w : World) (h1 : 1 ≤ n) (h6 : n ≤ 6) (h : RSt w p cap a L k (-1)) :
    Calls Tryd.prog 21 #[.pointer (some ⟨p, 0, none⟩), .int .i64 n] w fun e w' => e = .returned (.int .i64 (oneK n (gL L k))) ∧ Below w.heap.size w w' := by
  have HO := Lib.hid (operators_any n h1 h6 w)
  have HH := Lib.hid h
  rw [← firstM_one n h1 h6]
  have hl := ops_len n
  have hl6 := opsK_six n
  unfold OpsD at HO
  generalize opsT n = T at *
  generalize opsK n = K at *
  obtain ⟨N, hN⟩ : ∃ N, N = T.length := ⟨_, rfl⟩
  rw [← hN] at HO hl
  rw [← hl] at HO hl6
  have HN := Lib.hid hN
  have HL := Lib.hid hl
  clear hN hl h
  go_enter Tryd.func21, Tryd.ntmps21
  go_wp2_with (go_at_call 33; refine HO.out.mono ?_; rintro e w1 ⟨g, c, g2, c2, rfl, hs, hk, hb, hg, hg2, hl1, hl2⟩; have HS := Lib.hid hs; have HK := Lib.hid hk; have HB1 := Lib.hid hb; have HL1 := Lib.hid (And.intro hl1 hl2); clear hs hk hb hg hg2 hl1 hl2)
  go_loopw [7] (fun v wr => ∃ i : Nat, v = .int .i64 i ∧ i ≤ N ∧ Hid (Below w1.heap.size w1 wr) ∧ Hid (∀ (j : Nat) (s' : List UInt8), j < i → T[j]? = some s' → isM (gL L k) s' = false)) (fun v _ => N - (intOf v).toNat)
  case atStart => exact ⟨0, rfl, by omega, Lib.hid (Below.refl _ _), Lib.hid fun j s' hj => absurd hj (by omega)⟩
  case round =>
    obtain ⟨i, rfl, hi, HBR, HNO⟩ := hrel
    rcases Nat.lt_or_ge i N with hlt | hge
    · obtain ⟨t, ht⟩ : ∃ t, T[i]? = some t := ⟨_, List.getElem?_eq_getElem (by rw [← HN.out]; exact hlt)⟩
      obtain ⟨q, hq⟩ : ∃ q, K[i]? = some q := ⟨_, List.getElem?_eq_getElem (by rw [← HL.out]; exact hlt)⟩
      have c0 : wr.cell? ⟨g, i, none⟩ = some (.string ⟨t.toArray⟩) := (HBR.out.cell (p := ⟨g, i, none⟩) HL1.out.1).trans (HS.out i t ht)
      have HT := Lib.hid ht
      have HQ := Lib.hid hq
      have HI := Lib.hid (ris_any p cap k (-1) a L ⟨t.toArray⟩ wr ((HH.out.below HB1.out).below HBR.out))
      have hmt : (⟨t.toArray⟩ : ByteArray).data.toList = t := rfl
      rw [hmt] at HI
      clear ht hq hmt
      cases hb : isM (gL L k) t with
      | true =>
        have HM : Hid (firstM (gL L k) T K = q) := Lib.hid (firstM_at HT.out HQ.out HNO.out hb)
        rw [hb] at HI
        clear hb
        go_wp2_with (go_at_call 34; refine HI.out.mono ?_; rintro e w2 ⟨rfl, hb2⟩; have HB2 := Lib.hid (HBR.out.trans (hb2.mono HBR.out.size)); clear hb2; have c1 : w2.cell? ⟨g2, i, none⟩ = some (.int .i64 (q : Nat)) := (HB2.out.cell (p := ⟨g2, i, none⟩) HL1.out.2).trans (HK.out i q HQ.out))
        go_ret
        exact ⟨by rw [HM.out]; rfl, HB1.out.trans (HB2.out.mono HB1.out.size)⟩
      | false =>
        have HNO2 := Lib.hid (fun (j : Nat) (s' : List UInt8) (hj : j < i + 1) (hs : T[j]? = some s') => (by
          rcases Nat.lt_or_ge j i with h | h
          · exact HNO.out j s' h hs
          · obtain rfl : j = i := by omega
            have := hs.symm.trans HT.out
            cases this
            exact hb : isM (gL L k) s' = false))
        rw [hb] at HI
        clear hb
        go_wp2_with (go_at_call 34; refine HI.out.mono ?_; rintro e w2 ⟨rfl, hb2⟩; have HB2 := Lib.hid (HBR.out.trans (hb2.mono HBR.out.size)); clear hb2)
        go_roundw
        case rel => exact ⟨i + 1, by go_num, by omega, HB2, HNO2⟩
        case measure => simp [intOf]; omega
    · obtain rfl : i = N := by omega
      have HM : Hid (firstM (gL L k) T K = 0) := Lib.hid (firstM_end fun j s' hs => HNO.out j s' (by obtain ⟨h, _⟩ := List.getElem?_eq_some_iff.1 hs; have := HN.out; omega) hs)
      go_wp2
      go_ret
      exact ⟨by rw [HM.out]; rfl, HB1.out.trans (HBR.out.mono HB1.out.size)⟩
end Go.Proofs.YtddeoemkjedonaaDoor
/- The reference's levels. -/
namespace Go.Proofs.YtddeoemkjedonaaDoor
open Go.RowKit Go.Shelf
set_option maxRecDepth 100000

/-- what the reference's reading tells, at a place -/
def RdT (L : List TokE) (X : Nt) (k p cap : Nat) (a : Option Addr) (w : World) (e : Ending) (w' : World) : Prop :=
  ((∃ q k', Rd (gL L) X k (.bad q) ∧ e = .returned (.pointer none) ∧ RSt w' p cap a L k' (q : Nat)) ∨
   ∃ t q qa, Rd (gL L) X k (.ok t q) ∧ cnt t + k ≤ q ∧ e = .returned (.pointer (some ⟨qa, 0, none⟩)) ∧ RSt w' p cap a L q (-1) ∧ TreeAt w' (w.heap.size - 1) t qa) ∧ Below p w w' ∧ Oth p w w'
theorem TreeAt.mono {w : World} {lo lo2 : Nat} (hl : lo2 ≤ lo) : ∀ {t : Ex} {q : Nat}, TreeAt w lo t q → TreeAt w lo2 t q := by
  intro t
  induction t with
  | lf l => exact fun h => ⟨Nat.lt_of_le_of_lt hl h.1, h.2⟩
  | un k a ih =>
    rintro q ⟨h1, s, c, qa, h2, h3, h4, h5, h6⟩
    exact ⟨by omega, s, c, qa, by omega, h3, h4, h5, ih h6⟩
  | bi k a b iha ihb =>
    rintro q ⟨h1, s, c, qa, qb, h2, h3, h4, h5, h6, h7, h8⟩
    exact ⟨by omega, s, c, qa, qb, by omega, h3, h4, h5, h6, iha h7, ihb h8⟩
theorem TreeAt.oth2 {w w' : World} {lo p q : Nat} {t : Ex} (h : TreeAt w lo t q) (ho : Oth p w w') (hp : p ≤ lo) : TreeAt w' lo t q := h.keep (fun k h1 h2 => ho.2 k h2 (by omega)) ho.1
theorem tree_cell {w : World} {q : Nat} {n : Nd} {kids : Value} (h : Bx w q 69 (trC n kids)) (i : Nat) : w.cell? ⟨q, i, none⟩ = (trC n kids)[i]? := by
  rw [cell_of_row w q i _ _ _ h]
  simp
/-- two new blocks: the children's row, the node -/
theorem un_new {w : World} {p k q : Nat} {t : Ex} (hp : p < w.heap.size) (ht : TreeAt w p t q) (T : TypeId) :
    TreeAt ((w.alloc (.cells #[.pointer (some ⟨q, 0, none⟩)] T)).alloc (.cells (trC (pairN k 0 0) (.slice (some ⟨w.heap.size, 0, none⟩) 1 1)).toArray 69)) p (.un k t) (w.heap.size + 1) := by
  have hs : (w.alloc (.cells #[Value.pointer (some ⟨q, 0, none⟩)] T)).heap.size = w.heap.size + 1 := by simp
  have hb1 : Below w.heap.size w (w.alloc (.cells #[Value.pointer (some ⟨q, 0, none⟩)] T)) := (Below.refl _ w).alloc (Nat.le_refl _) _
  have x1 : Bx (w.alloc (.cells #[Value.pointer (some ⟨q, 0, none⟩)] T)) w.heap.size T [.pointer (some ⟨q, 0, none⟩)] := Bx.new w T [.pointer (some ⟨q, 0, none⟩)]
  generalize w.alloc (.cells #[Value.pointer (some ⟨q, 0, none⟩)] T) = w1 at *
  have x2 := Bx.new w1 69 (trC (pairN k 0 0) (.slice (some ⟨w.heap.size, 0, none⟩) 1 1))
  rw [hs] at x2
  have hb2 : Below (w.heap.size + 1) w1 (w1.alloc (.cells (trC (pairN k 0 0) (.slice (some ⟨w.heap.size, 0, none⟩) 1 1)).toArray 69)) := (Below.refl _ _).alloc (by omega) _
  have hz := hb2.size
  have hlt := x2.lt
  refine ⟨by omega, w.heap.size, 1, q, hp, by omega, x2, ?_, (ht.below hb1).below (hb2.mono (by omega))⟩
  exact (x1.keep hb2 (by omega)).c 0 rfl
theorem bi_new {w : World} {p k qa qb : Nat} {t u : Ex} (hp : p < w.heap.size) (ht : TreeAt w p t qa) (hu : TreeAt w p u qb) (T : TypeId) :
    TreeAt ((w.alloc (.cells #[.pointer (some ⟨qa, 0, none⟩), .pointer (some ⟨qb, 0, none⟩)] T)).alloc (.cells (trC (pairN k 0 0) (.slice (some ⟨w.heap.size, 0, none⟩) 2 2)).toArray 69)) p (.bi k t u) (w.heap.size + 1) := by
  have hs : (w.alloc (.cells #[Value.pointer (some ⟨qa, 0, none⟩), .pointer (some ⟨qb, 0, none⟩)] T)).heap.size = w.heap.size + 1 := by simp
  have hb1 : Below w.heap.size w (w.alloc (.cells #[Value.pointer (some ⟨qa, 0, none⟩), .pointer (some ⟨qb, 0, none⟩)] T)) := (Below.refl _ w).alloc (Nat.le_refl _) _
  have x1 : Bx (w.alloc (.cells #[Value.pointer (some ⟨qa, 0, none⟩), .pointer (some ⟨qb, 0, none⟩)] T)) w.heap.size T [.pointer (some ⟨qa, 0, none⟩), .pointer (some ⟨qb, 0, none⟩)] := Bx.new w T [.pointer (some ⟨qa, 0, none⟩), .pointer (some ⟨qb, 0, none⟩)]
  generalize w.alloc (.cells #[Value.pointer (some ⟨qa, 0, none⟩), .pointer (some ⟨qb, 0, none⟩)] T) = w1 at *
  have x2 := Bx.new w1 69 (trC (pairN k 0 0) (.slice (some ⟨w.heap.size, 0, none⟩) 2 2))
  rw [hs] at x2
  have hb2 : Below (w.heap.size + 1) w1 (w1.alloc (.cells (trC (pairN k 0 0) (.slice (some ⟨w.heap.size, 0, none⟩) 2 2)).toArray 69)) := (Below.refl _ _).alloc (by omega) _
  have hz := hb2.size
  have hlt := x2.lt
  refine ⟨by omega, w.heap.size, 2, qa, qb, hp, by omega, x2, ?_, ?_, (ht.below hb1).below (hb2.mono (by omega)), (hu.below hb1).below (hb2.mono (by omega))⟩
  · exact (x1.keep hb2 (by omega)).c 0 rfl
  · exact (x1.keep hb2 (by omega)).c 1 rfl
set_option maxHeartbeats 2000000 in
theorem rlevel_in (p cap k n : Nat) (a : Option Addr) (L : List TokE) (w : World) (h1 : 1 ≤ n) (h5 : n ≤ 5) (hpw : p < w.heap.size) (hcap : L.length ≤ 1000000000000)
    (hN : Calls Tryd.prog 11 #[.pointer (some ⟨p, 0, none⟩), .int .i64 ((n + 1 : Nat) : Int)] w (RdT L (.lvl (n + 1)) k p cap a w))
    (hL : ∀ (k' n' : Nat) (W : World), k < k' → 1 ≤ n' → n' ≤ 7 → RSt W p cap a L k' (-1) → Calls Tryd.prog 11 #[.pointer (some ⟨p, 0, none⟩), .int .i64 n'] W (RdT L (.lvl n') k' p cap a W)) :
    Calls Tryd.prog 11 #[.pointer (some ⟨p, 0, none⟩), .int .i64 n] w (RdT L (.lvl n) k p cap a w) := by
  have HN := Lib.hid hN
  have HL := Lib.hid hL
  clear hN hL
  have d7 : ((n : Int) == 7) = false := beq_eq_false_iff_ne.2 (by omega)
  have d6 : ((n : Int) == 6) = false := beq_eq_false_iff_ne.2 (by omega)
  rw [show ((n + 1 : Nat) : Int) = (n : Int) + 1 from rfl] at HN
  go_enter Tryd.func11, Tryd.ntmps11
  go_wp2_with (go_at_call 11; refine HN.out.mono ?_; rintro e w1 ⟨he, hb, ho⟩; have HB := Lib.hid (And.intro hb ho); clear hb ho; rcases he with ⟨q, k1, hq, rfl, hst⟩ | ⟨t, q, qa, hq, hcq, rfl, hst, htr⟩)
  · have HQ := Lib.hid hq
    have HST := Lib.hid hst
    clear hq hst
    go_loopg [7] 0 (fun gk av wr => av = .pointer none ∧ wr = w1)
    case atStart => exact ⟨rfl, rfl⟩
    case round =>
      obtain ⟨rfl, rfl⟩ := hrel
      go_wp2
      go_ret
      exact ⟨.inl ⟨q, k1, Rd.lvl h1 h5 (.inl ⟨q, HQ.out, rfl⟩), rfl, HST.out⟩, HB.out⟩
  · have HQ := Lib.hid hq
    have HST := Lib.hid hst
    have HTR := Lib.hid htr
    clear hq hst htr
    go_loopg [7] (L.length - q) (fun gk av wr => ∃ (t : Ex) (q qa : Nat), gk = L.length - q ∧ av = .pointer (some ⟨qa, 0, none⟩) ∧ Hid (cnt t + k ≤ q) ∧ Hid (RSt wr p cap a L q (-1)) ∧ Hid (TreeAt wr (w.heap.size - 1) t qa) ∧ Hid (Below p w wr ∧ Oth p w wr) ∧ Hid (∀ r, Rd (gL L) (.loop n t) q r → Rd (gL L) (.lvl n) k r))
    case atStart => exact ⟨t, q, qa, rfl, rfl, Lib.hid hcq, HST, HTR, HB, Lib.hid fun r hr => Rd.lvl h1 h5 (.inr ⟨t, q, HQ.out, hr⟩)⟩
    case round =>
      clear hcq HST HTR HB HQ
      obtain ⟨t, q, qa, rfl, rfl, HC, HST, HTR, HB, HCH⟩ := hrel
      have HO := Lib.hid (one_any p cap q n a L wr h1 (by omega) HST.out)
      have hone : oneK n (gL L q) = if opL (clK (gL L q)) = n then clK (gL L q) else 0 := by unfold oneK; rw [if_neg (by omega)]
      by_cases hop : opL (clK (gL L q)) = n
      · have HOP := Lib.hid hop
        have hK0 : clK (gL L q) ≠ 0 := fun e => by rw [e] at hop; have e0 : opL 0 = 0 := rfl; omega
        have hqL : q < L.length := by
          rcases Nat.lt_or_ge q L.length with h' | h'
          · exact h'
          · exfalso
            exact hK0 (by unfold gL; rw [if_neg (by omega)]; rfl)
        rw [if_pos hop] at hone
        rw [hone] at HO
        obtain ⟨K, hK⟩ : ∃ K, K = clK (gL L q) := ⟨_, rfl⟩
        rw [← hK] at HO hK0
        have dk : ((K : Int) == 0) = false := beq_eq_false_iff_ne.2 (by omega)
        have HK := Lib.hid hK
        clear hone hop hK hK0
        go_upto_region 17 with (go_at_call 21; refine HO.out.mono ?_; rintro e w2 ⟨rfl, hb2⟩; have HB2 := Lib.hid (And.intro (HB.out.1.trans (hb2.mono (Nat.le_of_lt HST.out.rdr.lt))) (HB.out.2.trans (Oth.of_below hb2))); have HS2 := Lib.hid (HST.out.below hb2); have HT2 := Lib.hid (HTR.out.below hb2); clear hb2; have c1 := HS2.out.rdr.c1; have fz := HS2.out.rdr.fz (o := 1); have hlen := HS2.out.len)
        go_upto_region 18 with (fail)
        rw [show (q : Int) + 1 = ((q + 1 : Nat) : Int) from rfl]
        have HMV := Lib.hid (HS2.out.move (q + 1) (by omega))
        have HBM : Hid (Below p w (w2.setCell ⟨p, 1, none⟩ (.int .i64 ((q + 1 : Nat) : Int))) ∧ Oth p w (w2.setCell ⟨p, 1, none⟩ (.int .i64 ((q + 1 : Nat) : Int)))) := Lib.hid ⟨HB2.out.1.setCell (Nat.le_refl p) _, HB2.out.2.set 1 _⟩
        have HTM := Lib.hid (HT2.out.oth2 (p := p) ((Oth.of_below (b := p) (Below.refl _ w2)).set 1 (.int .i64 ((q + 1 : Nat) : Int))) (by omega))
        generalize w2.setCell ⟨p, 1, none⟩ (.int .i64 ((q + 1 : Nat) : Int)) = WM at HMV HBM HTM ⊢
        clear c1 fz HS2 HT2 HB2
        have HV := Lib.hid (HL.out (q + 1) (n + 1) WM (by have := HC.out; have := cnt_pos t; omega) (by omega) (by omega) HMV.out)
        rw [show ((n + 1 : Nat) : Int) = (n : Int) + 1 from rfl] at HV
        go_upto_region 19 with (go_at_call 11; refine HV.out.mono ?_; rintro e w3 ⟨he, hb, ho⟩; have HB3 := Lib.hid (And.intro (HBM.out.1.trans hb) (HBM.out.2.trans ho)); have HT3 := Lib.hid (HTM.out.oth2 ho (by omega)); clear hb ho; rcases he with ⟨qe, k1, hqe, rfl, hst⟩ | ⟨b, q2, qb, hq2, hcq2, rfl, hst2, htr2⟩)
        · have HQ := Lib.hid hqe
          have HST3 := Lib.hid hst
          clear hqe hst
          go_wp2
          go_ret
          exact ⟨.inl ⟨qe, k1, HCH.out _ (Rd.more HOP.out (.inl ⟨qe, HQ.out, rfl⟩)), rfl, HST3.out⟩, HB3.out⟩
        have HQ2 := Lib.hid hq2
        have HST3 := Lib.hid hst2
        have HTB3 : Hid (TreeAt w3 (w.heap.size - 1) b qb) := Lib.hid (htr2.mono (by have := HBM.out.2.1; omega))
        have HC2 := Lib.hid hcq2
        clear hq2 hst2 htr2 hcq2
        go_upto_region 22 with (fail)
        have HTN := Lib.hid (bi_new (k := K) (by have := HB3.out.2.1; omega) HT3.out HTB3.out 47)
        have hb4 : Below w3.heap.size w3 ((w3.alloc (.cells #[.pointer (some ⟨qa, 0, none⟩), .pointer (some ⟨qb, 0, none⟩)] 47)).alloc (.cells (trC (pairN K 0 0) (.slice (some ⟨w3.heap.size, 0, none⟩) 2 2)).toArray 69)) := ((Below.refl _ w3).alloc (Nat.le_refl _) _).alloc (by simp) _
        have HS4 := Lib.hid (HST3.out.below hb4)
        have HB4 := Lib.hid (And.intro (HB3.out.1.trans (hb4.mono (Nat.le_of_lt HST3.out.rdr.lt))) (HB3.out.2.trans (Oth.of_below hb4)))
        clear hb4
        unfold trC pairN at HTN HS4 HB4
        generalize (w3.alloc (.cells #[.pointer (some ⟨qa, 0, none⟩), .pointer (some ⟨qb, 0, none⟩)] 47)).alloc _ = W4 at HTN HS4 HB4 ⊢
        have hct : cnt (.bi K t b) + k ≤ q2 := by
          have h0 := HC.out
          have h2 := HC2.out
          show cnt t + cnt b + 1 + k ≤ q2
          omega
        have HCT := Lib.hid hct
        clear hct
        generalize w3.heap.size + 1 = Q at HTN ⊢
        by_cases h3 : n = 3
        · have H3 := Lib.hid h3
          have d3 : ((n : Int) == 3) = true := beq_iff_eq.2 (by omega)
          clear h3
          go_wp2
          go_ret
          exact ⟨.inr ⟨.bi K t b, q2, Q, HCH.out _ (Rd.more HOP.out (.inr ⟨b, q2, HQ2.out, by simp only; rw [if_pos H3.out, HK.out]⟩)), HCT.out, rfl, HS4.out, HTN.out⟩, HB4.out⟩
        · have H3 := Lib.hid h3
          have d3 : ((n : Int) == 3) = false := beq_eq_false_iff_ne.2 (by omega)
          have HM : Hid (L.length - q2 < L.length - q) := Lib.hid (by have := HC2.out; omega)
          clear h3
          go_wp2
          go_roundg (L.length - q2)
          case measure => exact HM.out
          case rel => exact ⟨.bi K t b, q2, Q, rfl, rfl, HCT, HS4, HTN, HB4, Lib.hid fun r hr => HCH.out _ (Rd.more HOP.out (.inr ⟨b, q2, HQ2.out, by simp only; rw [if_neg H3.out, ← HK.out]; exact hr⟩))⟩
      · rw [if_neg hop] at hone
        rw [hone] at HO
        have HOP := Lib.hid hop
        clear hone hop
        go_wp2_with (go_at_call 21; refine HO.out.mono ?_; rintro e w2 ⟨rfl, hb2⟩; have HB2 := Lib.hid (And.intro (HB.out.1.trans (hb2.mono (Nat.le_of_lt HST.out.rdr.lt))) (HB.out.2.trans (Oth.of_below hb2))); have HS2 := Lib.hid (HST.out.below hb2); have HT2 := Lib.hid (HTR.out.below hb2); clear hb2)
        go_ret
        exact ⟨.inr ⟨t, q, qa, HCH.out _ (Rd.stop HOP.out), HC.out, rfl, HS2.out, HT2.out⟩, HB2.out⟩
end Go.Proofs.YtddeoemkjedonaaDoor
/- The reference's levels 6 and 7. -/
namespace Go.Proofs.YtddeoemkjedonaaDoor
open Go.RowKit Go.Shelf
set_option maxRecDepth 100000

set_option maxHeartbeats 2000000 in
theorem rsix_in (p cap k : Nat) (a : Option Addr) (L : List TokE) (w : World) (hcap : L.length ≤ 1000000000000) (h : RSt w p cap a L k (-1))
    (hN : sgK (gL L k) = 0 → ∀ W, RSt W p cap a L k (-1) → Calls Tryd.prog 11 #[.pointer (some ⟨p, 0, none⟩), .int .i64 7] W (RdT L (.lvl 7) k p cap a W))
    (hL : ∀ (k' n' : Nat) (W : World), k < k' → 1 ≤ n' → n' ≤ 7 → RSt W p cap a L k' (-1) → Calls Tryd.prog 11 #[.pointer (some ⟨p, 0, none⟩), .int .i64 n'] W (RdT L (.lvl n') k' p cap a W)) :
    Calls Tryd.prog 11 #[.pointer (some ⟨p, 0, none⟩), .int .i64 6] w (RdT L (.lvl 6) k p cap a w) := by
  have HN := Lib.hid hN
  have HL := Lib.hid hL
  have HH := Lib.hid h
  have hO := one_any p cap k 6 a L w (by omega) (by omega) h
  have hone : oneK 6 (gL L k) = sgK (gL L k) := rfl
  rw [hone] at hO
  have HO := Lib.hid hO
  clear hN hL h hO hone
  by_cases hs : sgK (gL L k) = 0
  · have HSG := Lib.hid hs
    rw [hs] at HO
    have HV := Lib.hid (HN.out hs)
    clear hs
    go_enter Tryd.func11, Tryd.ntmps11
    go_wp2_with (first
      | (go_at_call 21; refine HO.out.mono ?_; rintro e w2 ⟨rfl, hb2⟩; have HB2 := Lib.hid (And.intro (hb2.mono (Nat.le_of_lt HH.out.rdr.lt)) (Oth.of_below (b := p) hb2)); have HS2 := Lib.hid (HH.out.below hb2); clear hb2)
      | (go_at_call 11; refine (HV.out w2 HS2.out).mono ?_; rintro e w3 ⟨he, hb, ho⟩; have HB3 := Lib.hid (And.intro (HB2.out.1.trans hb) (HB2.out.2.trans ho)); clear hb ho; rcases he with ⟨qe, k1, hqe, rfl, hst⟩ | ⟨b, q2, qb, hq2, hcq2, rfl, hst2, htr2⟩))
    · have HQ := Lib.hid hqe
      have HST := Lib.hid hst
      clear hqe hst
      go_wp2
      go_ret
      exact ⟨.inl ⟨qe, k1, Rd.six HSG.out HQ.out, rfl, HST.out⟩, HB3.out⟩
    · have HQ := Lib.hid hq2
      have HST := Lib.hid hst2
      have HTR : Hid (TreeAt w3 (w.heap.size - 1) b qb) := Lib.hid (htr2.mono (by have := HB2.out.2.1; omega))
      have HC := Lib.hid hcq2
      clear hq2 hst2 htr2 hcq2
      go_wp2
      go_ret
      exact ⟨.inr ⟨b, q2, qb, Rd.six HSG.out HQ.out, HC.out, rfl, HST.out, HTR.out⟩, HB3.out⟩
  · have hqL : k < L.length := by
      rcases Nat.lt_or_ge k L.length with h' | h'
      · exact h'
      · exfalso
        exact hs (by unfold gL; rw [if_neg (by omega)]; rfl)
    have HSG := Lib.hid hs
    obtain ⟨K, hK⟩ : ∃ K, K = sgK (gL L k) := ⟨_, rfl⟩
    have HK := Lib.hid hK
    rw [← hK] at HO hs
    have dk : ((K : Int) == 0) = false := beq_eq_false_iff_ne.2 (by omega)
    clear hK hs
    go_enter Tryd.func11, Tryd.ntmps11
    go_upto_region 8 with (go_at_call 21; refine HO.out.mono ?_; rintro e w2 ⟨rfl, hb2⟩; have HB2 := Lib.hid (And.intro (hb2.mono (Nat.le_of_lt HH.out.rdr.lt)) (Oth.of_below (b := p) hb2)); have HS2 := Lib.hid (HH.out.below hb2); clear hb2; have c1 := HS2.out.rdr.c1; have fz := HS2.out.rdr.fz (o := 1); have hlen := HS2.out.len)
    rw [show (k : Int) + 1 = ((k + 1 : Nat) : Int) from rfl]
    have HMV := Lib.hid (HS2.out.move (k + 1) (by omega))
    have HBM : Hid (Below p w (w2.setCell ⟨p, 1, none⟩ (.int .i64 ((k + 1 : Nat) : Int))) ∧ Oth p w (w2.setCell ⟨p, 1, none⟩ (.int .i64 ((k + 1 : Nat) : Int)))) := Lib.hid ⟨HB2.out.1.setCell (Nat.le_refl p) _, HB2.out.2.set 1 _⟩
    generalize w2.setCell ⟨p, 1, none⟩ (.int .i64 ((k + 1 : Nat) : Int)) = WM at HMV HBM ⊢
    clear c1 fz HS2 HB2
    have HV := Lib.hid (HL.out (k + 1) 6 WM (by omega) (by omega) (by omega) HMV.out)
    go_upto_region 9 with (go_at_call 11; refine HV.out.mono ?_; rintro e w3 ⟨he, hb, ho⟩; have HB3 := Lib.hid (And.intro (HBM.out.1.trans hb) (HBM.out.2.trans ho)); clear hb ho; rcases he with ⟨qe, k1, hqe, rfl, hst⟩ | ⟨b, q2, qb, hq2, hcq2, rfl, hst2, htr2⟩)
    · have HQ := Lib.hid hqe
      have HST3 := Lib.hid hst
      clear hqe hst
      go_wp2
      go_ret
      exact ⟨.inl ⟨qe, k1, Rd.sign HSG.out (.inl ⟨qe, HQ.out, rfl⟩), rfl, HST3.out⟩, HB3.out⟩
    have HQ2 := Lib.hid hq2
    have HST3 := Lib.hid hst2
    have HTB3 : Hid (TreeAt w3 (w.heap.size - 1) b qb) := Lib.hid (htr2.mono (by have := HBM.out.2.1; omega))
    have HC2 := Lib.hid hcq2
    clear hq2 hst2 htr2 hcq2
    have HTN := Lib.hid (un_new (k := K) (by have := HB3.out.2.1; have := HH.out.rdr.lt; omega) HTB3.out 47)
    have hb4 : Below w3.heap.size w3 ((w3.alloc (.cells #[.pointer (some ⟨qb, 0, none⟩)] 47)).alloc (.cells (trC (pairN K 0 0) (.slice (some ⟨w3.heap.size, 0, none⟩) 1 1)).toArray 69)) := ((Below.refl _ w3).alloc (Nat.le_refl _) _).alloc (by simp) _
    have HS4 := Lib.hid (HST3.out.below hb4)
    have HB4 := Lib.hid (And.intro (HB3.out.1.trans (hb4.mono (Nat.le_of_lt HST3.out.rdr.lt))) (HB3.out.2.trans (Oth.of_below hb4)))
    clear hb4
    unfold trC pairN at HTN HS4 HB4
    go_wp2
    generalize (w3.alloc (.cells #[.pointer (some ⟨qb, 0, none⟩)] 47)).alloc _ = W4 at HTN HS4 HB4 ⊢
    go_ret
    exact ⟨.inr ⟨.un K b, q2, _, Rd.sign HSG.out (.inr ⟨b, q2, HQ2.out, by rw [HK.out]⟩), by have := HC2.out; show cnt b + 1 + k ≤ q2; omega, rfl, HS4.out, HTN.out⟩, HB4.out⟩
set_option maxHeartbeats 2000000 in
theorem rseven_in (p cap k : Nat) (a : Option Addr) (L : List TokE) (w : World)
    (hS : Calls Tryd.prog 20 #[.pointer (some ⟨p, 0, none⟩)] w (RdT L (.lvl 7) k p cap a w)) :
    Calls Tryd.prog 11 #[.pointer (some ⟨p, 0, none⟩), .int .i64 7] w (RdT L (.lvl 7) k p cap a w) := by
  have HS := Lib.hid hS
  clear hS
  go_enter Tryd.func11, Tryd.ntmps11
  go_wp2_with (go_at_call 20; refine HS.out.mono ?_; rintro e w3 ⟨he, HB⟩; have HB3 := Lib.hid HB; clear HB; rcases he with ⟨qe, k1, hqe, rfl, hst⟩ | ⟨b, q2, qb, hq2, hcq2, rfl, hst2, htr2⟩)
  · have HQ := Lib.hid hqe
    have HST := Lib.hid hst
    clear hqe hst
    go_wp2
    go_ret
    exact ⟨.inl ⟨qe, k1, HQ.out, rfl, HST.out⟩, HB3.out⟩
  · have HQ := Lib.hid hq2
    have HST := Lib.hid hst2
    have HTR := Lib.hid htr2
    have HC := Lib.hid hcq2
    clear hq2 hst2 htr2 hcq2
    go_wp2
    go_ret
    exact ⟨.inr ⟨b, q2, qb, HQ.out, HC.out, rfl, HST.out, HTR.out⟩, HB3.out⟩
end Go.Proofs.YtddeoemkjedonaaDoor
