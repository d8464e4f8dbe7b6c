/- Queue: the reference's Take and Copy. -/
import Derived.Test.YtpemdfdmnbhpjaaQuRef2
set_option linter.all false
namespace Go.Proofs.Ytpemdfdmnbhpjaa
open Go.RowKit Go.Shelf
set_option maxRecDepth 100000
theorem Ir.base {w : World} {B B' : Nat} {F : List Nat} {v : Value} {l : List Int} (h : Ir w B F v l) (hB : B' ≤ B) : Ir w B' F v l := by
  refine ⟨⟨h.row.1, ?_⟩, h.fp⟩
  rcases h.row.2 with hn | ⟨g, cap, cur, rfl, hb, r⟩
  · exact .inl hn
  · exact .inr ⟨g, cap, cur, rfl, by omega, r⟩
/-- two rows of ints that are new since w -/
structure Tr (w : World) (l1 l2 : List Int) (G1 G2 : List Nat) (v1 v2 : Value) (W : World) : Prop where
  r1 : Ir W w.heap.size G1 v1 l1
  r2 : Ir W w.heap.size G2 v2 l2
  ap : ∀ b ∈ G1, b ∉ G2
  bel : Below w.heap.size w W
section
variable {w W W' : World} {l1 l2 l1' l2' : List Int} {G1 G2 G1' G2' : List Nat} {v1 v2 v1' v2' : Value}
theorem Tr.first (h : Tr w l1 l2 G1 G2 v1 v2 W) (hr : Ir W' w.heap.size G1' v1' l1') (ho : Out G1 W W') (hn : ∀ b ∈ G1', b ∈ G1 ∨ W.heap.size ≤ b) : Tr w l1' l2 G1' G2 v1' v2 W' :=
  ⟨hr, h.r2.keep (ho.same fun x hx => ⟨h.r2.lt x hx, fun e => h.ap x e hx⟩), fun b hb e => by
    rcases hn b hb with h1 | h1
    · exact h.ap b h1 e
    · have := h.r2.lt b e
      omega, h.bel.trans (ho.toBelow h.bel.size fun x hx => (h.r1.ty x hx).1)⟩
theorem Tr.second (h : Tr w l1 l2 G1 G2 v1 v2 W) (hr : Ir W' w.heap.size G2' v2' l2') (ho : Out G2 W W') (hn : ∀ b ∈ G2', b ∈ G2 ∨ W.heap.size ≤ b) : Tr w l1 l2' G1 G2' v1 v2' W' :=
  ⟨h.r1.keep (ho.same fun x hx => ⟨h.r1.lt x hx, fun e => h.ap x hx e⟩), hr, fun b hb e => by
    rcases hn b e with h1 | h1
    · exact h.ap b hb h1
    · have := h.r1.lt b hb
      omega, h.bel.trans (ho.toBelow h.bel.size fun x hx => (h.r2.ty x hx).1)⟩
end
/-- so many items, without the k-th -/
def erQ (l : List It) (k i : Nat) : List It := (l.take i).eraseIdx k
theorem erQ_step {l : List It} {k i : Nat} {x : It} (h : i ≠ k) (hx : l[i]? = some x) : erQ l k (i + 1) = erQ l k i ++ [x] := by
  unfold erQ
  rw [take_snoc hx]
  have hi := get_lt hx
  rcases Nat.lt_or_ge i k with h1 | h1
  · rw [List.eraseIdx_of_length_le (by simp; omega), List.eraseIdx_of_length_le (by simp; omega)]
  · rw [List.eraseIdx_append_of_lt_length (by simp; omega)]
theorem erQ_skip {l : List It} {k : Nat} (hk : k < l.length) : erQ l k (k + 1) = erQ l k k := by
  unfold erQ
  obtain ⟨x, hx⟩ : ∃ x, l[k]? = some x := ⟨_, List.getElem?_eq_getElem hk⟩
  have hl : (l.take k).length = k := by simp; omega
  rw [take_snoc hx, List.eraseIdx_of_length_le (show (l.take k).length ≤ k by omega), List.eraseIdx_append_of_length_le (by omega), hl, Nat.sub_self]
  simp
theorem erQ_all (l : List It) (k : Nat) : erQ l k l.length = l.eraseIdx k := by unfold erQ; rw [List.take_length]
theorem erQ_len (l : List It) (k i : Nat) : (erQ l k i).length ≤ l.length := by
  unfold erQ
  have := List.length_eraseIdx_le (l.take i) k
  simp at this ⊢
  omega
theorem Rm.parts {w : World} {B r : Nat} {Fr : List Nat} {s : Qs} (h : Rm w B r Fr s) : ∃ (G1 G2 : List Nat) (a1 a2 : Option Addr) (c1 c2 : Nat), Fr = G1 ++ G2 ∧ Bk w r 60 [.slice a1 s.l.length c1, .slice a2 s.l.length c2, .int .i64 s.most, .int .i64 s.last] ∧ Ir w B G1 (.slice a1 s.l.length c1) (s.l.map (·.1)) ∧ Ir w B G2 (.slice a2 s.l.length c2) (s.l.map (·.2)) ∧ (∀ b ∈ G1, b ∉ G2) ∧ B ≤ r := by
  obtain ⟨G1, G2, v1, v2, rfl, hb, h1, h2, hap, hr, _⟩ := h
  obtain ⟨a1, c1, e1⟩ := h1.slice
  obtain ⟨a2, c2, e2⟩ := h2.slice
  rw [List.length_map] at e1 e2
  subst e1 e2
  exact ⟨G1, G2, a1, a2, c1, c2, rfl, hb, h1, h2, hap, hr⟩
set_option maxHeartbeats 4000000 in
theorem rtake_any {w : World} {B r : Nat} {Fr : List Nat} {s : Qs} (h : Rm w B r Fr s) (hf : s.l.length ≤ 8796093022207) (id : Int) :
    Calls Try.prog 15 #[.pointer (some ⟨r, 0, none⟩), .int .i64 id] w (RuP (.tuple #[.int .i64 (takeX s id), .int .i64 (takeE s id)]) B r Fr (takeS s id) w) := by
  have HFI := Lib.hid (rfind_any h (by omega) id)
  unfold RfdP at HFI
  have HR := Lib.hid h
  have HW := Lib.hid (wf_take h.wf id)
  cases hfd : fnd id s.l with
  | none =>
    have HX := Lib.hid (show takeX s id = 0 by unfold takeX; rw [hfd])
    have HE := Lib.hid (show takeE s id = 121 by unfold takeE; rw [hfd])
    have HS := Lib.hid (takeS_none hfd)
    rw [HX.out, HE.out, HS.out]
    rw [hfd] at HFI
    clear hfd h
    go_enter Try.func15, Try.ntmps15
    go_wp2_with (go_at_call 17; (refine HFI.out.mono ?_); rintro e w' ⟨rfl, rfl⟩)
    go_ret2
    exact ru_same HR.out (Below.refl _ _)
  | some k =>
    obtain ⟨x, hx, _⟩ := fnd_some hfd
    have hk := get_lt hx
    have HX := Lib.hid (show takeX s id = x by unfold takeX; rw [hfd]; simp [List.getD_eq_getElem?_getD, hx])
    have HE := Lib.hid (show takeE s id = 0 by unfold takeE; rw [hfd])
    have HS := Lib.hid (takeS_some hfd)
    rw [HX.out, HE.out]
    rw [hfd] at HFI
    obtain ⟨G1, G2, a1, a2, c1, c2, rfl, hb, h1, h2, hap, hBr⟩ := h.parts
    obtain ⟨b1, c1', he1, hcc1, _⟩ := h1.cell (k := k) (x := id) (by rw [List.getElem?_map, hx]; rfl)
    obtain ⟨b2, c2', he2, hcc2, y2⟩ := h2.cell (k := k) (x := x) (by rw [List.getElem?_map, hx]; rfl)
    rw [List.length_map] at he1 hcc1 he2 hcc2
    cases he1
    cases he2
    have HB := Lib.hid hb
    have H1 := Lib.hid h1
    have H2 := Lib.hid h2
    have d1 := hb.c 1 rfl
    have HT0 : Hid (Tr w [] [] [] [] (.slice none 0 0) (.slice none 0 0) w) := Lib.hid ⟨Ir.nil _ _, Ir.nil _ _, (fun b hb => by cases hb), Below.refl _ _⟩
    clear hfd h hb h1 h2 hap hx
    go_enter Try.func15, Try.ntmps15
    go_wp2_with (go_at_call 17; (refine HFI.out.mono ?_); rintro e w' ⟨rfl, rfl⟩)
    go_loopw [9, 10, 11] (fun v3 v4 vi wr => ∃ (i : Nat) (G3 G4 : List Nat), vi = .int .i64 (i : Int) ∧ i ≤ s.l.length ∧ Hid (Tr w ((erQ s.l k i).map (·.1)) ((erQ s.l k i).map (·.2)) G3 G4 v3 v4 wr)) (fun _ _ vi _ => s.l.length - (intOf vi).toNat)
    case atStart => exact ⟨0, [], [], rfl, Nat.zero_le _, by unfold erQ; exact HT0⟩
    case round =>
      obtain ⟨i, G3, G4, rfl, hi, HT⟩ := hrel
      clear HT0 d1 y2
      obtain ⟨wi, rfl⟩ : ∃ wi : World, wi = wr := ⟨_, rfl⟩
      have hbi := HB.out.below HT.out.bel
      have HBi := Lib.hid hbi
      have d0 := hbi.c 0 rfl
      have hi1 : IntKind.i64.wrap ((i : Int) + 1) = (i : Int) + 1 := by rw [IntKind.wrap_i64]; omega
      clear hbi
      rcases Nat.lt_or_ge i s.l.length with hlt | hge
      · obtain ⟨it, hit⟩ : ∃ it, s.l[i]? = some it := ⟨_, List.getElem?_eq_getElem hlt⟩
        by_cases hik : i = k
        · subst hik
          have t : ((i : Int) != (i : Int)) = false := by simp
          have HSK := Lib.hid (erQ_skip hlt)
          clear hit
          go_wp2
          go_roundw
          case rel => exact ⟨i + 1, G3, G4, by go_num, by omega, by rw [HSK.out]; exact HT⟩
          case measure => simp [intOf]; omega
        · have t : ((i : Int) != (k : Int)) = true := by simp; omega
          have HST := Lib.hid (erQ_step hik hit)
          obtain ⟨b1', c1', he1, _, y1⟩ := (H1.out.below HT.out.bel).cell (k := i) (x := it.1) (by rw [List.getElem?_map, hit]; rfl)
          rw [List.length_map] at he1
          cases he1
          have HY2 := Lib.hid (fun (W : World) (hW : Below w.heap.size w W) => (H2.out.below hW).cell (k := i) (x := it.2) (by rw [List.getElem?_map, hit]; rfl))
          have HEL := Lib.hid (erQ_len s.l k i)
          clear hit hik
          go_wp2_with (first
            | (at_builtin; refine wpList_ir1 (w0 := wi) rfl (.tmp 41) (.tmp 49) rfl HT.out.r1 it.1 rfl rfl rfl (by have := HEL.out; rw [List.length_map]; omega) HT.out.bel.size ?_; intro v5 G5 w5 hr5 ho5 hn5; have ht5 := HT.out.first hr5 ho5 hn5; have HT5 := Lib.hid ht5; have d1 := (HB.out.below ht5.bel).c 1 rfl; obtain ⟨b2', c2', he2, _, y2⟩ := HY2.out w5 ht5.bel; rw [List.length_map] at he2; cases he2; clear hr5 ho5 hn5 ht5)
            | (at_builtin; refine wpList_ir1 (w0 := w5) rfl (.tmp 51) (.tmp 59) rfl HT5.out.r2 it.2 rfl rfl rfl (by have := HEL.out; rw [List.length_map]; omega) HT5.out.bel.size ?_; intro v6 G6 w6 hr6 ho6 hn6; have HT6 := Lib.hid (HT5.out.second hr6 ho6 hn6); clear hr6 ho6 hn6))
          exact ⟨⟨i + 1, G5, G6, by go_num, by omega, Lib.hid (by rw [HST.out, List.map_append, List.map_append]; exact HT6.out)⟩, by simp [intOf]; omega⟩
      · have ht := HT.out
        rw [show erQ s.l k i = s.l.eraseIdx k by rw [show i = s.l.length by omega]; exact erQ_all _ _] at ht
        obtain ⟨a3, c3, e3⟩ := ht.r1.slice
        obtain ⟨a4, c4, e4⟩ := ht.r2.slice
        rw [List.length_map] at e3 e4
        subst e3 e4
        have HTz := Lib.hid ht
        have d1 := HBi.out.c 1 rfl
        have f0 := HBi.out.fz 0
        have f1 := HBi.out.fz 1
        clear ht
        go_wp2
        go_ret2
        have hw9 := HW.out
        rw [HS.out] at hw9 ⊢
        have hrl := HB.out.lt
        have hBw : B ≤ w.heap.size := by omega
        have hr3 : r ∉ G3 := fun e => by have := (HTz.out.r1.ty r e).1; omega
        have hr4 : r ∉ G4 := fun e => by have := (HTz.out.r2.ty r e).1; omega
        have hsame : ∀ (G : List Nat), r ∉ G → SameB G wi ((wi.setCell ⟨r, 0, none⟩ (.slice a3 (s.l.eraseIdx k).length c3)).setCell ⟨r, 1, none⟩ (.slice a4 (s.l.eraseIdx k).length c4)) := fun G hG b hb => (heap_setCell_other _ ⟨r, 1, none⟩ b _ (fun e => hG ((show b = r from e) ▸ hb))).trans (heap_setCell_other _ ⟨r, 0, none⟩ b _ (fun e => hG ((show b = r from e) ▸ hb)))
        refine ⟨rfl, G3 ++ G4, ⟨G3, G4, _, _, rfl, (HBi.out.set 0 _).set 1 _, (HTz.out.r1.keep (hsame G3 hr3)).base hBw, (HTz.out.r2.keep (hsame G4 hr4)).base hBw, HTz.out.ap, hBr, hw9⟩, ((Out.of_below HTz.out.bel).setCell (.inl (List.mem_cons_self ..)) _ _).setCell (.inl (List.mem_cons_self ..)) _ _, fun b hb => ?_⟩
        rcases List.mem_append.1 hb with h | h
        · exact .inr (HTz.out.r1.ty b h).1
        · exact .inr (HTz.out.r2.ty b h).1
theorem Ir.src {w : World} {B c : Nat} {a : Option Addr} {F : List Nat} {l : List Int} (h : Ir w B F (.slice a l.length c) l) : (a = none ∧ l = [] ∧ c = 0) ∨ ∃ ad, a = some ad ∧ ∀ j u, (intsV l)[j]? = some u → w.cell? (ad.add j) = some u := by
  rcases h.form with ⟨h1, h2, _⟩ | ⟨b, c', cur, h1, _⟩
  · subst h2
    cases h1
    exact .inl ⟨rfl, rfl, rfl⟩
  · cases h1
    obtain ⟨ad, e, hc⟩ := h.part l.length
    rw [List.take_length] at hc
    exact .inr ⟨ad, e, hc⟩
theorem info_rq : (Try.prog.info? 60).map (fun i => (i.zero, i.size, i.bytes)) = some (some (.agg #[.slice none 0 0, .slice none 0 0, .int .i64 0, .int .i64 0]), 4, 64) := by kernel_rfl
set_option maxHeartbeats 4000000 in
theorem rcopy_any {w : World} {B r : Nat} {Fr : List Nat} {s : Qs} (h : Rm w B r Fr s) (hf : s.l.length ≤ 8796093022207) :
    Calls Try.prog 11 #[.pointer (some ⟨r, 0, none⟩)] w fun e w' => ∃ r' Fr', e = .returned (.pointer (some ⟨r', 0, none⟩)) ∧ Rm w' B r' Fr' s ∧ Below w.heap.size w w' ∧ ∀ b ∈ r' :: Fr', w.heap.size ≤ b := by
  have hwf := h.wf
  obtain ⟨G1, G2, a1, a2, c1, c2, rfl, hb, h1, h2, hap, hBr⟩ := h.parts
  have HB := Lib.hid hb
  have H1 := Lib.hid h1
  have H2 := Lib.hid h2
  have d2 := hb.c 2 rfl
  have d3 := hb.c 3 rfl
  have HW := Lib.hid hwf
  clear hb h1 h2 hap h hwf
  go_enter Try.func11, Try.ntmps11
  go_wp2_with fail
  go_region_held3 (fun W => W.cell? ⟨r, 2, none⟩ = some (.int .i64 s.most) ∧ W.cell? ⟨r, 3, none⟩ = some (.int .i64 s.last))
    (first | (refine ⟨?_, ?_⟩ <;> assumption) | go_keep)
    (fail)
  rename_i hHeld
  clear hHeld d2 d3
  obtain ⟨P, hP⟩ : ∃ P, P = w.heap.size := ⟨_, rfl⟩
  obtain ⟨w1, hw1⟩ : ∃ w1, w1 = (w.alloc (.cells #[.slice none 0 0, .slice none 0 0, .int .i64 s.most, .int .i64 s.last] 60)).drew := ⟨_, rfl⟩
  have hb1 : Below w.heap.size w w1 := by rw [hw1]; exact ((Below.refl _ w).alloc (Nat.le_refl _) _).drew
  have HC1 := Lib.hid (show Bk w1 P 60 [.slice none 0 0, .slice none 0 0, .int .i64 s.most, .int .i64 s.last] by rw [hw1, hP]; exact (Bk.new w _ _).below (drew_below _))
  have HPW := Lib.hid hP
  have HB1 := Lib.hid hb1
  have HRB1 := Lib.hid (HB.out.below hb1)
  rw [← hw1, ← hP]
  clear hw1 hb1 hP
  have d0 := HC1.out.c 0 rfl
  have g0 := HC1.out.fz 0
  have r0 := HRB1.out.c 0 rfl
  have l1 : (s.l.map (·.1)).length = s.l.length := List.length_map _
  have l2 : (s.l.map (·.2)).length = s.l.length := List.length_map _
  have HL1 := Lib.hid l1
  have HL2 := Lib.hid l2
  have HSZ := Lib.hid (show B ≤ w.heap.size from by have := HB.out.lt; omega)
  have HPS := Lib.hid (show w.heap.size ≤ w1.drew.heap.size from HB1.out.size)
  have HI1 := Lib.hid (show Ir w1.drew B G1 (.slice a1 (s.l.map (·.1)).length c1) (s.l.map (·.1)) by rw [l1]; exact (H1.out.below HB1.out).below (drew_below _))
  clear l1 l2
  go_wp2_with fail
  go_region_law ((try simp only [Act.put, List.getElem_toArray, List.getElem_cons_succ, List.getElem_cons_zero, List.setIfInBounds_toArray, List.set_cons_succ, List.set_cons_zero]); refine step_ir (a := ⟨_, _⟩) (w := w1.drew) (by rfl) (.tmp 20) (.tmp 24) (by rfl) (Ir.nil w1.drew w.heap.size) (by rfl) a1 s.l.length c1 (s.l.map (·.1)) HL1.out (by rfl) HI1.out.src (by rw [HL1.out]; show 0 + s.l.length ≤ _; omega) HPS.out ?_; intro v3 G3 w3 hr3 ho3 hn3; rw [List.nil_append] at hr3; obtain ⟨a3, c3, e3⟩ := hr3.slice; rw [HL1.out] at e3; subst e3; have hc3 := HC1.out.below ((drew_below w1).trans ho3.toB); have d0' := hc3.c 0 rfl; have g0' := hc3.fz 0; have HR3 := Lib.hid hr3; have HO3 := Lib.hid ho3.toB; have HC3 := Lib.hid hc3; clear hr3 ho3 hn3 hc3)
  all_goals
    clear d0 g0 r0 d0' g0'
    generalize hv3 : Value.slice a3 s.l.length c3 = v3 at HR3 ⊢
    obtain ⟨w4, hw4⟩ : ∃ w4, w4 = w3.setCell ⟨P, 0, none⟩ v3 := ⟨_, rfl⟩
    have hP := HPW.out
    have hz1 : P < w1.heap.size := HC1.out.lt
    have hk3 : Below w.heap.size w w3 := HB1.out.trans (((drew_below w1).trans (HO3.out.mono (Nat.le_refl _))).mono HB1.out.size)
    have hk4 : Below w.heap.size w w4 := by rw [hw4]; exact hk3.setCell (p := ⟨P, 0, none⟩) (by show w.heap.size ≤ P; omega) _
    have HC4 := Lib.hid (show Bk w4 P 60 [v3, .slice none 0 0, .int .i64 s.most, .int .i64 s.last] by rw [hw4]; exact HC3.out.set 0 v3)
    have HR4 := Lib.hid (show Ir w4 w.heap.size G3 v3 (s.l.map (·.1)) by
      rw [hw4]
      exact HR3.out.keep (fun b hb => heap_setCell_other _ ⟨P, 0, none⟩ b _ (fun e => ref_ne HC3.out HR3.out ((show b = P from e) ▸ hb))))
    have HK4 := Lib.hid hk4
    have HRB4 := Lib.hid (HB.out.below hk4)
    have HI2 := Lib.hid (show Ir w4.drew B G2 (.slice a2 (s.l.map (·.2)).length c2) (s.l.map (·.2)) by rw [HL2.out]; exact (H2.out.below hk4).below (drew_below _))
    rw [← hw4]
    clear hw4 hk3 hk4 hP
    have d1 := HC4.out.c 1 rfl
    have g1 := HC4.out.fz 1
    have r1 := HRB4.out.c 1 rfl
    go_wp2_with fail
    go_region_law ((try simp only [Act.put, List.getElem_toArray, List.getElem_cons_succ, List.getElem_cons_zero, List.setIfInBounds_toArray, List.set_cons_succ, List.set_cons_zero]); refine step_ir (a := ⟨_, _⟩) (w := w4.drew) (by rfl) (.tmp 32) (.tmp 36) (by rfl) (Ir.nil w4.drew w.heap.size) (by rfl) a2 s.l.length c2 (s.l.map (·.2)) HL2.out (by rfl) HI2.out.src (by rw [HL2.out]; show 0 + s.l.length ≤ _; omega) (show w.heap.size ≤ w4.drew.heap.size from HK4.out.size) ?_; intro v5 G5 w5 hr5 ho5 hn5; rw [List.nil_append] at hr5; obtain ⟨a5, c5, e5⟩ := hr5.slice; rw [HL2.out] at e5; subst e5; have hc5 := HC4.out.below ((drew_below w4).trans ho5.toB); have d1' := hc5.c 1 rfl; have g1' := hc5.fz 1; have HR5 := Lib.hid hr5; have HO5 := Lib.hid ((drew_below w4).trans (ho5.toB.mono (Nat.le_refl _))); have HC5 := Lib.hid hc5; have HN5 : Hid (∀ b ∈ G5, w4.heap.size ≤ b) := Lib.hid (fun b hb => (hn5 b hb).elim (fun e => by cases e) id); clear hr5 ho5 hn5 hc5)
    all_goals
      clear d1 g1 r1 d1' g1'
      generalize hv5 : Value.slice a5 s.l.length c5 = v5 at HR5 ⊢
      go_wp2
      go_ret
      have hP := HPW.out
      have hr45 := HR4.out.below HO5.out
      have hb6 := HC5.out.set 1 v5
      have hsame : ∀ (G : List Nat), P ∉ G → SameB G w5 (w5.setCell ⟨P, 1, none⟩ v5) := fun G hG b hb => heap_setCell_other _ ⟨P, 1, none⟩ b _ (fun e => hG ((show b = P from e) ▸ hb))
      refine ⟨P, G3 ++ G5, rfl, ⟨G3, G5, v3, v5, rfl, hb6, (hr45.keep (hsame G3 (ref_ne HC5.out hr45))).base HSZ.out, (HR5.out.keep (hsame G5 (ref_ne HC5.out HR5.out))).base HSZ.out, fun b hb e => by have h8 := HR4.out.lt b hb; have h9 := HN5.out b e; omega, Nat.le_trans HSZ.out (Nat.le_of_eq hP.symm), HW.out⟩, (HK4.out.trans (HO5.out.mono HK4.out.size)).setCell (p := ⟨P, 1, none⟩) (Nat.le_of_eq hP.symm) _, fun b hb => ?_⟩
      rcases List.mem_cons.1 hb with rfl | hb
      · exact Nat.le_of_eq hP.symm
      · rcases List.mem_append.1 hb with h | h
        · exact (HR4.out.ty b h).1
        · exact (HR5.out.ty b h).1
end Go.Proofs.Ytpemdfdmnbhpjaa
