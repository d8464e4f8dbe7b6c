/- Queue: a ring laid anew. -/
import Derived.Test.YtpemdfdmnbhpjaaQuEach
import Derived.Laws.ResultCell
set_option linter.all false
namespace Go.Proofs.Ytpemdfdmnbhpjaa
open Go.RowKit Go.Shelf
attribute [local go_sem] Oper.semAt_some
set_option maxRecDepth 100000
theorem info_item : (Try.prog.info? 64).map (fun i => (i.zero, i.size, i.bytes)) = some (some (.agg #[.int .i64 0, .int .i64 0]), 2, 16) := by kernel_rfl
theorem each_any {w : World} {g : Nat} : Calls Try.prog 38 #[.pointer (some ⟨g, 0, none⟩)] w fun e w' =>
    e = .returned (.func (.func 41) #[] #[.pointer (some ⟨w.heap.size, 0, none⟩)]) ∧ w' = w.alloc (.cells #[.pointer (some ⟨g, 0, none⟩)] 74) := by
  go_enter Try.func38, Try.ntmps38
  go_wp2
  go_ret
  exact ⟨rfl, rfl⟩
/-- blocks of cells are as they were -/
def KC (w w' : World) : Prop := ∀ (b : Nat) (cs : Array Value) (t : TypeId) (fr : Nat × Nat), w.heap[b]? = some (.cells cs t fr) → w'.heap[b]? = some (.cells cs t fr)
theorem KC.put {w : World} {l : Nat} {r : Loop} (o : Obj) (h : w.heap[l]? = some (.loop r)) : KC w (w.putObj l o) := fun b cs t fr hb => by
  by_cases e : b = l
  · subst e
    rw [h] at hb
    cases hb
  · exact (World.putObj_heap_other e).trans hb
theorem KC.boxed {w w' : World} {B : Nat} {t : TypeId} {v : Value} (k : KC w w') (h : Boxed w B t v) : Boxed w' B t v := k _ _ _ _ h
theorem KC.bk {w w' : World} {g : Nat} {T : TypeId} {cs : List Value} (k : KC w w') (h : Bk w g T cs) : Bk w' g T cs := k _ _ _ _ h
theorem KC.own {w w' : World} {B n sz : Nat} {T : TypeId} {v : Value} {xs : List Value} (k : KC w w') (h : w.ownsRow B T sz v n xs) : w'.ownsRow B T sz v n xs := by
  refine ⟨h.1, ?_⟩
  rcases h.2 with hn | ⟨g, cap, cur, hv, hbs, hg, rest⟩
  · exact .inl hn
  · exact .inr ⟨g, cap, cur, hv, hbs, k _ _ _ _ hg, rest⟩
theorem KC.src {w w' : World} {g : Nat} {T : TypeId} {L : List It} {v0 : Value} {first : Nat} {rest : List Value} (k : KC w w') (h : Src w g T L v0 first rest) : Src w' g T L v0 first rest :=
  ⟨k.bk h.cells, fun hl => by obtain ⟨pb, n, cap, cs, h1, h2⟩ := h.ring hl; exact ⟨pb, n, cap, cs, h1, k.bk h2.box, k.bk h2.pls, h2.rg, h2.cap, h2.few⟩, h.few⟩
theorem own_keep {w w' : World} {base size n : Nat} {e : TypeId} {v : Value} {xs : List Value} (h : w.ownsRow base e size v n xs) (hb : Below w.heap.size w w') : w'.ownsRow base e size v n xs := by
  refine ⟨h.1, ?_⟩
  rcases h.2 with hn | ⟨g, cap, cur, rfl, hbs, hgg, rest⟩
  · exact .inl hn
  · exact .inr ⟨g, cap, cur, rfl, hbs, (hb.block g (some_lt hgg)).trans hgg, rest⟩
theorem below_put {B L : Nat} {W : World} {o o' : Obj} (hB : B ≤ L) (hl : W.heap[L]? = some o) : Below B W (W.putObj L o') := (Below.refl B W).grown (grownBy_putObj' W L o') (by have := some_lt hl; omega) (fun k e => by cases e; exact hB)
theorem cells_laid (w : World) (vs : List Value) (t : TypeId) : ∀ j u, vs[j]? = some u → (w.alloc (.cells vs.toArray t)).cell? ((⟨w.heap.size, 0, none⟩ : Addr).add j) = some u := by
  intro j u h
  have hadd : (⟨w.heap.size, 0, none⟩ : Addr).add j = ⟨w.heap.size, j, none⟩ := by unfold Addr.add; split <;> simp_all
  rw [hadd]
  exact (Bk.new w t vs).c j h
/-- a row being laid: the result's block, the row, its box, the sequence -/
structure Lay (P : Nat) (w : World) (pb lb rb g p : Nat) (T : TypeId) (L : List It) (v0 : Value) (first : Nat) (rest : List Value) (pre : List It) (W : World) : Prop where
  res : Bk W P 56 [.slice none 0 0, .int .i64 0, .int .i64 0]
  row : W.ownsRow (P + 1) 64 2 (.slice (some ⟨pb, 0, none⟩) pre.length p) pre.length (cellsQ pre)
  box : Boxed W lb 54 (.slice (some ⟨pb, 0, none⟩) pre.length p)
  seq : Seq W rb g T L v0 first rest
  bel : Below P w W
theorem Lay.below {P : Nat} {w : World} {pb lb rb g p : Nat} {T : TypeId} {L : List It} {v0 : Value} {first : Nat} {rest : List Value} {pre : List It} {W W' : World} (h : Lay P w pb lb rb g p T L v0 first rest pre W) (hP : P ≤ W.heap.size) (hb : Below W.heap.size W W') : Lay P w pb lb rb g p T L v0 first rest pre W' :=
  ⟨h.res.below hb, own_keep h.row hb, boxed_below h.box hb, ⟨boxed_below h.seq.box hb, h.seq.src.below hb⟩, h.bel.trans (hb.mono hP)⟩
theorem Lay.kc {P : Nat} {w : World} {pb lb rb g p : Nat} {T : TypeId} {L : List It} {v0 : Value} {first : Nat} {rest : List Value} {pre : List It} {W W' : World} (h : Lay P w pb lb rb g p T L v0 first rest pre W) (hk : KC W W') (hb : Below P W W') : Lay P w pb lb rb g p T L v0 first rest pre W' :=
  ⟨hk.bk h.res, hk.own h.row, hk.boxed h.box, ⟨hk.boxed h.seq.box, hk.src h.seq.src⟩, h.bel.trans hb⟩
/-- one item more -/
theorem laid_step {P : Nat} {w : World} {lb g p : Nat} {T : TypeId} {L : List It} {v0 : Value} {first : Nat} {rest : List Value} {pre : List It} {x : It} {W w7 : World} {o : Obj} (hP : P = w.heap.size) (hS : Src w g T L v0 first rest) (hplb : P + 1 < lb)
    (h : Lay P w (P + 1) lb (lb + 1) g p T L v0 first rest pre W) (hz : P ≤ W.heap.size) (hg : (W.alloc o).grownBy w7 (some (P + 1))) (hown : w7.ownsRow (P + 1) 64 2 (.slice (some ⟨P + 1, 0, none⟩) (pre.length + 1) p) (pre.length + 1) (cellsQ pre ++ [.int .i64 x.1, .int .i64 x.2])) :
    Lay P w (P + 1) lb (lb + 1) g p T L v0 first rest (pre ++ [x]) (w7.setCell ⟨lb, 0, none⟩ (.slice (some ⟨P + 1, 0, none⟩) (pre.length + 1) p)) ∧
    (∀ b, b < W.heap.size → b ≠ P + 1 → b ≠ lb → (w7.setCell ⟨lb, 0, none⟩ (.slice (some ⟨P + 1, 0, none⟩) (pre.length + 1) p)).heap[b]? = W.heap[b]?) ∧ W.heap.size ≤ (w7.setCell ⟨lb, 0, none⟩ (.slice (some ⟨P + 1, 0, none⟩) (pre.length + 1) p)).heap.size := by
  have hs := hg.size
  rw [World.size_alloc] at hs
  have kb : ∀ b, b < W.heap.size → b ≠ P + 1 → b ≠ lb → (w7.setCell ⟨lb, 0, none⟩ (.slice (some ⟨P + 1, 0, none⟩) (pre.length + 1) p)).heap[b]? = W.heap[b]? := fun b h1 h2 h3 =>
    (heap_setCell_other w7 ⟨lb, 0, none⟩ b _ h3).trans ((hg.block b (by rw [World.size_alloc]; omega) (fun e => h2 (by cases e; rfl))).trans (heap_alloc_old W o h1))
  have hbel : Below P w (w7.setCell ⟨lb, 0, none⟩ (.slice (some ⟨P + 1, 0, none⟩) (pre.length + 1) p)) :=
    (((h.bel.alloc hz _).grown hg (by rw [World.size_alloc]; omega) (fun k e => by cases e; omega))).setCell (p := ⟨lb, 0, none⟩) (by show P ≤ lb; omega) _
  refine ⟨⟨(kb P h.res.lt (by omega) (by omega)).trans h.res, ?_, ?_, ⟨(kb (lb + 1) h.seq.box.lt (by omega) (by omega)).trans h.seq.box, hS.below (by rw [← hP]; exact hbel)⟩, hbel⟩, kb, by rw [World.size_setCell]; omega⟩
  · rw [cellsQ_snoc, List.length_append]
    refine ⟨hown.1, ?_⟩
    rcases hown.2 with ⟨hn, _⟩ | ⟨g', cap, cur, hv, hbs, hgg, r⟩
    · cases hn
    · cases hv
      exact .inr ⟨P + 1, _, cur, rfl, hbs, (heap_setCell_other w7 ⟨lb, 0, none⟩ (P + 1) _ (by show P + 1 ≠ lb; omega)).trans hgg, r⟩
  · rw [List.length_append]
    exact ((h.box.alloc o).kept hg (fun e => by cases e; omega)).set _
def LaidP (L : List It) (p : Nat) (w : World) (e : Ending) (w' : World) : Prop :=
  ∃ (pb : Nat) (cs : List Value), e = .returned (.agg #[.slice (some ⟨pb, 0, none⟩) p p, .int .i64 0, .int .i64 (L.length : Int)]) ∧ w.heap.size ≤ pb ∧ Below w.heap.size w w' ∧ Bk w' pb 64 cs ∧ cs.length = p * 2 ∧ cs.take (L.length * 2) = cellsQ L
set_option maxHeartbeats 8000000 in
theorem laid_in (m : Nat) (hm : 3 ≤ m) {w : World} {g : Nat} {T : TypeId} {L : List It} {v0 : Value} {first : Nat} {rest : List Value} (h : Src w g T L v0 first rest) (p : Nat) (hp : L.length ≤ p) (hb : 16 * p ≤ 281474976710656) :
    CallsIn Fence.wide m Try.prog 26 #[.pointer (some ⟨g, 0, none⟩), .int .i64 (p : Int)] w (LaidP L p w) := by
  have h1 : 1 ≤ m := by omega
  obtain ⟨i0, hi, hzz, hzs, hzb⟩ := info_parts info_item
  have HS := Lib.hid h
  obtain ⟨P, hP⟩ : ∃ P, P = w.heap.size := ⟨_, rfl⟩
  have HP := Lib.hid hP
  clear h
  refine callsIn_of_wp_marks Try.func26 rfl trivial ?_ rfl
  simp only [Try.ntmps26, List.size_toArray, List.length_cons, List.length_nil, Nat.reduceAdd, Nat.reduceSub, Array.replicate_succ, Array.replicate_zero, List.push_toArray, List.append_toArray, List.nil_append, List.cons_append]
  obtain ⟨w0, hw0⟩ : ∃ w0, w0 = w.alloc (.cells #[.slice none 0 0, .int .i64 0, .int .i64 0] 56) := ⟨_, rfl⟩
  have hE0 : Hid (w.alloc (.cells #[.slice none 0 0, .int .i64 0, .int .i64 0] 56) = w0) := Lib.hid hw0.symm
  have z0 : w0.heap.size = P + 1 := by rw [hw0, hP]; simp
  have b0 : Below P w w0 := by rw [hw0, hP]; exact (Below.refl _ w).alloc (Nat.le_refl _) _
  have r0 : Bk w0 P 56 [.slice none 0 0, .int .i64 0, .int .i64 0] := by rw [hw0, hP]; exact Bk.new w _ _
  have Z0 := Lib.hid z0
  have B0 := Lib.hid b0
  have R0 := Lib.hid r0
  clear hw0 z0 b0 r0 hP
  gi_wp2_with (gi_at_make; rw [hE0.out, ← HP.out]; refine wpListIn_make_own _ rfl (.const (.int .i64 0)) (.tmp 7) 54 rfl (P + 1) 64 i0 (.agg #[.int .i64 0, .int .i64 0]) 2 Try.underlying54 hi hzz hzs .i64 .i64 (p : Int) p rfl rfl rfl (by rw [hzb]; exact hb) (by unfold maxLen; omega) (by rw [Z0.out]; exact Nat.le_refl _) ?_; intro w1 hown1 hg1; have HO1 := Lib.hid hown1; have HG1 := Lib.hid hg1; clear hown1 hg1)
  obtain ⟨lb, hlb⟩ : ∃ lb, lb = w1.heap.size := ⟨_, rfl⟩
  obtain ⟨w2, hw2⟩ : ∃ w2, w2 = w1.alloc (.cells #[.slice (some ⟨P + 1, 0, none⟩) 0 p] 54) := ⟨_, rfl⟩
  have z2 : w2.heap.size = lb + 1 := by rw [hw2, hlb]; simp
  have hplb : P + 1 < lb := by rw [hlb]; have := (HO1.out.lt (P + 1) (by rw [Z0.out]; rfl)).2; exact this
  have hb1 : Below P w w1 := B0.out.grown HG1.out (by rw [Z0.out]; omega) (fun k e => by cases e)
  have hb2 : Below P w w2 := by rw [hw2]; exact hb1.alloc (by rw [← hlb]; omega) _
  have HE2 := Lib.hid hw2.symm
  have HLB := Lib.hid hlb
  obtain ⟨w3, hw3⟩ : ∃ w3, w3 = w2.alloc (.cells #[.pointer (some ⟨g, 0, none⟩)] 74) := ⟨_, rfl⟩
  have z3 : w3.heap.size = lb + 2 := by rw [hw3, World.size_alloc, z2]
  have hlay : Lay P w (P + 1) lb (lb + 1) g p T L v0 first rest [] w3 := by
    have k1 : Below w1.heap.size w1 w2 := by rw [hw2]; exact (Below.refl _ w1).alloc (Nat.le_refl _) _
    have k2 : Below w2.heap.size w2 w3 := by rw [hw3]; exact (Below.refl _ w2).alloc (Nat.le_refl _) _
    have r1 : Bk w1 P 56 [.slice none 0 0, .int .i64 0, .int .i64 0] := (HG1.out.block P R0.out.lt (fun e => by cases e)).trans R0.out
    have o1 : w1.ownsRow (P + 1) 64 2 (.slice (some ⟨P + 1, 0, none⟩) 0 p) 0 [] := by have := HO1.out; rwa [Z0.out] at this
    refine ⟨(r1.below k1).below k2, own_keep (own_keep o1 k1) k2, boxed_below ?_ k2, ⟨?_, ?_⟩, hb2.trans (k2.mono (by rw [z2]; omega))⟩
    · rw [hw2, hlb]; exact Boxed.new w1 _ _
    · rw [hw3, ← z2]; exact Boxed.new w2 _ _
    · exact HS.out.below (by rw [← HP.out]; exact hb2.trans (k2.mono (by rw [z2]; omega)))
  have HLAY := Lib.hid hlay
  have Z3 := Lib.hid z3
  have Z2 := Lib.hid z2
  have HE3 := Lib.hid hw3.symm
  clear hlb hw2 hw3 z2 z3 hb1 hb2 hlay HO1 HG1 B0 R0
  rw [Z0.out, HE2.out, ← HLB.out]
  refine ⟨trivial, ?_⟩
  refine (callsIn_wide.2 each_any).mono ?_
  rintro e w4 ⟨rfl, rfl⟩
  rw [HE3.out, Z2.out]
  gi_wp2_with fail
  refine lp_block (fun W => Lay P w (P + 1) lb (lb + 1) g p T L v0 first rest L W) rfl h1 (gf := 41) (lb := #[.pointer (some ⟨lb + 1, 0, none⟩)]) rfl trivial (enters_of Try.func41 (by kernel_rfl) rfl) ?hrest ?hc
  case hc =>
    intro fn rc hfn hrc W1 hlp hb1 hz1
    refine CallsIn.mono (each1_any (m - 1) (lb + 1) g T L v0 first rest (w3.heap.size + 1) (fun pre W => Lp rc w3.heap.size .ready none W ∧ Lay P w (P + 1) lb (lb + 1) g p T L v0 first rest pre W ∧ lb + 4 ≤ W.heap.size) (fun _ _ => False) W1 (by omega) ?hS ?hJ ?hY ?h0) ?hfin
    case hS => exact fun pre A h => h.2.1.seq
    case hJ => exact fun pre A B h hb => ⟨h.1.grown hb, h.2.1.below (by omega) hb, Nat.le_trans h.2.2 hb.size⟩
    case h0 => exact ⟨hlp, HLAY.out.below (by rw [Z3.out]; omega) hb1, by rw [hz1, Z3.out]; omega⟩
    case hfin =>
      rintro e W9 ⟨hv, h9 | ⟨_, _, h9⟩⟩
      · exact ⟨hv, .inl ⟨h9.1, h9.2.1⟩⟩
      · exact h9.elim
    case hY =>
      rintro pre x W2 hpre ⟨j1, j2, j3⟩
      refine lp_yield2 hrc hfn j1 rfl ?_
      clear hrc hlp
      obtain ⟨ib, hib⟩ : ∃ ib, ib = W2.heap.size := ⟨_, rfl⟩
      obtain ⟨W3, hW3⟩ : ∃ W3, W3 = W2.alloc (.cells #[.int .i64 x.1, .int .i64 x.2] 64) := ⟨_, rfl⟩
      have hba : Below W2.heap.size W2 W3 := by rw [hW3]; exact (Below.refl _ W2).alloc (Nat.le_refl _) _
      have HL3 := Lib.hid (j1.grown hba)
      have HA3 := Lib.hid (j2.below (by omega) hba)
      have HI3 := Lib.hid (show Bk W3 ib 64 [.int .i64 x.1, .int .i64 x.2] by rw [hW3, hib]; exact Bk.new W2 _ _)
      have HZ3 := Lib.hid (show W3.heap.size = ib + 1 by rw [hW3, hib]; simp)
      have HB3 := Lib.hid hba
      have HIB := Lib.hid hib
      have HE3' := Lib.hid hW3.symm
      have hlen : pre.length < p := by have := hpre.length_le; simp at this; omega
      clear j1 j2 hba hib hW3
      simp only [encQ]
      gi_wp2_with fail
      rw [HE3'.out, ← HIB.out]
      refine ⟨HL3.out, ?_⟩
      obtain ⟨W4, hW4⟩ : ∃ W4, W4 = W3.putObj (w3.heap.size + 1) (.loop (rc .busy none)) := ⟨_, rfl⟩
      have hkc : KC W3 W4 := by rw [hW4]; exact KC.put _ HL3.out.rcd
      have hb4 : Below P W3 W4 := by rw [hW4]; exact below_put (by rw [Z3.out]; omega) HL3.out.rcd
      have HA4 := Lib.hid (HA3.out.kc hkc hb4)
      have HI4 := Lib.hid (hkc.bk HI3.out)
      have HL4 : Hid (Lp rc w3.heap.size .busy none W4) := Lib.hid (by rw [hW4]; exact HL3.out.put)
      have HZ4 := Lib.hid (show W4.heap.size = ib + 1 by rw [hW4, World.putObj_size, HZ3.out])
      have HE4 := Lib.hid hW4.symm
      clear hW4 hkc hb4
      rw [HE4.out]
      have c0 := HA4.out.box.cell
      have i0' := HI4.out.c 0 rfl
      have i1' := HI4.out.c 1 rfl
      have hil : lb + 4 ≤ ib := by rw [HIB.out]; exact j3
      have HLT := Lib.hid hlen
      clear c0 i0' i1' hlen
      have c0 := HA4.out.box.cell
      have f0 := HA4.out.box.frozen
      have i0' := HI4.out.c 0 rfl
      have i1' := HI4.out.c 1 rfl
      gi_wp2_with (gi_at_builtin; refine wpListIn_append_fits _ rfl (.tmp 12) (.tmp 14) 54 rfl (P + 1) 64 i0 2 Try.underlying54 hi hzs (P + 1) pre.length p (cellsQ pre) rfl (HA4.out.row.alloc _) ⟨W4.heap.size, 0, none⟩ 1 1 [.int .i64 x.1, .int .i64 x.2] rfl rfl (cells_laid W4 [.int .i64 x.1, .int .i64 x.2] 64) (cellsQ_one [x]) (by have := HLT.out; omega) ?_; intro w7 hown7 hgrow7; have c7 := ((HA4.out.box.alloc (.cells #[.int .i64 x.1, .int .i64 x.2] 64)).kept hgrow7 (fun e => by cases e; omega)).cell; have f7 := ((HA4.out.box.alloc (.cells #[.int .i64 x.1, .int .i64 x.2] 64)).kept hgrow7 (fun e => by cases e; omega)).frozen; have HO7 := Lib.hid hown7; have HG7 := Lib.hid hgrow7; clear c0 f0 i0' i1' hown7 hgrow7)
      have h9 := laid_step HP.out HS.out hplb HA4.out (by rw [HZ4.out]; omega) HG7.out HO7.out
      obtain ⟨W8, hW8⟩ : ∃ W8, W8 = w7.setCell ⟨lb, 0, none⟩ (.slice (some ⟨P + 1, 0, none⟩) (pre.length + 1) p) := ⟨_, rfl⟩
      rw [← hW8] at h9 ⊢
      obtain ⟨k1, k2, k3⟩ := h9
      have hlp : Lp rc w3.heap.size .busy none W8 := ⟨(k2 _ (by rw [HZ4.out, Z3.out]; omega) (by rw [Z3.out]; omega) (by rw [Z3.out]; omega)).trans HL4.out.rcd, (k2 _ (by rw [HZ4.out, Z3.out]; omega) (by rw [Z3.out]; omega) (by rw [Z3.out]; omega)).trans HL4.out.dfr⟩
      refine ⟨hlp, .inl ⟨rfl, hlp.put, k1.kc (KC.put _ hlp.rcd) (below_put (by rw [Z3.out]; omega) hlp.rcd), ?_⟩⟩
      rw [World.putObj_size]
      have := HZ4.out
      omega
  case hrest =>
    rintro W9 rc st j hlp hl9
    obtain ⟨W10, hW10⟩ : ∃ W10, W10 = W9.putObj (w3.heap.size + 1) (.loop (rc .exhausted j)) := ⟨_, rfl⟩
    have hl10 : Lay P w (P + 1) lb (lb + 1) g p T L v0 first rest L W10 := by rw [hW10]; exact hl9.kc (KC.put _ hlp.rcd) (below_put (by rw [Z3.out]; omega) hlp.rcd)
    have hd10 : W10.heap[w3.heap.size]? = some (.deferred (some [])) := by rw [hW10]; exact hlp.put.dfr
    rw [← hW10]
    have HL10 := Lib.hid hl10
    have HD10 := Lib.hid hd10
    have c0 := hl10.box.cell
    have cm := hl10.seq.src.cells.c 2 rfl
    have r0 := hl10.res.c 0 rfl
    have r1 := hl10.res.c 1 rfl
    have r2 := hl10.res.c 2 rfl
    have f0 := hl10.res.fz 0
    have f1 := hl10.res.fz 1
    have f2 := hl10.res.fz 2
    clear hW10 hl10 hd10 hlp hl9
    have hpi : (p : Int) ≤ 9223372036854775807 := by omega
    dsimp only
    gi_wp2_with fail
    gi_region
    have hpP : P < w3.heap.size := by rw [Z3.out]; omega
    obtain ⟨W11, hW11⟩ : ∃ W11, W11 = (((W10.setCell ⟨P, 0, none⟩ (.slice (some ⟨P + 1, 0, none⟩) p p)).setCell ⟨P, 1, none⟩ (.int .i64 0)).setCell ⟨P, 2, none⟩ (.int .i64 (L.length : Int))).drew := ⟨_, rfl⟩
    have kb : ∀ b, b ≠ P → W11.heap[b]? = W10.heap[b]? := fun b hb => by
      rw [hW11]
      exact (heap_setCell_other _ ⟨P, 2, none⟩ b _ hb).trans ((heap_setCell_other _ ⟨P, 1, none⟩ b _ hb).trans (heap_setCell_other _ ⟨P, 0, none⟩ b _ hb))
    have hr11 : Bk W11 P 56 [.slice (some ⟨P + 1, 0, none⟩) p p, .int .i64 0, .int .i64 (L.length : Int)] := by
      rw [hW11]
      exact ((HL10.out.res.set 0 _).set 1 _).set 2 _
    have hb11 : Below P w W11 := by
      rw [hW11]
      exact (((HL10.out.bel.setCell (p := ⟨P, 0, none⟩) (Nat.le_refl _) _).setCell (p := ⟨P, 1, none⟩) (Nat.le_refl _) _).setCell (p := ⟨P, 2, none⟩) (Nat.le_refl _) _).drew
    have hd11 : W11.heap[w3.heap.size]? = some (.deferred (some [])) := (kb _ (by omega)).trans HD10.out
    have hrow : W11.ownsRow (P + 1) 64 2 (.slice (some ⟨P + 1, 0, none⟩) L.length p) L.length (cellsQ L) := by
      have := HL10.out.row
      refine ⟨this.1, ?_⟩
      rcases this.2 with ⟨hn, _⟩ | ⟨g', cap, cur, hv, hbs, hgg, r⟩
      · cases hn
      · cases hv
        exact .inr ⟨P + 1, _, cur, rfl, hbs, (kb (P + 1) (by omega)).trans hgg, r⟩
    rw [← hW11]
    clear hW11 c0 cm r0 r1 r2 f0 f1 f2
    gi_wp2_with fail
    refine ⟨by simp, .inl ⟨_, _, rfl, run_takeDeferred hd11, ?_⟩⟩
    have hko : ∀ b, b ≠ w3.heap.size → (W11.putObj w3.heap.size (.deferred none)).heap[b]? = W11.heap[b]? := fun b hb => World.putObj_heap_other hb
    have hr12 : Bk (W11.putObj w3.heap.size (.deferred none)) P 56 _ := (hko P (by omega)).trans hr11
    refine ⟨_, results_cell_row rfl _ _ P 56 _ _ _ rfl hr12 Try.underlying56 rfl (by kernel_rfl), ?_⟩
    rcases hrow.2 with ⟨hn, _⟩ | ⟨g', cap, cur, hv, hbs, hgg, h2, h3, h4, h5⟩
    · cases hn
    · cases hv
      refine ⟨P + 1, cur.toList, rfl, by rw [← HP.out]; omega, ?_, ?_, by simpa using h4, by simpa using h5⟩
      · rw [← HP.out]
        exact hb11.trans (below_put (by omega) hd11)
      · exact (hko (P + 1) (by rw [Z3.out]; omega)).trans (by simpa [Bk] using hgg)
theorem laid_any {w : World} {g : Nat} {T : TypeId} {L : List It} {v0 : Value} {first : Nat} {rest : List Value} (h : Src w g T L v0 first rest) (p : Nat) (hp : L.length ≤ p) (hb : 16 * p ≤ 281474976710656) :
    Calls Try.prog 26 #[.pointer (some ⟨g, 0, none⟩), .int .i64 (p : Int)] w (LaidP L p w) := (callsIn_wide (n := 3)).1 (laid_in 3 (Nat.le_refl _) h p hp hb)
end Go.Proofs.Ytpemdfdmnbhpjaa
