/- May of a reader's nodes; the whole expression. -/
import Derived.Test.YtddeoemkjedonaaDoorEbOut
namespace Go.Proofs.YtddeoemkjedonaaDoor
open Go.RowKit Go.Shelf
set_option maxRecDepth 100000

/-- what the limits say of a tree -/
def faultT (t : Ex) : Int := if 64 < cnt t then 52 else if 12 < dep t then 51 else 0
theorem out_of (g cap : Nat) (t : Ex) (hw : WfT t) (hc : cnt t ≤ 1000000000000) (w : World) (hN : NodesAt w g (lay 0 t)) (hT : Tab w) (hg : 0 < w.heap.size) (hgl : g < w.heap.size) :
    Calls Tryd.prog 27 #[.slice (some ⟨g, 0, none⟩) (cnt t) cap] w (OutD (faultT t) w) := by
  unfold faultT
  by_cases h : 64 < cnt t
  · rw [if_pos h]; exact outline_many _ _ _ w h hc
  · rw [if_neg h]; exact outline_any g cap t hw (by omega) w hN hT hg hgl
theorem otl_put {W : World} {r : Nat} {F0 D0 : Nat → Nat} (F D : Nat → Nat) (h : Otl W r F0 D0) : (storeCells ⟨r, 0, none⟩ (otlC F D)).run Tryd.prog W = .ok () (W.setRow r (otlC F D).toArray) := by
  have := run_storeCells_from (P := Tryd.prog) r 77 (otlC F D) 0 _ W h (by simp [otlC_len]) (fun v hv => (Array.all_eq_true_iff_forall_mem.1 (otl_one F D)) v (by simpa using hv))
  rw [this]
  simp only [List.take_zero, List.nil_append]
theorem below_row {B r : Nat} {w W : World} (hb : Below B w W) (hr : B ≤ r) (cs : Array Value) : Below B w (W.setRow r cs) := hb.trans ⟨rfl, rfl, rfl, by simp [World.setRow], fun k hk => setRow_other W r k cs (by omega)⟩
set_option maxHeartbeats 2000000 in
theorem eMay_any (g cap : Nat) (t : Ex) (hw : WfT t) (hc : cnt t ≤ 1000000000000) (w : World) (hN : NodesAt w g (lay 0 t)) (hT : Tab w) (hg : 0 < w.heap.size) (hgl : g < w.heap.size) :
    Calls Tryd.prog 19 #[.agg #[.slice (some ⟨g, 0, none⟩) (cnt t) cap]] w fun e w' => e = .returned (.int .i64 (faultT t)) ∧ Below w.heap.size w w' := by
  obtain ⟨W0, hW0⟩ : ∃ W0, W0 = w.alloc (.cells #[.slice (some ⟨g, 0, none⟩) (cnt t) cap] 27) := ⟨_, rfl⟩
  have hb0 : Below w.heap.size w W0 := by rw [hW0]; exact (Below.refl _ w).alloc (Nat.le_refl _) _
  have hx0 : Bx W0 w.heap.size 27 [.slice (some ⟨g, 0, none⟩) (cnt t) cap] := by rw [hW0]; exact Bx.new w _ _
  have HO := Lib.hid (out_of g cap t hw hc W0 (hN.keep hb0 hgl) (hT.of_block (hb0.block _ hg)) (by have := hb0.size; omega) (by have := hb0.size; omega))
  have c0 := hx0.c 0 rfl
  have HB0 := Lib.hid hb0
  have HW0 := Lib.hid hW0
  generalize faultT t = fl at HO ⊢
  generalize cnt t = N at HO HW0 c0 hx0 ⊢
  clear hW0 hb0 hx0 hN hT hw hc
  go_enter Tryd.func19, Tryd.ntmps19
  go_upto_region 1 with (fail)
  rw [← HW0.out]
  go_wp2_with (go_at_call 27; refine HO.out.mono ?_; rintro e w1 hpd; unfold OutD at hpd; obtain ⟨⟨F, D, hpe⟩, hb1⟩ := hpd; subst hpe; have HB1 := Lib.hid (HB0.out.trans (hb1.mono HB0.out.size)); clear hb1; have hl := otlC_len F D; have hz := otl_put F D (show Otl (w1.alloc (.cells Tryd.zeroCells77 77)) w1.heap.size zF zF from zcells ▸ heap_alloc_new _ _))
  go_ret
  exact ⟨rfl, below_row (HB1.out.alloc HB1.out.size _) HB1.out.size _⟩
theorem flatN_at : ∀ (ns : List Nd) (k j : Nat), k < ns.length → j < 9 → (flatN ns)[k * 9 + j]? = (ndCells (ns.getD k default))[j]?
  | [], k, j, h, _ => by simp at h
  | y :: ys, 0, j, h, hj => by
    have hl : (ndCells y).length = 9 := rfl
    unfold flatN
    rw [List.flatMap_cons, List.getElem?_append_left (by omega)]
    simp
  | y :: ys, k + 1, j, h, hj => by
    have hl : (ndCells y).length = 9 := rfl
    have := flatN_at ys k j (by simpa using h) hj
    unfold flatN at this ⊢
    rw [List.flatMap_cons, List.getElem?_append_right (by omega), hl]
    rw [show (k + 1) * 9 + j - 9 = k * 9 + j by omega]
    simpa using this
theorem ndCells_lt {n : Nd} {j : Nat} {v : Value} (h : (ndCells n)[j]? = some v) : j < 9 := by
  obtain ⟨hj, _⟩ := List.getElem?_eq_some_iff.1 h
  exact hj
/-- a row of nodes of the call's own, read -/
theorem nodes_own {w : World} {base n : Nat} {e : TypeId} {v : Value} {ns : List Nd} (hn : ns.length = n) (h0 : 0 < n) (h : w.ownsRow base e 9 v n (flatN ns)) : ∃ g c, v = .slice (some ⟨g, 0, none⟩) n c ∧ base ≤ g ∧ g < w.heap.size ∧ NodesAt w g ns := by
  rcases h.2 with ⟨_, hn⟩ | ⟨g, c, cur, hv, hg, hgg, rest⟩
  · omega
  · have hlt : g < w.heap.size := (Array.getElem?_eq_some_iff.1 hgg).1
    subst hv
    refine ⟨g, c, rfl, hg, hlt, fun i j v hi hj => ?_⟩
    have h9 := ndCells_lt hj
    rw [h.cellAt (i * 9 + j) (by omega), flatN_at ns i j hi h9]
    exact hj
/-- the reader's nodes, read -/
theorem St.nodes {w : World} {p cap k : Nat} {a : Option Addr} {L : List TokE} {nv : Value} {ns : List Nd} (h : St w p cap a L k nv ns) (h0 : 0 < ns.length) : ∃ g c, nv = .slice (some ⟨g, 0, none⟩) ns.length c ∧ p + 1 ≤ g ∧ g < w.heap.size ∧ NodesAt w g ns :=
  nodes_own rfl h0 h.row
theorem exprRes {fn : Func} {p : Tmp} {tmps : Array Value} {W : World} {g : Nat} {v : Value} (hf : fn.results = #[.cell p 27]) (hp : tmps.getD p undef = .pointer (some ⟨g, 0, none⟩)) (h : Bx W g 27 [v]) :
    (results fn tmps).run Tryd.prog W = .ok (.agg #[v]) W := results_cell_row hf _ _ g 27 _ (0, 0) _ hp h Tryd.underlying27 rfl (by kernel_rfl)
/-- the expression that was read, or what reading is given up with -/
def WholeD (p g c from_ : Nat) (t : Ex) (w : World) (e : Ending) (w' : World) : Prop :=
  ((faultT t ≠ 0 ∧ e = gaveUp from_ (faultT t)) ∨ (faultT t = 0 ∧ e = .returned (.agg #[.slice (some ⟨g, 0, none⟩) (cnt t) c]))) ∧ Below w.heap.size w w'
theorem faultT_cases (t : Ex) : (faultT t = 0 ∧ cnt t ≤ 64 ∧ dep t ≤ 12) ∨ faultT t = 51 ∨ faultT t = 52 := by
  unfold faultT
  by_cases h : 64 < cnt t
  · rw [if_pos h]; exact .inr (.inr rfl)
  · rw [if_neg h]
    by_cases h2 : 12 < dep t
    · rw [if_pos h2]; exact .inr (.inl rfl)
    · rw [if_neg h2]; exact .inl ⟨rfl, by omega, by omega⟩
set_option maxHeartbeats 2000000 in
theorem ewhole_any (p cap k g c from_ : Nat) (a : Option Addr) (L : List TokE) (t : Ex) (w : World) (hw : WfT t) (hc : cnt t ≤ 1000000000000) (h : St w p cap a L k (.slice (some ⟨g, 0, none⟩) (cnt t) c) (lay 0 t)) (hN : NodesAt w g (lay 0 t)) (hgl : g < w.heap.size) :
    Calls Tryd.prog 10 #[.pointer (some ⟨p, 0, none⟩), .int .i64 from_] w (WholeD p g c from_ t w) := by
  have c2 := h.rdr.c2
  have hgp := h.gp
  have hlt := h.rdr.lt
  have HT := Lib.hid h.tab
  have HN := Lib.hid hN
  have HM : Hid (∀ W, Below w.heap.size w W → Calls Tryd.prog 19 #[.agg #[.slice (some ⟨g, 0, none⟩) (cnt t) c]] W fun e w' => e = .returned (.int .i64 (faultT t)) ∧ Below W.heap.size W w') :=
    Lib.hid (fun W hW => eMay_any g c t hw hc W (HN.out.keep hW hgl) (HT.out.of_block (hW.block _ (by omega))) (by have := hW.size; omega) (by have := hW.size; omega))
  have HF := Lib.hid (faultT_cases t)
  unfold WholeD
  generalize faultT t = fl at HM HF ⊢
  generalize cnt t = N at HM c2 ⊢
  clear h hN hw hc
  obtain ⟨W0, hW0⟩ : ∃ W0, W0 = (w.alloc (.cells #[.slice none 0 0] 27)).alloc (.cells #[.slice (some ⟨g, 0, none⟩) N c] 27) := ⟨_, rfl⟩
  have hs1 : (w.alloc (.cells #[.slice none 0 0] 27)).heap.size = w.heap.size + 1 := by simp
  have hx0 : Bx W0 w.heap.size 27 [.slice none 0 0] := by
    rw [hW0]
    exact (Bx.new w 27 [.slice none 0 0]).keep ((Below.refl (w.heap.size + 1) _).alloc (by omega) _) (by omega)
  have hx1 : Bx W0 (w.heap.size + 1) 27 [.slice (some ⟨g, 0, none⟩) N c] := by
    rw [hW0, ← hs1]
    exact Bx.new _ 27 [.slice (some ⟨g, 0, none⟩) N c]
  have hb0 : Below w.heap.size w W0 := by rw [hW0]; exact ((Below.refl _ w).alloc (Nat.le_refl _) _).alloc (by omega) _
  have HW0 := Lib.hid hW0
  have HX0 := Lib.hid hx0
  have HX1 := Lib.hid hx1
  have HB0 := Lib.hid hb0
  clear hW0 hx0 hx1 hb0 hs1
  by_cases h0 : fl = 0
  · subst h0
    clear HF
    go_enter Tryd.func10, Tryd.ntmps10
    go_wp2_with (fail)
    rw [← HW0.out]
    refine (HM.out _ HB0.out).mono ?_
    rintro e w1 ⟨rfl, hb⟩
    have HB := Lib.hid (HB0.out.trans (hb.mono HB0.out.size))
    have hx0 := HX0.out.keep hb HX0.out.lt
    have hx1 := HX1.out.keep hb HX1.out.lt
    have a0 := hx0.c 0 rfl
    have f0 := hx0.fz 0
    have a1 := hx1.c 0 rfl
    have HXA := Lib.hid hx0
    clear hb hx0 hx1
    go_wp2
    have HX2 : Hid (Bx (w1.setCell ⟨w.heap.size, 0, none⟩ (.slice (some ⟨g, 0, none⟩) N c)) w.heap.size 27 [.slice (some ⟨g, 0, none⟩) N c]) := Lib.hid (HXA.out.set 0 _)
    exact bodyPost_ret (exprRes rfl rfl HX2.out) rfl ⟨.inr ⟨trivial, rfl⟩, HB.out.setCell (Nat.le_refl _) _⟩
  · have d1 : (fl == 0) = false := beq_eq_false_iff_ne.2 h0
    go_enter Tryd.func10, Tryd.ntmps10
    go_wp2_with (fail)
    rw [← HW0.out]
    refine (HM.out _ HB0.out).mono ?_
    rintro e w1 ⟨rfl, hb⟩
    have HB := Lib.hid (HB0.out.trans (hb.mono HB0.out.size))
    clear hb
    have hgu : gaveUp from_ fl = .panicked [{ v := .iface 39 (.agg #[.int .i64 from_, .int .i64 fl]), recovered := false }] := rfl
    go_wp2
    exact ⟨rfl, .inl ⟨h0, rfl⟩, HB.out⟩
end Go.Proofs.YtddeoemkjedonaaDoor
