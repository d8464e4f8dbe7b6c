/- The outline of a reader's nodes: too many, too deep, or neither. -/
import Derived.Test.YtddeoemkjedonaaDoorMEbPlace
import Derived.Laws.Tables
import Derived.Laws.CopyRow
import Derived.Laws.ResultCell
import Derived.Deep.RegionHeld3
namespace Go.Proofs.YtddeoemkjedonaaDoor
open Go.RowKit Go.Shelf
set_option maxRecDepth 100000

theorem infoO : (Tryd.prog.info? 77).map (·.size) = some 128 := by kernel_rfl
theorem otl_size (F D : Nat → Nat) : (otlC F D).toArray.size = 128 := by simp [otlC_len]
theorem otl_one (F D : Nat → Nat) : (otlC F D).toArray.all (·.oneCell') = true := by
  rw [Array.all_eq_true_iff_forall_mem]
  intro x hx
  simp [otlC] at hx
  rcases hx with ⟨j, _, rfl⟩ | ⟨j, _, rfl⟩ <;> rfl
theorem otl_load {o : Oper} {ops : Array Oper} {rest : List Oper} {a : Act} {W : World} {Q : Exit → Act → World → Prop} (hgd : o.guard = none) (x : Operand) (ho : o.op = .load 77 x) (b : Nat) (hx : a.eval x = .pointer (some ⟨b, 0, none⟩)) (F D : Nat → Nat) (h : Otl W b F D)
    (hk : wpList Tryd.prog ops Q rest (a.put o.dst (.agg (otlC F D).toArray)) W) : wpList Tryd.prog ops Q (o :: rest) a W :=
  wpList_load_row hgd 77 x ho b hx 77 (otlC F D).toArray (0, 0) _ h Tryd.underlying77 rfl (by rw [otl_size]; exact infoO) hk
theorem otl_store {o : Oper} {ops : Array Oper} {rest : List Oper} {a : Act} {W : World} {Q : Exit → Act → World → Prop} (hgd : o.guard = none) (x y : Operand) (ho : o.op = .store 77 x y) (r : Nat) (F D F0 D0 : Nat → Nat) (hx : a.eval x = .pointer (some ⟨r, 0, none⟩)) (hy : a.eval y = .agg (otlC F D).toArray) (h : Otl W r F0 D0)
    (hk : ∀ W', Otl W' r F D → Below r W W' → wpList Tryd.prog ops Q rest (a.put o.dst undef) W') : wpList Tryd.prog ops Q (o :: rest) a W :=
  wpList_store_row hgd 77 x y ho r (otlC F D).toArray hx hy 77 (otlC F0 D0).toArray h (by rw [otl_size]; exact infoO) (by rw [otl_size, otl_size]) (otl_one F D)
    (hk _ (setRow_heap W r _ _ _ (0, 0) h) ⟨rfl, rfl, rfl, by simp [World.setRow], fun k hk => setRow_other W r k _ (by omega)⟩)
theorem outRes {fn : Func} {p u : Tmp} {tmps : Array Value} {W : World} {r : Nat} {F D : Nat → Nat} (hf : fn.results = #[.cell p 77, .tmp u]) (hp : tmps.getD p undef = .pointer (some ⟨r, 0, none⟩)) (h : Otl W r F D) :
    (results fn tmps).run Tryd.prog W = .ok (.tuple #[.agg (otlC F D).toArray, tmps.getD u undef]) W := by
  have hl := run_loadVar_row (P := Tryd.prog) W r 77 77 (otlC F D).toArray (0, 0) _ h Tryd.underlying77 rfl (by rw [otl_size]; exact infoO)
  have hp' : tmps[p]?.getD undef = .pointer (some ⟨r, 0, none⟩) := by simpa using hp
  rw [results_cell_tmp hf]
  simp [hp', asAddr, hl]
def zF : Nat → Nat := fun _ => 0
theorem wrap64_small {m : Nat} (h : m < 1000) : wrap64 (m : Int) = (m : Int) := by
  unfold wrap64
  omega
theorem zero_store {W : World} {r : Nat} (h : Otl W r zF zF) : (storeCells ⟨r, 0, none⟩ Tryd.zeroCells77.toList).run Tryd.prog W = .ok () W := by
  rw [← show (otlC zF zF).toArray = Tryd.zeroCells77 by kernel_rfl]
  have := run_storeCells_from (P := Tryd.prog) r 77 (otlC zF zF).toArray.toList 0 _ W h (by simp) (fun v hv => (Array.all_eq_true_iff_forall_mem.1 (otl_one zF zF)) v (by simpa using hv))
  rw [this]
  simp only [List.take_zero, List.nil_append, Array.toArray_toList]
  rw [setRow_self W r _ _ _ h]
def OutD (fault : Int) (w : World) (e : Ending) (w' : World) : Prop := (∃ F D, e = .returned (.tuple #[.agg (otlC F D).toArray, .int .i64 fault])) ∧ Below w.heap.size w w'
theorem zcells : (otlC zF zF).toArray = Tryd.zeroCells77 := by kernel_rfl
set_option maxHeartbeats 2000000 in
theorem outline_many (a : Option Addr) (n cap : Nat) (w : World) (hn : 64 < n) (hn2 : n ≤ 1000000000000) : Calls Tryd.prog 27 #[.slice a n cap] w (OutD 52 w) := by
  have d0 : decide ((64 : Int) < (n : Int)) = true := decide_eq_true (by omega)
  obtain ⟨W0, hW0, hr, hb, hB, hsz⟩ := new2 w 77 (otlC zF zF) (otlC zF zF)
  rw [zcells] at hW0
  have HW0 := Lib.hid hW0
  have HR : Hid (Otl W0 w.heap.size zF zF) := Lib.hid hr
  have HO : Hid (Otl W0 (w.heap.size + 1) zF zF) := Lib.hid hb
  have HB := Lib.hid hB
  clear hW0 hr hb hB
  go_enter Tryd.func27, Tryd.ntmps27
  go_upto_region 2 with (fail)
  rw [← HW0.out]
  go_upto_region 3 with (fail)
  apply wp_region_lit
  refine otl_load rfl _ rfl (w.heap.size + 1) rfl zF zF HO.out ?_
  refine otl_store rfl _ _ rfl w.heap.size zF zF zF zF rfl rfl HR.out ?_
  intro W1 hr1 hb1
  have HR1 := Lib.hid hr1
  have HB1 := Lib.hid (HB.out.trans hb1)
  clear hr1 hb1
  go_wp2
  exact bodyPost_ret (outRes rfl rfl HR1.out) rfl ⟨⟨_, _, rfl⟩, HB1.out⟩
theorem fst_le : ∀ (t : Ex) (o : Nat), ∀ x ∈ fstL o t, x ≤ o + cnt t := by
  intro t
  induction t with
  | lf l => intro o x hx; simp [fstL] at hx; omega
  | un k a ih =>
    intro o x hx
    have hc : cnt (.un k a) = cnt a + 1 := rfl
    simp only [fstL, List.mem_append, List.mem_singleton] at hx
    rcases hx with h | h
    · have := ih o x h; omega
    · omega
  | bi k a b iha ihb =>
    intro o x hx
    have hc : cnt (.bi k a b) = cnt a + cnt b + 1 := rfl
    simp only [fstL, List.mem_append, List.mem_singleton] at hx
    rcases hx with h | h | h
    · have := iha o x h; omega
    · have := ihb _ x h; omega
    · omega
theorem dep_cnt : ∀ t : Ex, dep t ≤ cnt t := by
  intro t
  induction t with
  | lf l => exact Nat.le_refl _
  | un k a ih => show dep a + 1 ≤ cnt a + 1; omega
  | bi k a b iha ihb => show max (dep a) (dep b) + 1 ≤ cnt a + cnt b + 1; omega
theorem dep_le : ∀ (t : Ex), ∀ x ∈ depL t, x ≤ cnt t := by
  intro t
  induction t with
  | lf l => intro x hx; simp [depL] at hx; subst hx; exact Nat.le_refl _
  | un k a ih =>
    intro x hx
    have hc : cnt (.un k a) = cnt a + 1 := rfl
    have := dep_cnt a
    simp only [depL, List.mem_append, List.mem_singleton] at hx
    rcases hx with h | h
    · have := ih x h; omega
    · omega
  | bi k a b iha ihb =>
    intro x hx
    have hc : cnt (.bi k a b) = cnt a + cnt b + 1 := rfl
    have := dep_cnt a
    have := dep_cnt b
    simp only [depL, List.mem_append, List.mem_singleton] at hx
    rcases hx with h | h | h
    · have := iha x h; omega
    · have := ihb x h; omega
    · omega
theorem getD_of {l : List Nat} {j m : Nat} (h : ∀ x ∈ l, x ≤ m) : l.getD j 0 ≤ m := by
  rw [List.getD_eq_getElem?_getD]
  cases hj : l[j]? with
  | none => exact Nat.zero_le _
  | some x => exact h x (List.mem_of_getElem? hj)
theorem eq00 : eqB 0 0 = true := by decide
theorem plain_step {F D : Nat → Nat} {i : Nat} {n : Nd} (hi : i < 64) (h : StepN F D i n) : ∃ K, K < 27 ∧ PlainN K n ∧ eqB n.rl n.rl = true ∧ n.re = 0 ∧ n.im = 0 := by
  rcases h with ⟨l, hl, hn, hF, hD⟩ | ⟨K, hK, hc, hi1, hn, hF, hD⟩ | ⟨K, m, hK, hc, hi1, hm, hn, hF, hD⟩
  · obtain ⟨K, hK, hP, _⟩ := plain_leaf hl
    refine ⟨K, hK, by rw [hn]; exact hP, ?_, ?_, ?_⟩
    · rw [hn]
      cases l with
      | real b => exact fin_self (of_decide_eq_true hl)
      | var t => exact eq00
      | int v => exact eq00
      | text v => exact eq00
      | bool v => exact eq00
    · rw [hn]; cases l <;> rfl
    · rw [hn]; cases l <;> rfl
  · exact ⟨K, hK, .one _ (by omega) hc hn, by rw [hn]; exact eq00, by rw [hn]; rfl, by rw [hn]; rfl⟩
  · exact ⟨K, hK, .two _ _ (by omega) (by omega) hc hn, by rw [hn]; exact eq00, by rw [hn]; rfl, by rw [hn]; rfl⟩
theorem nd_neq (n : Nd) (h1 : eqB n.rl n.rl = true) (h2 : n.re = 0) (h3 : n.im = 0) (W : World) :
    (binOp .neq 55 (.agg #[.int .i64 n.k, .int .i64 n.a, .int .i64 n.b, .string n.nm, .int .i64 n.vk, .int .i64 n.vi, .float .f64 n.rl, .complex .f64 0 0, .string n.tx]) (.agg #[.int .i64 n.k, .int .i64 n.a, .int .i64 n.b, .string n.nm, .int .i64 n.vk, .int .i64 n.vi, .float .f64 n.rl, .complex .f64 0 0, .string n.tx])).run Tryd.prog W = .ok (.bool false) W := by
  have h1' : (FloatKind.f64.format.order n.rl n.rl == some Ordering.eq) = true := h1
  have h0 : (FloatKind.f64.format.order 0 0 == some Ordering.eq) = true := by decide
  have e1 : (Op.equalIn 9998 33 (.float .f64 n.rl) (.float .f64 n.rl)).run Tryd.prog W = .ok (eqB n.rl n.rl) W := rfl
  have e2 : (Op.equalIn 9998 51 (.complex .f64 0 0) (.complex .f64 0 0)).run Tryd.prog W = .ok (eqB 0 0 && eqB 0 0) W := rfl
  rw [h1] at e1
  rw [eq00] at e2
  go_simp
/-- nodes in memory -/
def NodesAt (w : World) (g : Nat) (ns : List Nd) : Prop := ∀ (i j : Nat) (v : Value), i < ns.length → (ndCells (ns.getD i default))[j]? = some v → w.cell? ⟨g, i * 9 + j, none⟩ = some v
theorem NodesAt.keep {w w' : World} {B g : Nat} {ns : List Nd} (h : NodesAt w g ns) (hb : Below B w w') (hg : g < B) : NodesAt w' g ns := fun i j v hi hj => (hb.cell (p := ⟨g, i * 9 + j, none⟩) hg).trans (h i j v hi hj)
set_option maxHeartbeats 4000000 in
theorem outline_any (g cap : Nat) (t : Ex) (hw : WfT t) (hc : cnt t ≤ 64) (w : World) (hN : NodesAt w g (lay 0 t)) (hT : Tab w) (hg : 0 < w.heap.size) (hgl : g < w.heap.size) :
    Calls Tryd.prog 27 #[.slice (some ⟨g, 0, none⟩) (cnt t) cap] w (OutD (if 12 < dep t then 51 else 0) w) := by
  obtain ⟨F, hF⟩ : ∃ F : Nat → Nat, F = fun j => (fstL 0 t).getD j 0 := ⟨_, rfl⟩
  obtain ⟨D, hD⟩ : ∃ D : Nat → Nat, D = fun j => (depL t).getD j 0 := ⟨_, rfl⟩
  have hst := steps F D t 0 hw (fun j _ => by rw [hF, Nat.zero_add]) (fun j _ => by rw [hD, Nat.zero_add])
  have hDb : ∀ j, D j ≤ 900 := fun j => by rw [hD]; have := getD_of (l := depL t) (j := j) (dep_le t); simp only; omega
  have hF1 : F (cnt t - 1) = 0 := by rw [hF]; exact fst_last t 0
  have hD1 : D (cnt t - 1) = dep t := by rw [hD]; exact dep_last t
  have hp := cnt_pos t
  have hNl := lay_len t 0
  obtain ⟨W0, hW0, hr, hb, hB, hsz⟩ := new2 w 77 (otlC zF zF) (otlC zF zF)
  rw [zcells] at hW0
  have HW0 := Lib.hid hW0
  have HR : Hid (Otl W0 w.heap.size zF zF) := Lib.hid hr
  have HO : Hid (Otl W0 (w.heap.size + 1) zF zF) := Lib.hid hb
  have HB := Lib.hid hB
  have HN := Lib.hid (hN.keep hB hgl)
  have HT := Lib.hid (hT.of_block (hB.block _ hg))
  have HST := Lib.hid hst
  have HDB := Lib.hid hDb
  have HF1 := Lib.hid hF1
  have HD1 := Lib.hid hD1
  have HNL := Lib.hid hNl
  obtain ⟨N, hNN⟩ : ∃ N, N = cnt t := ⟨_, rfl⟩
  generalize hns : lay 0 t = ns at HN HST HNL
  generalize hdp : dep t = dp at HD1 ⊢
  rw [← hNN] at HF1 HD1 HNL hc hp HST ⊢
  have d0 : decide ((64 : Int) < (N : Int)) = false := decide_eq_false (by omega)
  clear hF hD hst hDb hF1 hD1 hW0 hr hb hB hN hT hw hNl hns hdp hNN
  have hsz1 := Lib.hid hsz
  clear hsz
  have HPC := Lib.hid (And.intro hp hc)
  obtain ⟨M, hM⟩ : ∃ M, M = N - 1 := ⟨_, rfl⟩
  rw [← hM] at HF1 HD1
  have HM := Lib.hid (show ((N : Int) - 1) = (M : Int) by omega)
  have HM2 := Lib.hid hM
  have HMW := Lib.hid (wrap64_small (m := M) (by omega))
  clear hM
  clear hp hc
  obtain ⟨fl, hfl⟩ : ∃ fl : Int, fl = if 12 < dp then 51 else 0 := ⟨_, rfl⟩
  rw [← hfl]
  have HFL := Lib.hid hfl
  clear hfl
  go_enter Tryd.func27, Tryd.ntmps27
  go_upto_region 2 with (fail)
  rw [← HW0.out]
  go_wp2
  rw [HM.out, HMW.out]
  go_loopw [17] (fun v wr => ∃ k : Nat, v = .int .i64 k ∧ k ≤ N ∧ Hid (∃ F1 D1, Otl wr (w.heap.size + 1) F1 D1 ∧ Agr F1 D1 F D k) ∧ Hid (Below (w.heap.size + 1) W0 wr)) (fun v _ => N - (intOf v).toNat)
  case atStart => exact ⟨0, rfl, by omega, Lib.hid ⟨_, _, HO.out, fun j hj => absurd hj (by omega)⟩, Lib.hid (Below.refl _ _)⟩
  case round =>
    obtain ⟨k, rfl, hk, HA, HBR⟩ := hrel
    obtain ⟨hp, hc⟩ := HPC.out
    rcases Nat.lt_or_ge k N with hlt | hge
    · obtain ⟨F1, D1, hO1, hA1⟩ := HA.out
      have hgb : g < w.heap.size + 1 := by omega
      have HNR := Lib.hid (HN.out.keep HBR.out hgb)
      have hS := HST.out k hlt
      rw [Nat.zero_add] at hS
      obtain ⟨K, hK27, hPl, he1, he2, he3⟩ := plain_step (by omega) hS
      obtain ⟨n, hn⟩ : ∃ n, n = ns.getD k default := ⟨_, rfl⟩
      have hkl : k < ns.length := by rw [HNL.out]; exact hlt
      rw [← hn] at hS hPl he1 he2 he3
      have c0 : wr.cell? ⟨g, k * 9, none⟩ = some (.int .i64 n.k) := HNR.out k 0 _ hkl (by rw [← hn]; rfl)
      have c1 : wr.cell? ⟨g, k * 9 + 1, none⟩ = some (.int .i64 n.a) := HNR.out k 1 _ hkl (by rw [← hn]; rfl)
      have c2 : wr.cell? ⟨g, k * 9 + 2, none⟩ = some (.int .i64 n.b) := HNR.out k 2 _ hkl (by rw [← hn]; rfl)
      have c3 : wr.cell? ⟨g, k * 9 + 3, none⟩ = some (.string n.nm) := HNR.out k 3 _ hkl (by rw [← hn]; rfl)
      have c4 : wr.cell? ⟨g, k * 9 + 4, none⟩ = some (.int .i64 n.vk) := HNR.out k 4 _ hkl (by rw [← hn]; rfl)
      have c5 : wr.cell? ⟨g, k * 9 + 5, none⟩ = some (.int .i64 n.vi) := HNR.out k 5 _ hkl (by rw [← hn]; rfl)
      have c6 : wr.cell? ⟨g, k * 9 + 6, none⟩ = some (.float .f64 n.rl) := HNR.out k 6 _ hkl (by rw [← hn]; rfl)
      have c7 : wr.cell? ⟨g, k * 9 + 7, none⟩ = some (.complex .f64 n.re n.im) := HNR.out k 7 _ hkl (by rw [← hn]; rfl)
      have c8 : wr.cell? ⟨g, k * 9 + 8, none⟩ = some (.string n.tx) := HNR.out k 8 _ hkl (by rw [← hn]; rfl)
      rw [he2, he3] at c7
      have HO1 := Lib.hid hO1
      have HA1 := Lib.hid hA1
      have HS := Lib.hid hS
      have HPL := Lib.hid hPl
      have HNE := nd_neq n he1 he2 he3
      have he23 := Lib.hid (And.intro he2 he3)
      have hnd : ndV n = .agg #[.int .i64 n.k, .int .i64 n.a, .int .i64 n.b, .string n.nm, .int .i64 n.vk, .int .i64 n.vi, .float .f64 n.rl, .complex .f64 0 0, .string n.tx] := by unfold ndV; rw [he2, he3]
      have HND := Lib.hid hnd
      have hncl : ndCells n = [.int .i64 n.k, .int .i64 n.a, .int .i64 n.b, .string n.nm, .int .i64 n.vk, .int .i64 n.vi, .float .f64 n.rl, .complex .f64 0 0, .string n.tx] := by unfold ndCells; rw [he2, he3]
      have HNCL := Lib.hid hncl
      have sf := store_float
      have sc := store_cplx
      have hwr : w.heap.size + 1 < wr.heap.size := hO1.lt
      clear hO1 hA1 hS hPl he1 he2 he3 hn hnd hncl
      go_upto_region 8 with (fail)
      have hb8 : Below wr.heap.size wr (wr.alloc (.cells #[.int .i64 n.k, .int .i64 n.a, .int .i64 n.b, .string n.nm, .int .i64 n.vk, .int .i64 n.vi, .float .f64 n.rl, .complex .f64 0 0, .string n.tx] 55)) := (Below.refl _ _).alloc (Nat.le_refl _) _
      have HX8 : Hid (Bx (wr.alloc (.cells #[.int .i64 n.k, .int .i64 n.a, .int .i64 n.b, .string n.nm, .int .i64 n.vk, .int .i64 n.vi, .float .f64 n.rl, .complex .f64 0 0, .string n.tx] 55)) wr.heap.size 55 [.int .i64 n.k, .int .i64 n.a, .int .i64 n.b, .string n.nm, .int .i64 n.vk, .int .i64 n.vi, .float .f64 n.rl, .complex .f64 0 0, .string n.tx]) := Lib.hid (Bx.new wr _ _)
      have HO8 := Lib.hid (HO1.out.keep hb8 hwr)
      have HB8 := Lib.hid (HBR.out.trans (hb8.mono (Nat.le_of_lt hwr)))
      have HZ8 : Hid ((wr.alloc (.cells #[.int .i64 n.k, .int .i64 n.a, .int .i64 n.b, .string n.nm, .int .i64 n.vk, .int .i64 n.vi, .float .f64 n.rl, .complex .f64 0 0, .string n.tx] 55)).heap.size = wr.heap.size + 1) := Lib.hid (by simp)
      clear hb8 c0 c1 c2 c3 c4 c5 c6 c7 c8
      generalize wr.alloc (.cells #[.int .i64 n.k, .int .i64 n.a, .int .i64 n.b, .string n.nm, .int .i64 n.vk, .int .i64 n.vi, .float .f64 n.rl, .complex .f64 0 0, .string n.tx] 55) = W8 at HX8 HO8 HB8 HZ8 ⊢
      have HP : Hid (∀ W, Below W8.heap.size W8 W → Calls Tryd.prog 38 #[.agg #[.int .i64 n.k, .int .i64 n.a, .int .i64 n.b, .string n.nm, .int .i64 n.vk, .int .i64 n.vi, .float .f64 n.rl, .complex .f64 0 0, .string n.tx], .int .i64 0] W fun e w' => e = .returned (.agg #[.int .i64 n.k, .int .i64 n.a, .int .i64 n.b, .string n.nm, .int .i64 n.vk, .int .i64 n.vi, .float .f64 n.rl, .complex .f64 0 0, .string n.tx]) ∧ Below W.heap.size W w') := Lib.hid (fun W hW => by
        have := plain_any K n hK27 HPL.out W (HT.out.of_block ((HB8.out.trans (hW.mono (by have := HZ8.out; omega))).block _ (by omega))) (by have := hW.size; have := HZ8.out; omega)
        rw [HND.out] at this
        exact this)
      have HQ : Hid (∀ W, Below W8.heap.size W8 W → Calls Tryd.prog 39 #[.pointer (some ⟨w.heap.size + 1, 0, none⟩), .int .i64 k, .agg #[.int .i64 n.k, .int .i64 n.a, .int .i64 n.b, .string n.nm, .int .i64 n.vk, .int .i64 n.vi, .float .f64 n.rl, .complex .f64 0 0, .string n.tx]] W (PlaceD (w.heap.size + 1) k F D W)) := Lib.hid (fun W hW => by
        have := place_any (w.heap.size + 1) k F1 D1 F D n W (HO8.out.keep hW HO8.out.lt) (by omega) HA1.out HDB.out HS.out (HT.out.of_block ((HB8.out.trans (hW.mono (by have := HZ8.out; omega))).block _ (by omega))) (by omega)
        rw [HND.out] at this
        exact this)
      have k0 := HX8.out.c 0 rfl; have k1 := HX8.out.c 1 rfl; have k2 := HX8.out.c 2 rfl; have k3 := HX8.out.c 3 rfl; have k4 := HX8.out.c 4 rfl; have k5 := HX8.out.c 5 rfl; have k6 := HX8.out.c 6 rfl; have k7 := HX8.out.c 7 rfl; have k8 := HX8.out.c 8 rfl; skip
      have hz8 : wr.heap.size < W8.heap.size := HX8.out.lt
      go_region_held3 (fun W' => W'.cell? ⟨wr.heap.size, 0, none⟩ = some (.int .i64 n.k) ∧ W'.cell? ⟨wr.heap.size, 1, none⟩ = some (.int .i64 n.a) ∧ W'.cell? ⟨wr.heap.size, 2, none⟩ = some (.int .i64 n.b) ∧ W'.cell? ⟨wr.heap.size, 3, none⟩ = some (.string n.nm) ∧ W'.cell? ⟨wr.heap.size, 4, none⟩ = some (.int .i64 n.vk) ∧ W'.cell? ⟨wr.heap.size, 5, none⟩ = some (.int .i64 n.vi) ∧ W'.cell? ⟨wr.heap.size, 6, none⟩ = some (.float .f64 n.rl) ∧ W'.cell? ⟨wr.heap.size, 7, none⟩ = some (.complex .f64 0 0) ∧ W'.cell? ⟨wr.heap.size, 8, none⟩ = some (.string n.tx))
        (first | (refine ⟨?_, ?_, ?_, ?_, ?_, ?_, ?_, ?_, ?_⟩ <;> assumption) | go_keep)
        (first
          | (go_at_call 38; with_reducible refine (HP.out _ (by first | exact Below.refl _ _ | exact drew_below _)).mono ?_; rintro e w9 ⟨rfl, hb9⟩; have hb9 : Below W8.heap.size W8 w9 := (by first | exact hb9 | exact (drew_below _).trans (hb9.mono (drew_below _).size)); have HB9 := Lib.hid hb9; have HX9 := Lib.hid (HX8.out.keep hb9 HX8.out.lt); clear hb9; have k0 := HX9.out.c 0 rfl; have k1 := HX9.out.c 1 rfl; have k2 := HX9.out.c 2 rfl; have k3 := HX9.out.c 3 rfl; have k4 := HX9.out.c 4 rfl; have k5 := HX9.out.c 5 rfl; have k6 := HX9.out.c 6 rfl; have k7 := HX9.out.c 7 rfl; have k8 := HX9.out.c 8 rfl; have hz9 : wr.heap.size < w9.heap.size := HX9.out.lt)
          | (go_at_call 39; with_reducible refine (HQ.out _ HB9.out).mono ?_; rintro e w10 hpd; unfold PlaceD at hpd; obtain ⟨hpe, hp10, hb10, hx10⟩ := hpd; subst hpe; have HP10 := Lib.hid hp10; have HB10 := Lib.hid (HB8.out.trans ((HB9.out.mono (by have := HO8.out.lt; omega)).trans hb10)); have HX10 : Hid (Bx w10 wr.heap.size 55 [.int .i64 n.k, .int .i64 n.a, .int .i64 n.b, .string n.nm, .int .i64 n.vk, .int .i64 n.vi, .float .f64 n.rl, .complex .f64 0 0, .string n.tx]) := Lib.hid (HX9.out.oth hx10 (by omega)); clear hp10 hb10 hx10; have k0 := HX10.out.c 0 rfl; have k1 := HX10.out.c 1 rfl; have k2 := HX10.out.c 2 rfl; have k3 := HX10.out.c 3 rfl; have k4 := HX10.out.c 4 rfl; have k5 := HX10.out.c 5 rfl; have k6 := HX10.out.c 6 rfl; have k7 := HX10.out.c 7 rfl; have k8 := HX10.out.c 8 rfl; have hz10 : wr.heap.size < w10.heap.size := HX10.out.lt))
      go_wp2
      go_roundw
      case rel => exact ⟨k + 1, by go_num, by omega, HP10, HB10⟩
      case measure => simp [intOf]; omega
    · obtain rfl : k = N := by omega
      obtain ⟨F1, D1, hO1, hA1⟩ := HA.out
      have hM64 : M < 64 := by have := HM2.out; omega
      obtain ⟨g1, g2⟩ := hA1 M (by have := HM2.out; omega)
      have c1 := hO1.cF hM64
      have c2 := hO1.cD hM64
      rw [g1, HF1.out] at c1
      rw [g2, HD1.out] at c2
      have c1' : wr.cell? ⟨w.heap.size + 1, M, none⟩ = some (.int .i64 0) := c1
      have e1 : (M : Int) < 64 := by omega
      have HO1 := Lib.hid hO1
      have HR1 : Hid (Otl wr w.heap.size zF zF) := Lib.hid (HR.out.keep HBR.out (by omega))
      have HBW : Hid (Below w.heap.size w wr) := Lib.hid (HB.out.trans (HBR.out.mono (by omega)))
      clear hO1 hA1 g1 g2 c1
      by_cases hd : 12 < dp
      · have d12 : decide ((12 : Int) < (dp : Int)) = true := decide_eq_true (by omega)
        have HE : Hid (fl = 51) := Lib.hid (by rw [HFL.out, if_pos hd])
        clear hd
        have hz := zero_store HR1.out
        go_wp2
        exact bodyPost_ret (outRes rfl rfl HR1.out) rfl ⟨⟨_, _, by rw [HE.out]; rfl⟩, HBW.out⟩
      · have d12 : decide ((12 : Int) < (dp : Int)) = false := decide_eq_false (by omega)
        have HE : Hid (fl = 0) := Lib.hid (by rw [HFL.out, if_neg hd])
        clear hd
        go_upto_region 15 with (fail)
        apply wp_region_lit
        refine otl_load rfl _ rfl (w.heap.size + 1) rfl F1 D1 HO1.out ?_
        refine otl_store rfl _ _ rfl w.heap.size F1 D1 zF zF rfl rfl HR1.out ?_
        intro W1 hr1 hb1
        have HR2 := Lib.hid hr1
        have HB2 := Lib.hid (HBW.out.trans hb1)
        clear hr1 hb1
        go_wp2
        exact bodyPost_ret (outRes rfl rfl HR2.out) rfl ⟨⟨_, _, by rw [HE.out]; rfl⟩, HB2.out⟩
end Go.Proofs.YtddeoemkjedonaaDoor
