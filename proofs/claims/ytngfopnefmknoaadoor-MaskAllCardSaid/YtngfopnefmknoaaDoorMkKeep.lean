/- Masks: rows that grow while the old ones are kept, lists of rows. -/
import Derived.Test.YtngfopnefmknoaaDoorMkArrIn
import Derived.Deep.DeepAppendRoom
set_option linter.all false
namespace Go.Proofs.YtngfopnefmknoaaDoor
open Go.RowKit
set_option maxRecDepth 100000
theorem ir_set {W : World} {B b c : Nat} {F : List Nat} {l : List Int} (h : Ir W B F (.slice (some ⟨b, 0, none⟩) l.length c) l) {k : Nat} (hk : k < l.length) (y : Int) : Ir (W.setCell ⟨b, k, none⟩ (.int .i64 y)) B F (.slice (some ⟨b, 0, none⟩) (l.set k y).length c) (l.set k y) := by
  obtain ⟨⟨hl, h1⟩, h2⟩ := h
  rcases h1 with ⟨h1, _⟩ | ⟨g, cap, cur, he, hb, hg, hn, hc, hz, ht⟩
  · cases h1
  · cases he
    have hbk : Bk W b 3 cur.toList := by unfold Bk; rw [hg]
    have hs := hbk.set k (.int .i64 y)
    have hlen : (l.set k y).length = l.length := List.length_set
    refine ⟨⟨by simp [intsV], .inr ⟨b, c, (cur.toList.set k (.int .i64 y)).toArray, rfl, hb, hs, by rw [hlen]; exact hn, hc, by simpa using hz, ?_⟩⟩, h2⟩
    rw [Nat.mul_one] at ht
    rw [Nat.mul_one, hlen, List.take_set, ht]
    unfold intsV
    rw [List.map_set]
theorem ir_frozen {W : World} {B b c : Nat} {F : List Nat} {l : List Int} (h : Ir W B F (.slice (some ⟨b, 0, none⟩) l.length c) l) (k : Nat) : W.frozen? ⟨b, k, none⟩ = false := by
  rcases h.row.2 with ⟨h1, _⟩ | ⟨g, cap, cur, he, hb, hg, _⟩
  · cases h1
  · cases he
    exact frozen_of_row W b k _ _ hg
theorem ir_fp {W : World} {B b c n : Nat} {F : List Nat} {l : List Int} (h : Ir W B F (.slice (some ⟨b, 0, none⟩) n c) l) : F = [b] := h.fp
/-- two rows in one block: the longer one's head -/
theorem ir_head {W W' : World} {B : Nat} {F : List Nat} {v v0 : Value} {l0 r : List Int} (h : Ir W B F v (l0 ++ r)) (h0 : Ir W B F v0 l0) (h' : Ir W' B F v (l0 ++ r)) : Ir W' B F v0 l0 := by
  rcases h0.form with ⟨rfl, rfl, rfl⟩ | ⟨b, c0, cur0, rfl, rfl, _⟩
  · exact Ir.nil _ _
  · have e0 := h0.row.2
    have e1 := h.row.2
    have e2 := h'.row.2
    have fp := h.fp
    rcases e0 with ⟨x, _⟩ | ⟨g, cap, cur, he, hb, hg, hn, hc, hz, ht⟩
    · cases x
    · cases he
      rcases e1 with ⟨rfl, _⟩ | ⟨g1, cap1, cur1, rfl, hb1, hg1, hn1, hc1, hz1, ht1⟩
      · cases fp
      · have : b = g1 := by simpa [Value.ownBlock] using fp
        subst this
        rw [hg] at hg1
        cases hg1
        have hcc : c0 = cap1 := by omega
        subst hcc
        rcases e2 with ⟨x, _⟩ | ⟨g2, cap2, cur2, he2, hb2, hg2, hn2, hc2, hz2, ht2⟩
        · cases x
        · cases he2
          refine ⟨⟨by simp [intsV], .inr ⟨_, _, cur2, rfl, hb2, hg2, hn, hc2, hz2, ?_⟩⟩, rfl⟩
          have h3 := congrArg (List.take l0.length) ht2
          rw [List.take_take, Nat.mul_one, Nat.min_eq_left (by simp)] at h3
          rw [Nat.mul_one, h3]
          simp [intsV]
theorem own_head {w : World} {base g n m cap size : Nat} {e : TypeId} {xs news : List Value} (hx : xs.length = n * size) (h : w.ownsRow base e size (.slice (some ⟨g, 0, none⟩) (n + m) cap) (n + m) (xs ++ news)) : w.ownsRow base e size (.slice (some ⟨g, 0, none⟩) n cap) n xs := by
  refine ⟨hx, ?_⟩
  rcases h.2 with ⟨h', _⟩ | ⟨g', cap', cur, he, hb, hg, hnc, hcm, hcs, ht⟩
  · cases h'
  · cases he
    refine .inr ⟨g, cap, cur, rfl, hb, hg, by omega, hcm, hcs, ?_⟩
    have h2 := congrArg (List.take (n * size)) ht
    rw [List.take_take, Nat.min_eq_left (Nat.mul_le_mul_right _ (Nat.le_add_right n m))] at h2
    rw [h2, ← hx]; exact List.take_left
theorem run_ir_keep {w : World} {B : Nat} {F : List Nat} {v : Value} {l : List Int} (h : Ir w B F v l) (ty : TypeId) (ad : Addr) (c : Nat) (ms : List Int) (hc : ∀ j u, (intsV ms)[j]? = some u → w.cell? (ad.add j) = some u)
    (hb : l.length + ms.length ≤ 17592186044416) (hB : B ≤ w.heap.size) : ∃ v' F' w', (Builtin.append_ #[37, 37] ty #[v, .slice (some ad) ms.length c]).run Tryd.prog w = .ok v' w' ∧ Ir w' B F' v' (l ++ ms) ∧ Out F w w' ∧ (∀ b ∈ F', b ∈ F ∨ w.heap.size ≤ b) ∧ Ir w' B F v l := by
  obtain ⟨v', F', w', hr, h1, h2, h3⟩ := run_ir h ty (some ad) c ms (.inr ⟨ad, rfl, hc⟩) hb hB
  refine ⟨v', F', w', hr, h1, h2, h3, ?_, h.fp⟩
  obtain ⟨i, hi, hz, hs, hy⟩ := info_parts info_int
  have hl : (intsV ms).length = ms.length * 1 := by simp [intsV]
  have hone : ∀ u ∈ intsV ms, u.oneCell' = true := by intro u hu; obtain ⟨x, _, rfl⟩ := List.mem_map.1 hu; rfl
  rcases h.row.2 with hn | ⟨g, cap, cur, rfl, hbg, hg, hnc, hcm, hcs, htk⟩
  · exact ⟨h.row.1, .inl hn⟩
  · by_cases hroom : l.length + ms.length ≤ cap
    · obtain ⟨w'', hr2, h4, _⟩ := run_append_own_spare (P := Tryd.prog) w B 37 ty 3 i 1 Tryd.underlying37 hi hs g l.length cap (intsV l) h.row ad ms.length c (intsV ms) hl hc hone hroom
      rw [hr] at hr2
      obtain ⟨rfl, rfl⟩ : v' = _ ∧ w' = w'' := by simpa using hr2
      exact own_head h.row.1 h4
    · have holds : ∀ j u, (intsV l)[j]? = some u → w.cell? ((⟨g, 0, none⟩ : Addr).add j) = some u := h.row.cells (g := g) rfl
      have hr2 := run_append_grow (P := Tryd.prog) w 37 ty 3 i (.int .i64 0) Tryd.underlying37 hi hz ⟨g, 0, none⟩ l.length cap (intsV l) (by rw [hs]; exact h.row.1) holds ad ms.length c (intsV ms) (by rw [hs]; exact hl) hc (by omega) (by omega) (growslice_fits (by omega) (by rw [hy]; omega))
      rw [hr] at hr2
      have hw : w' = _ := (by simpa using hr2 : v' = _ ∧ w' = _).2
      rw [hw]
      exact (show w.drew.ownsRow B 3 1 _ l.length (intsV l) from h.row).alloc _
/-- one more, out of a new block; the old row is kept -/
theorem wpList_irk {w w0 : World} {ops : Array Oper} {rest : List Oper} {o : Oper} {a : Act} {Q : Exit → Act → World → Prop} (hgd : o.guard = none) (s x : Operand)
    (ho : o.op = .call { callee := .builtin .append, args := #[s, x], argTypes := #[37, 37] }) {B : Nat} {F : List Nat} {v : Value} {l : List Int} (h : Ir w0 B F v l) (y : Int) (hw : w = w0.alloc (.cells #[.int .i64 y] 3)) (hs : a.eval s = v) (hx : a.eval x = .slice (some ⟨w0.heap.size, 0, none⟩) 1 1)
    (hb : l.length + 1 ≤ 17592186044416) (hB : B ≤ w0.heap.size)
    (hK : ∀ v' F' w', Ir w' B F' v' (l ++ [y]) → Out F w0 w' → (∀ b ∈ F', b ∈ F ∨ w0.heap.size ≤ b) → Ir w' B F v l → wpList Tryd.prog ops Q rest (a.put o.dst v') w') : wpList Tryd.prog ops Q (o :: rest) a w := by
  subst hw
  have k := (Below.refl _ w0).alloc (Nat.le_refl _) (.cells #[.int .i64 y] 3)
  refine wpList_plain hgd fun K hK' => ?_
  obtain ⟨v', F', w', hr, h1, h2, h3, h4⟩ := run_ir_keep (h.below k) o.type ⟨w0.heap.size, 0, none⟩ 1 [y] (cells_laid w0 [.int .i64 y] 3) hb (by rw [World.size_alloc]; omega)
  unfold Oper.wp execOp
  simp only [ho, resolve, invoke, builtin, Sem.run_bind, Sem.run_pure, Result.andThen_ok, List.map_toArray, List.map_cons, List.map_nil, hs, hx]
  have hr' : (Builtin.append_ #[37, 37] o.type #[v, .slice (some ⟨w0.heap.size, 0, none⟩) 1 1]).run Tryd.prog (w0.alloc (.cells #[.int .i64 y] 3)) = .ok v' w' := hr
  rw [hr']
  refine hK' _ _ (hK v' F' w' h1 ((Out.of_below k).trans h2) (fun b hb' => (h3 b hb').imp id (fun h => ?_)) h4)
  rw [World.size_alloc] at h
  omega
/-- a list of rows -/
theorem infoRow : (Tryd.prog.info? 37).map (fun i => (i.zero, i.size, i.bytes)) = some (some (.slice none 0 0), 1, 24) := by kernel_rfl
theorem wpList_lrow {w w0 : World} {ops : Array Oper} {rest : List Oper} {o : Oper} {a : Act} {Q : Exit → Act → World → Prop} (hgd : o.guard = none) (s x : Operand)
    (ho : o.op = .call { callee := .builtin .append, args := #[s, x], argTypes := #[58, 58] }) {S : Nat} {v : Value} {vs : List Value} (h : w0.ownsRow S 37 1 v vs.length vs) (ad : Option Addr) (n c : Nat) (hw : w = w0.alloc (.cells #[.slice ad n c] 37)) (hs : a.eval s = v) (hx : a.eval x = .slice (some ⟨w0.heap.size, 0, none⟩) 1 1)
    (hb : vs.length ≤ 1000) (hB : S ≤ w0.heap.size)
    (hK : ∀ v' w', w'.ownsRow S 37 1 v' (vs.length + 1) (vs ++ [.slice ad n c]) → Out v.ownBlock.toList w0 w' → wpList Tryd.prog ops Q rest (a.put o.dst v') w') : wpList Tryd.prog ops Q (o :: rest) a w := by
  subst hw
  have k := (Below.refl _ w0).alloc (Nat.le_refl _) (.cells #[.slice ad n c] 37)
  obtain ⟨i, hi, hz, hsz, hy⟩ := info_parts infoRow
  refine wpList_append_own _ hgd s x 58 ho S 37 i (.slice none 0 0) 1 24 Tryd.underlying58 hi hz hsz hy rfl (by decide) v vs.length vs hs (own_keep h k) ⟨w0.heap.size, 0, none⟩ 1 1 [.slice ad n c] hx rfl (cells_laid w0 [.slice ad n c] 37) (fun u hu => by simp at hu; subst hu; rfl) (by unfold maxLen; omega) (by omega) (by rw [World.size_alloc]; omega) fun v' w' h2 h3 _ => ?_
  refine hK v' w' h2 ((Out.of_below k).trans ⟨h3.os, h3.tape, h3.output, h3.size, fun b hb hn => h3.block b hb (fun e => hn ?_)⟩)
  rw [← e]; exact List.mem_singleton_self _
theorem run_lrow {w : World} {S : Nat} {v : Value} {vs : List Value} (h : w.ownsRow S 37 1 v vs.length vs) (ty : TypeId) (x : Addr) (ad : Option Addr) (n c : Nat) (hc : ∀ j u, [Value.slice ad n c][j]? = some u → w.cell? (x.add j) = some u) (hb : vs.length ≤ 1000) (hB : S ≤ w.heap.size) :
    ∃ v' w', (Builtin.append_ #[58, 58] ty #[v, .slice (some x) 1 1]).run Tryd.prog w = .ok v' w' ∧ w'.ownsRow S 37 1 v' (vs.length + 1) (vs ++ [.slice ad n c]) ∧ Out v.ownBlock.toList w w' := by
  obtain ⟨i, hi, hz, hsz, hy⟩ := info_parts infoRow
  obtain ⟨v', w', hr, h2, h3, _⟩ := run_append_own (P := Tryd.prog) w S 58 ty 37 i (.slice none 0 0) 1 24 Tryd.underlying58 hi hz hsz hy rfl (by decide) v vs.length vs h x 1 1 [.slice ad n c] rfl hc (fun u hu => by simp at hu; subst hu; rfl) (by unfold maxLen; omega) (by omega) hB
  exact ⟨v', w', hr, h2, ⟨h3.os, h3.tape, h3.output, h3.size, fun b hb hn => h3.block b hb (fun e => hn (by rw [← e]; exact List.mem_singleton_self _))⟩⟩
section
variable {F : Fence} {n : Nat} {w : World} {ops : Array Oper} {rest : List Oper} {o : Oper} {a : Act} {Q : Exit → Act → World → Prop}
theorem wpListIn_irk {w0 : World} (hgd : o.guard = none) (s x : Operand)
    (ho : o.op = .call { callee := .builtin .append, args := #[s, x], argTypes := #[37, 37] }) {B : Nat} {F' : List Nat} {v : Value} {l : List Int} (h : Ir w0 B F' v l) (y : Int) (hw : w = w0.alloc (.cells #[.int .i64 y] 3)) (hs : a.eval s = v) (hx : a.eval x = .slice (some ⟨w0.heap.size, 0, none⟩) 1 1)
    (hb : l.length + 1 ≤ 17592186044416) (hB : B ≤ w0.heap.size)
    (hK : ∀ v' G w', Ir w' B G v' (l ++ [y]) → Out F' w0 w' → (∀ b ∈ G, b ∈ F' ∨ w0.heap.size ≤ b) → Ir w' B F' v l → wpListIn F n Tryd.prog ops Q rest (a.put o.dst v') w') : wpListIn F n Tryd.prog ops Q (o :: rest) a w := by
  subst hw
  have k := (Below.refl _ w0).alloc (Nat.le_refl _) (.cells #[.int .i64 y] 3)
  refine wpListIn_plain hgd fun K hK' => ?_
  obtain ⟨v', G, w', hr, h1, h2, h3, h4⟩ := run_ir_keep (h.below k) o.type ⟨w0.heap.size, 0, none⟩ 1 [y] (cells_laid w0 [.int .i64 y] 3) hb (by rw [World.size_alloc]; omega)
  have hr' : (Builtin.append_ #[37, 37] o.type #[v, .slice (some ⟨w0.heap.size, 0, none⟩) 1 1]).run Tryd.prog (w0.alloc (.cells #[.int .i64 y] 3)) = .ok v' w' := hr
  unfold Oper.wpIn
  refine ⟨?_, ?_⟩
  · simp [Oper.about, ho, resolve, Target.leads, Sem.run_pure]
  · rw [semAt_any _ _ _ (by rw [ho]; intro c hc'; cases hc')]
    simp [execOp, ho, resolve, invoke, builtin, hs, hx, hr', Result.andThen]
    refine hK' _ _ (hK v' G w' h1 ((Out.of_below k).trans h2) (fun b hb' => (h3 b hb').imp id (fun h => ?_)) h4)
    rw [World.size_alloc] at h
    omega
theorem wpListIn_lrow {w0 : World} (hgd : o.guard = none) (s x : Operand)
    (ho : o.op = .call { callee := .builtin .append, args := #[s, x], argTypes := #[58, 58] }) {S m : Nat} {v : Value} {vs : List Value} (hm : m = vs.length) (h : w0.ownsRow S 37 1 v m vs) (ad : Option Addr) (k c : Nat) (hw : w = w0.alloc (.cells #[.slice ad k c] 37)) (hs : a.eval s = v) (hx : a.eval x = .slice (some ⟨w0.heap.size, 0, none⟩) 1 1)
    (hb : vs.length ≤ 1000) (hB : S ≤ w0.heap.size)
    (hK : ∀ v' w', w'.ownsRow S 37 1 v' (vs.length + 1) (vs ++ [.slice ad k c]) → Out v.ownBlock.toList w0 w' → wpListIn F n Tryd.prog ops Q rest (a.put o.dst v') w') : wpListIn F n Tryd.prog ops Q (o :: rest) a w := by
  subst hw hm
  have kb := (Below.refl _ w0).alloc (Nat.le_refl _) (.cells #[.slice ad k c] 37)
  refine wpListIn_plain hgd fun K hK' => ?_
  obtain ⟨v', w', hr, h1, h2⟩ := run_lrow (own_keep h kb) o.type ⟨w0.heap.size, 0, none⟩ ad k c (cells_laid w0 [.slice ad k c] 37) hb (by rw [World.size_alloc]; omega)
  unfold Oper.wpIn
  refine ⟨?_, ?_⟩
  · simp [Oper.about, ho, resolve, Target.leads, Sem.run_pure]
  · rw [semAt_any _ _ _ (by rw [ho]; intro c hc'; cases hc')]
    simp [execOp, ho, resolve, invoke, builtin, hs, hx, hr, Result.andThen]
    exact hK' _ _ (hK v' w' h1 ((Out.of_below kb).trans h2))
end
end Go.Proofs.YtngfopnefmknoaaDoor
