/- Masks: rows of ints of the call's own. -/
import Derived.Test.YtngfopnefmknoaaDoorQuKit
import Derived.Maps.AppendAt
import Derived.Deep.RegionLaw
import Derived.Laws.ResultCell
set_option linter.all false
namespace Go.Proofs.YtngfopnefmknoaaDoor
open Go.RowKit
set_option maxRecDepth 100000
theorem get_lt {α : Type} {l : List α} {k : Nat} {x : α} (h : l[k]? = some x) : k < l.length := (List.getElem?_eq_some_iff.1 h).1
theorem own_keep {w w' : World} {base size n : Nat} {e : TypeId} {v : Value} {xs : List Value} (h : w.ownsRow base e size v n xs) (hb : Below w.heap.size w w') : w'.ownsRow base e size v n xs := by
  refine ⟨h.1, ?_⟩
  rcases h.2 with hn | ⟨g, cap, cur, rfl, hbs, hgg, rest⟩
  · exact .inl hn
  · exact .inr ⟨g, cap, cur, rfl, hbs, (hb.block g (some_lt hgg)).trans hgg, rest⟩
theorem cells_laid (w : World) (vs : List Value) (t : TypeId) : ∀ j u, vs[j]? = some u → (w.alloc (.cells vs.toArray t)).cell? ((⟨w.heap.size, 0, none⟩ : Addr).add j) = some u := by
  intro j u h
  have hadd : (⟨w.heap.size, 0, none⟩ : Addr).add j = ⟨w.heap.size, j, none⟩ := by unfold Addr.add; split <;> simp_all
  rw [hadd]
  exact (Bk.new w t vs).c j h
theorem info_int : (Tryd.prog.info? 3).map (fun i => (i.zero, i.size, i.bytes)) = some (some (.int .i64 0), 1, 8) := by kernel_rfl
abbrev intsV (l : List Int) : List Value := l.map (Value.int .i64)
/-- a row of ints, its block -/
structure Ir (w : World) (B : Nat) (F : List Nat) (v : Value) (l : List Int) : Prop where
  row : w.ownsRow B 3 1 v l.length (intsV l)
  fp : F = v.ownBlock.toList
theorem Ir.nil (w : World) (B : Nat) : Ir w B [] (.slice none 0 0) [] := ⟨World.ownsRow_nil _ _ _ _, rfl⟩
theorem Ir.form {w : World} {B : Nat} {F : List Nat} {v : Value} {l : List Int} (h : Ir w B F v l) : (v = .slice none 0 0 ∧ l = [] ∧ F = []) ∨ ∃ b c cur, v = .slice (some ⟨b, 0, none⟩) l.length c ∧ F = [b] ∧ B ≤ b ∧ w.heap[b]? = some (.cells cur 3 (0, 0)) ∧ l.length ≤ c ∧ c ≤ maxLen ∧ cur.toList.take l.length = intsV l := by
  obtain ⟨⟨_, h1⟩, h2⟩ := h
  rcases h1 with ⟨rfl, h0⟩ | ⟨g, cap, cur, rfl, hb, hg, hn, hc, _, ht⟩
  · exact .inl ⟨rfl, List.eq_nil_of_length_eq_zero h0, h2⟩
  · exact .inr ⟨g, cap, cur, rfl, h2, hb, hg, hn, hc, by rw [Nat.mul_one] at ht; exact ht⟩
theorem Ir.slice {w : World} {B : Nat} {F : List Nat} {v : Value} {l : List Int} (h : Ir w B F v l) : ∃ a c, v = .slice a l.length c := by
  rcases h.form with ⟨rfl, rfl, _⟩ | ⟨b, c, _, rfl, _⟩
  · exact ⟨none, 0, rfl⟩
  · exact ⟨_, c, rfl⟩
theorem Ir.ty {w : World} {B : Nat} {F : List Nat} {v : Value} {l : List Int} (h : Ir w B F v l) : ∀ b ∈ F, B ≤ b ∧ ∃ cur, w.heap[b]? = some (.cells cur 3 (0, 0)) := by
  rcases h.form with ⟨_, _, rfl⟩ | ⟨b, c, cur, _, rfl, hb, hg, _⟩
  · intro b hb; cases hb
  · intro x hx
    rw [List.mem_singleton.1 hx]
    exact ⟨hb, cur, hg⟩
theorem Ir.lt {w : World} {B : Nat} {F : List Nat} {v : Value} {l : List Int} (h : Ir w B F v l) : ∀ b ∈ F, b < w.heap.size := fun b hb => by obtain ⟨_, cur, hg⟩ := h.ty b hb; exact some_lt hg
theorem Ir.keep {w w' : World} {B : Nat} {F : List Nat} {v : Value} {l : List Int} (h : Ir w B F v l) (hs : SameB F w w') : Ir w' B F v l := by
  refine ⟨⟨h.row.1, ?_⟩, h.fp⟩
  rcases h.row.2 with hn | ⟨g, cap, cur, rfl, hb, hg, r⟩
  · exact .inl hn
  · exact .inr ⟨g, cap, cur, rfl, hb, (hs g (by rw [h.fp]; exact List.mem_singleton_self _)).trans hg, r⟩
theorem Ir.below {w w' : World} {B : Nat} {F : List Nat} {v : Value} {l : List Int} (h : Ir w B F v l) (hb : Below w.heap.size w w') : Ir w' B F v l := h.keep (SameB.of_below hb h.lt)
theorem Ir.cell {w : World} {B : Nat} {F : List Nat} {v : Value} {l : List Int} (h : Ir w B F v l) {k : Nat} {x : Int} (hx : l[k]? = some x) : ∃ b c, v = .slice (some ⟨b, 0, none⟩) l.length c ∧ l.length ≤ c ∧ w.cell? ⟨b, k, none⟩ = some (.int .i64 x) := by
  rcases h.form with ⟨_, rfl, _⟩ | ⟨b, c, cur, rfl, _, _, hg, hn, _, ht⟩
  · simp at hx
  · refine ⟨b, c, rfl, hn, ?_⟩
    rw [cell_of_row w b k cur _ _ hg]
    have h2 : (intsV l)[k]? = some (.int .i64 x) := by unfold intsV; rw [List.getElem?_map, hx]; rfl
    rw [← ht, List.getElem?_take_of_lt (get_lt hx)] at h2
    simpa using h2
theorem Ir.news {w : World} {B b c : Nat} {F : List Nat} {l : List Int} (h : Ir w B F (.slice (some ⟨b, 0, none⟩) l.length c) l) (o m : Nat) : ∀ j u, (intsV ((l.drop o).take m))[j]? = some u → w.cell? ((⟨b, o, none⟩ : Addr).add j) = some u := by
  intro j u hu
  have hadd : (⟨b, o, none⟩ : Addr).add j = ⟨b, o + j, none⟩ := by unfold Addr.add; split <;> simp_all
  rw [hadd]
  unfold intsV at hu
  rw [List.getElem?_map, Option.map_eq_some_iff] at hu
  obtain ⟨x, hx, rfl⟩ := hu
  rw [List.getElem?_take_of_lt (by have := get_lt hx; simp at this; omega), List.getElem?_drop] at hx
  obtain ⟨b', c', he, _, hc⟩ := h.cell hx
  cases he
  exact hc
theorem Ir.tail {w : World} {B b c : Nat} {F : List Nat} {l : List Int} (h : Ir w B F (.slice (some ⟨b, 0, none⟩) l.length c) l) (o : Nat) : ∃ ad, (if c = o then some (⟨b, 0, none⟩ : Addr) else some ⟨b, o, none⟩) = some ad ∧ ∀ j u, (intsV (l.drop o))[j]? = some u → w.cell? (ad.add j) = some u := by
  have hlc : l.length ≤ c := by
    rcases h.form with ⟨h1, _⟩ | ⟨_, _, _, h1, _, _, _, h2, _⟩
    · cases h1
    · cases h1; exact h2
  split
  · refine ⟨_, rfl, fun j u hu => ?_⟩
    rw [List.drop_eq_nil_of_le (by omega)] at hu
    simp at hu
  · refine ⟨_, rfl, fun j u hu => h.news o l.length j u ?_⟩
    rw [List.take_of_length_le (by simp)]
    exact hu
theorem Ir.part {w : World} {B b c : Nat} {F : List Nat} {l : List Int} (h : Ir w B F (.slice (some ⟨b, 0, none⟩) l.length c) l) (m : Nat) : ∃ ad, some (⟨b, 0, none⟩ : Addr) = some ad ∧ ∀ j u, (intsV (l.take m))[j]? = some u → w.cell? (ad.add j) = some u :=
  ⟨_, rfl, fun j u hu => h.news 0 m j u (by simpa using hu)⟩
theorem Ir.weak {w : World} {B B' : Nat} {F : List Nat} {v : Value} {l : List Int} (h : Ir w B F v l) (hB : B' ≤ B) : Ir w B' F v l := by
  refine ⟨⟨h.row.1, ?_⟩, h.fp⟩
  rcases h.row.2 with hn | ⟨g, cap, cur, rfl, hb, r⟩
  · exact .inl hn
  · exact .inr ⟨g, cap, cur, rfl, Nat.le_trans hB hb, r⟩
theorem run_ir {w : World} {B : Nat} {F : List Nat} {v : Value} {l : List Int} (h : Ir w B F v l) (ty : TypeId) (src : Option Addr) (c : Nat) (ms : List Int) (hsrc : (src = none ∧ ms = [] ∧ c = 0) ∨ ∃ ad, src = some ad ∧ ∀ j u, (intsV ms)[j]? = some u → w.cell? (ad.add j) = some u)
    (hb : l.length + ms.length ≤ 17592186044416) (hB : B ≤ w.heap.size) : ∃ v' F' w', (Builtin.append_ #[37, 37] ty #[v, .slice src ms.length c]).run Tryd.prog w = .ok v' w' ∧ Ir w' B F' v' (l ++ ms) ∧ Out F w w' ∧ ∀ b ∈ F', b ∈ F ∨ w.heap.size ≤ b := by
  obtain ⟨i, hi, hz, hs, hy⟩ := info_parts info_int
  rcases hsrc with ⟨rfl, rfl, rfl⟩ | ⟨ad, rfl, hc⟩
  · exact ⟨v, F, w, run_append_owned_none (w := w) B _ ty 3 i 1 Tryd.underlying37 hi v l.length (intsV l) h.row, by rw [List.append_nil]; exact h, Out.refl _ _, fun b hb => .inl hb⟩
  · obtain ⟨v', w', hr, h2, h3, _, h5⟩ := run_append_own_at (P := Tryd.prog) w B 37 ty 3 i (.int .i64 0) 1 8 Tryd.underlying37 hi hz hs hy rfl (by decide) v l.length (intsV l) h.row ad ms.length c (intsV ms) (by simp [intsV]) hc (by intro u hu; obtain ⟨x, _, rfl⟩ := List.mem_map.1 hu; rfl) (by unfold maxLen; omega) (by omega) hB
    refine ⟨v', v'.ownBlock.toList, w', hr, ⟨?_, rfl⟩, ⟨h3.os, h3.tape, h3.output, h3.size, fun b hb hn => h3.block b hb (fun e => hn ?_)⟩, fun b hb => ?_⟩
    · rw [List.length_append]
      have e : intsV (l ++ ms) = intsV l ++ intsV ms := by simp [intsV]
      rw [e]; exact h2
    · rw [h.fp, ← e]; exact List.mem_singleton_self _
    · rcases h5 with h5 | h5
      · left; rw [h.fp, ← h5]; exact hb
      · right; rw [h5] at hb; rw [List.mem_singleton.1 hb]; exact Nat.le_refl _
theorem wpList_ir {w : World} {ops : Array Oper} {rest : List Oper} {o : Oper} {a : Act} {Q : Exit → Act → World → Prop} (hgd : o.guard = none) (s x : Operand)
    (ho : o.op = .call { callee := .builtin .append, args := #[s, x], argTypes := #[37, 37] }) {B : Nat} {F : List Nat} {v : Value} {l : List Int} (h : Ir w B F v l) (hs : a.eval s = v) (src : Option Addr) (m c : Nat) (ms : List Int) (hm : ms.length = m) (hx : a.eval x = .slice src m c)
    (hsrc : (src = none ∧ ms = [] ∧ c = 0) ∨ ∃ ad, src = some ad ∧ ∀ j u, (intsV ms)[j]? = some u → w.cell? (ad.add j) = some u) (hb : l.length + ms.length ≤ 17592186044416) (hB : B ≤ w.heap.size)
    (hK : ∀ v' F' w', Ir w' B F' v' (l ++ ms) → Out F w w' → (∀ b ∈ F', b ∈ F ∨ w.heap.size ≤ b) → wpList Tryd.prog ops Q rest (a.put o.dst v') w') : wpList Tryd.prog ops Q (o :: rest) a w := by
  subst hm
  refine wpList_plain hgd fun K hK' => ?_
  obtain ⟨v', F', w', hr, h1, h2, h3⟩ := run_ir h o.type src c ms hsrc hb hB
  unfold Oper.wp execOp
  simp only [ho, resolve, invoke, builtin, Sem.run_bind, Sem.run_pure, Result.andThen_ok, List.map_toArray, List.map_cons, List.map_nil, hs, hx, hr]
  exact hK' _ _ (hK v' F' w' h1 h2 h3)
theorem step_ir {w : World} {ops : Array Oper} {o : Oper} {a : Act} {K : Act → World → Prop} {Q : Exit → Act → World → Prop} {E : Prop} (hgd : o.guard = none) (s x : Operand)
    (ho : o.op = .call { callee := .builtin .append, args := #[s, x], argTypes := #[37, 37] }) {B : Nat} {F : List Nat} {v : Value} {l : List Int} (h : Ir w B F v l) (hs : a.eval s = v) (src : Option Addr) (m c : Nat) (ms : List Int) (hm : ms.length = m) (hx : a.eval x = .slice src m c)
    (hsrc : (src = none ∧ ms = [] ∧ c = 0) ∨ ∃ ad, src = some ad ∧ ∀ j u, (intsV ms)[j]? = some u → w.cell? (ad.add j) = some u) (hb : l.length + ms.length ≤ 17592186044416) (hB : B ≤ w.heap.size)
    (hK : ∀ v' F' w', Ir w' B F' v' (l ++ ms) → Out F w w' → (∀ b ∈ F', b ∈ F ∨ w.heap.size ≤ b) → K (a.put o.dst v') w') :
    if Region.wanted o (yielded ops a.tmps) = true then Oper.wp Tryd.prog o a w K Q else E := by
  subst hm
  have hw : Region.wanted o (yielded ops a.tmps) = true := by simp [Region.wanted, hgd]
  rw [if_pos hw]
  obtain ⟨v', F', w', hr, h1, h2, h3⟩ := run_ir h o.type src c ms hsrc hb hB
  unfold Oper.wp execOp
  simp only [ho, resolve, invoke, builtin, Sem.run_bind, Sem.run_pure, Result.andThen_ok, List.map_toArray, List.map_cons, List.map_nil, hs, hx, hr]
  exact hK v' F' w' h1 h2 h3
/-- one more, out of a new block -/
theorem wpList_ir1 {w w0 : World} {ops : Array Oper} {rest : List Oper} {o : Oper} {a : Act} {Q : Exit → Act → World → Prop} (hgd : o.guard = none) (s x : Operand)
    (ho : o.op = .call { callee := .builtin .append, args := #[s, x], argTypes := #[37, 37] }) {B : Nat} {F : List Nat} {v : Value} {l : List Int} (h : Ir w0 B F v l) (y : Int) (hw : w = w0.alloc (.cells #[.int .i64 y] 3)) (hs : a.eval s = v) (hx : a.eval x = .slice (some ⟨w0.heap.size, 0, none⟩) 1 1)
    (hb : l.length + 1 ≤ 17592186044416) (hB : B ≤ w0.heap.size)
    (hK : ∀ v' F' w', Ir w' B F' v' (l ++ [y]) → Out F w0 w' → (∀ b ∈ F', b ∈ F ∨ w0.heap.size ≤ b) → wpList Tryd.prog ops Q rest (a.put o.dst v') w') : wpList Tryd.prog ops Q (o :: rest) a w := by
  subst hw
  have k := (Below.refl _ w0).alloc (Nat.le_refl _) (.cells #[.int .i64 y] 3)
  refine wpList_ir hgd s x ho (h.below k) hs (some ⟨w0.heap.size, 0, none⟩) 1 1 [y] rfl hx (.inr ⟨_, rfl, cells_laid w0 [.int .i64 y] 3⟩) hb (by rw [World.size_alloc]; omega) fun v' F' w' h1 h2 h3 => ?_
  refine hK v' F' w' h1 ((Out.of_below k).trans h2) fun b hb' => (h3 b hb').imp id (fun h => ?_)
  rw [World.size_alloc] at h
  omega
end Go.Proofs.YtngfopnefmknoaaDoor
