/- What the order of a list needs. -/
import Derived.Test.YtdckenkomjikbaaCkHeld
import Derived.Test.YtdckenkomjikbaaCkAwake
import Derived.Deep.RegionLaw
import Derived.Deep.DeepAppendRoom
namespace Go.Proofs.Ytdckenkomjikbaa
open Go.RowKit
set_option maxRecDepth 100000

section
variable {P : Program} (w : World)
/-- an append onto a row of the call's own, at a step of a region that draws: nothing may be appended, too -/
theorem step_append_own {ops : Array Oper} {o : Oper} {a : Act} {K : Act → World → Prop} {Q : Exit → Act → World → Prop} {E : Prop} (hgd : o.guard = none) (s x : Operand) (t : TypeId)
    (ho : o.op = .call { callee := .builtin .append, args := #[s, x], argTypes := #[t, t] })
    (base : Nat) (e : TypeId) (i : TypeInfo) (z : Value) (size bytes : Nat) (ht : P.underlying t = some (.slice e)) (hi : P.info? e = some i) (hz : i.zero = some z)
    (hsize : i.size = size) (hby : i.bytes = bytes) (hzs : z.cells.size = size) (hsz : 0 < size)
    (v : Value) (n : Nat) (xs : List Value) (hs : a.eval s = v) (hown : w.ownsRow base e size v n xs)
    (ad : Addr) (m c : Nat) (news : List Value) (hx : a.eval x = .slice (some ad) m c) (hl : news.length = m * size) (hnews : ∀ j u, news[j]? = some u → w.cell? (ad.add j) = some u) (h1 : ∀ u ∈ news, u.oneCell' = true)
    (h63 : n + m ≤ maxLen) (hbytes : (n + m) * bytes ≤ 140737488355328) (hbase : base ≤ w.heap.size)
    (h : ∀ v' w', w'.ownsRow base e size v' (n + m) (xs ++ news) → w.grownBy w' v.ownBlock → K (a.put o.dst v') w') :
    if Region.wanted o (yielded ops a.tmps) = true then Oper.wp P o a w K Q else E := by
  have hw : Region.wanted o (yielded ops a.tmps) = true := by simp [Region.wanted, hgd]
  rw [if_pos hw]
  exact wp_append_own w s x t ho base e i z size bytes ht hi hz hsize hby hzs hsz v n xs hs hown ad m c news hx hl hnews h1 h63 hbytes hbase fun v' w' h2 h3 _ => h v' w' h2 h3
end

def RoundP (n : Nat) (w : World) (e : Ending) (w' : World) : Prop := ∃ k : Nat, k < n ∧ e = .returned (.int .i64 k) ∧ w = w'
theorem round_any (a : Int) (n : Nat) (w : World) (ha : In a) (hn : 0 < n) (hm : n ≤ 9223372036854775807) :
    Calls Try.prog 29 #[.int .i64 a, .int .i64 n] w (RoundP n w) := by
  obtain ⟨ha1, ha2⟩ := ha
  have bl := tmod_lo a n (by omega)
  have bu := tmod_hi a n (by omega)
  go_enter Try.func29, Try.ntmps29
  go_wp2
  · go_ret
    exact ⟨(a.tmod n + n).toNat, by omega, ret1 (by omega), rfl⟩
  · go_ret
    exact ⟨(a.tmod n).toNat, by omega, ret1 (by omega), rfl⟩

theorem awake_below (w : World) : Calls Try.prog 27 #[] w fun e w' => e = .returned (.bool true) ∧ Below w.heap.size w w' :=
  (awake_any w).mono fun _ _ ⟨h, c, t, h2⟩ => ⟨h, by rw [← h2]; exact (Below.refl _ _).alloc (Nat.le_refl _) _⟩

/-- what is left and what is taken are together the list, in another order -/
def Same (l zs ys : List Int) : Prop := zs.sum + ys.sum = l.sum ∧ prd zs * prd ys = prd l ∧ zs.length + ys.length = l.length ∧ AllIn zs ∧ AllIn ys
theorem Same.start {l : List Int} (h : AllIn l) : Same l l [] := ⟨by simp, by simp [prd], by simp, h, Dig.nil.allIn⟩
theorem Same.step {l zs ys : List Int} (h : Same l zs ys) {k : Nat} (hk : k < zs.length) : Same l (zs.take k ++ zs.drop (k + 1)) (ys ++ [zs[k]]) := by
  obtain ⟨h1, h2, h3, h4, h5⟩ := h
  have e : zs = zs.take k ++ (zs[k] :: zs.drop (k + 1)) := by rw [← List.drop_eq_getElem_cons hk, List.take_append_drop]
  have e1 : zs.sum = (zs.take k).sum + (zs[k] + (zs.drop (k + 1)).sum) := by
    have := congrArg List.sum e
    rw [List.sum_append, List.sum_cons] at this
    exact this
  have e2 : prd zs = prd (zs.take k) * (zs[k] * prd (zs.drop (k + 1))) := by
    have := congrArg prd e
    rw [prd_append] at this
    exact this
  refine ⟨?_, ?_, ?_, ?_, ?_⟩
  · simp only [List.sum_append, List.sum_cons, List.sum_nil]; omega
  · rw [prd_append, prd_append, ← h2, e2]
    simp only [prd, Int.mul_one]
    ac_rfl
  · simp; omega
  · intro x hx
    rcases List.mem_append.1 hx with hx | hx
    · exact h4 x (List.mem_of_mem_take hx)
    · exact h4 x (List.mem_of_mem_drop hx)
  · intro x hx
    rcases List.mem_append.1 hx with hx | hx
    · exact h5 x hx
    · simp at hx; subst hx; exact h4.get k hk
theorem Same.stop {l ys : List Int} (h : Same l [] ys) : ys.sum = l.sum ∧ prd ys = prd l ∧ ys.length = l.length ∧ AllIn ys := by
  obtain ⟨h1, h2, h3, h4, h5⟩ := h
  exact ⟨by simpa using h1, by simpa [prd] using h2, by simpa using h3, h5⟩
theorem sum_more (ys : List Int) : (ys ++ [0]).sum = ys.sum := by simp
theorem prd_more (ys : List Int) : prd (ys ++ [1]) = prd ys := by rw [prd_append]; simp [prd]
theorem sum_two {l : List Int} (h : l.length = 2) : l[0] + l[1] = l.sum := by
  match l, h with
  | [a, b], _ => simp
theorem prd_two {l : List Int} (h : l.length = 2) : l[0] * l[1] = prd l := by
  match l, h with
  | [a, b], _ => simp [prd]
/-- two rows: the one stands in memory that was made behind the other's -/
def Behind (la : Option Addr) (ov : Value) : Prop := ∃ B, (∀ x, la = some x → B ≤ x.block) ∧ (∀ g, ov.ownBlock = some g → g < B)
theorem Ints.grown {w w' : World} {a : Option Addr} {n c : Nat} {l : List Int} {ov : Value} (h : Ints w a n c l) (hb : Behind a ov) (hg : w.grownBy w' ov.ownBlock) : Ints w' a n c l := by
  obtain ⟨h1, h2, h3, h5, h4⟩ := h
  refine ⟨h1, h2, h3, h5, h4.imp id ?_⟩
  rintro ⟨x, rfl, hx⟩
  refine ⟨x, rfl, fun i hi => ?_⟩
  have hc := hx i hi
  have hbl : (x.add i).block = x.block := by unfold Addr.add; split <;> rfl
  have hlt := World.block_lt_of_cell? w _ hc
  obtain ⟨B, b1, b2⟩ := hb
  have hB := b1 x rfl
  rw [← hc]
  have hblk : w'.heap[(x.add i).block]? = w.heap[(x.add i).block]? := hg.block _ hlt (fun e => by
    rw [hbl] at e
    have := b2 x.block e.symm
    omega)
  exact World.cell?_of_block hblk
theorem news_take {w : World} {x : Addr} {l : List Int} (h : IntsAt w x l) (k : Nat) : ∀ j u, ((l.take k).map (Value.int .i64))[j]? = some u → w.cell? (x.add j) = some u := by
  refine news_of fun i hi => ?_
  have hi2 : i < l.length := by simp at hi; omega
  rw [h i hi2]; simp
theorem news_drop {w : World} {b o : Nat} {l : List Int} (h : IntsAt w ⟨b, o, none⟩ l) (k : Nat) : ∀ j u, ((l.drop k).map (Value.int .i64))[j]? = some u → w.cell? ((⟨b, o + k, none⟩ : Addr).add j) = some u := by
  refine news_of fun i hi => ?_
  have hi2 : k + i < l.length := by simp at hi; omega
  have := h (k + i) hi2
  have e : (⟨b, o, none⟩ : Addr).add (k + i) = (⟨b, o + k, none⟩ : Addr).add i := by
    unfold Addr.add
    split <;> split <;> simp <;> omega
  rw [← e, this]; simp
theorem hx3_of {w w' : World} {x : Addr} {l : List Int} (h : IntsAt w x l) (hg : w.drew.grownBy w' (Value.slice none 0 0).ownBlock) : IntsAt w' x l := fun i hi => by
  have hc := h i hi
  have hlt := World.block_lt_of_cell? w _ hc
  rw [← hc]
  exact World.cell?_of_block (hg.block _ hlt (fun e => by cases e))
theorem news_end {w : World} {x : Addr} {l : List Int} {k : Nat} (hk : l.length ≤ k) : ∀ j u, ((l.drop k).map (Value.int .i64))[j]? = some u → w.cell? (x.add j) = some u := by
  intro j u hu
  rw [List.drop_eq_nil_of_le hk] at hu
  simp at hu
theorem slice_len {a : Option Addr} {c n m : Nat} (h : n = m) : Value.slice a n c = Value.slice a m c := by rw [h]
section
variable {P : Program} (w : World)
theorem own_head {w : World} {base g n m cap size : Nat} {e : TypeId} {xs news : List Value} (hx : xs.length = n * size) (h : w.ownsRow base e size (.slice (some ⟨g, 0, none⟩) (n + m) cap) (n + m) (xs ++ news)) : w.ownsRow base e size (.slice (some ⟨g, 0, none⟩) n cap) n xs := by
  refine ⟨hx, ?_⟩
  rcases h.2 with ⟨h', _⟩ | ⟨g', cap', cur, he, hb, hg, hnc, hcm, hcs, ht⟩
  · cases h'
  · cases he
    refine .inr ⟨g, cap, cur, rfl, hb, hg, by omega, hcm, hcs, ?_⟩
    have h2 := congrArg (List.take (n * size)) ht
    rw [List.take_take, Nat.min_eq_left (Nat.mul_le_mul_right _ (Nat.le_add_right n m))] at h2
    rw [h2, ← hx]; exact List.take_left
/-- an append onto a row of the call's own: the old slice still owns what it owned -/
theorem run_append_keep (base : Nat) (t ty e : TypeId) (i : TypeInfo) (z : Value) (size bytes : Nat) (ht : P.underlying t = some (.slice e)) (hi : P.info? e = some i) (hz : i.zero = some z)
    (hsize : i.size = size) (hby : i.bytes = bytes) (hzs : z.cells.size = size) (hsz : 0 < size)
    (v : Value) (n : Nat) (xs : List Value) (hown : w.ownsRow base e size v n xs)
    (a : Addr) (m c : Nat) (news : List Value) (hl : news.length = m * size) (hnews : ∀ j u, news[j]? = some u → w.cell? (a.add j) = some u) (h1 : ∀ u ∈ news, u.oneCell' = true)
    (h63 : n + m ≤ maxLen) (hbytes : (n + m) * bytes ≤ 140737488355328) (hbase : base ≤ w.heap.size) :
    ∃ v' w', (Builtin.append_ #[t, t] ty #[v, .slice (some a) m c]).run P w = .ok v' w' ∧ w'.ownsRow base e size v' (n + m) (xs ++ news) ∧ w.grownBy w' v.ownBlock ∧ w'.ownsRow base e size v n xs := by
  obtain ⟨v', w', hr, h2, h3, _⟩ := run_append_own (P := P) w base t ty e i z size bytes ht hi hz hsize hby hzs hsz v n xs hown a m c news hl hnews h1 h63 hbytes hbase
  refine ⟨v', w', hr, h2, h3, ?_⟩
  rcases hown.2 with h | ⟨g, cap, cur, rfl, hbg, hg, hnc, hcm, hcs, htk⟩
  · exact ⟨hown.1, .inl h⟩
  · by_cases hroom : n + m ≤ cap
    · obtain ⟨w'', hr2, h4, _⟩ := run_append_own_spare (P := P) w base t ty e i size ht hi hsize g n cap xs hown a m c news hl hnews h1 hroom
      rw [hr] at hr2
      obtain ⟨rfl, rfl⟩ : v' = _ ∧ w' = w'' := by simpa using hr2
      exact own_head hown.1 h4
    · have holds : ∀ j u, xs[j]? = some u → w.cell? ((⟨g, 0, none⟩ : Addr).add j) = some u := hown.cells (g := g) rfl
      have hsmall : n + m ≤ 9223372036854775807 := by simp only [maxLen] at h63; omega
      subst hsize
      subst hby
      have hr2 := run_append_grow (P := P) w t ty e i z ht hi hz ⟨g, 0, none⟩ n cap xs hown.1 holds a m c news hl hnews (by omega) (by omega) (growslice_fits (by omega) hbytes)
      rw [hr] at hr2
      have hw : w' = _ := (by simpa using hr2 : v' = _ ∧ w' = _).2
      rw [hw]
      exact (show w.drew.ownsRow base e i.size _ n xs from hown).alloc _
theorem wpList_append_keep {ops : Array Oper} {rest : List Oper} {o : Oper} {a : Act} {Q : Exit → Act → World → Prop} (hgd : o.guard = none) (s x : Operand) (t : TypeId)
    (ho : o.op = .call { callee := .builtin .append, args := #[s, x], argTypes := #[t, t] })
    (base : Nat) (e : TypeId) (i : TypeInfo) (z : Value) (size bytes : Nat) (ht : P.underlying t = some (.slice e)) (hi : P.info? e = some i) (hz : i.zero = some z)
    (hsize : i.size = size) (hby : i.bytes = bytes) (hzs : z.cells.size = size) (hsz : 0 < size)
    (v : Value) (n : Nat) (xs : List Value) (hs : a.eval s = v) (hown : w.ownsRow base e size v n xs)
    (ad : Addr) (m c : Nat) (news : List Value) (hx : a.eval x = .slice (some ad) m c) (hl : news.length = m * size) (hnews : ∀ j u, news[j]? = some u → w.cell? (ad.add j) = some u) (h1 : ∀ u ∈ news, u.oneCell' = true)
    (h63 : n + m ≤ maxLen) (hbytes : (n + m) * bytes ≤ 140737488355328) (hbase : base ≤ w.heap.size)
    (h : ∀ v' w', w'.ownsRow base e size v' (n + m) (xs ++ news) → w.grownBy w' v.ownBlock → w'.ownsRow base e size v n xs → wpList P ops Q rest (a.put o.dst v') w') : wpList P ops Q (o :: rest) a w :=
  wpList_plain hgd fun K hK => by
    obtain ⟨v', w', hr, h2, h3, h4⟩ := run_append_keep (P := P) w base t o.type e i z size bytes ht hi hz hsize hby hzs hsz v n xs hown ad m c news hl hnews h1 h63 hbytes hbase
    unfold Oper.wp execOp
    simp only [ho, resolve, invoke, builtin, Sem.run_bind, Sem.run_pure, Result.andThen_ok, List.map_toArray, List.map_cons, List.map_nil, hs, hx, hr]
    exact hK _ _ (h v' w' h2 h3 h4)
end
theorem ints_more {w : World} {base c n : Nat} {a : Option Addr} {ys : List Int} {u : Int} {e : TypeId} (hd : AllIn (ys ++ [u])) (hown : w.ownsRow base e 1 (.slice a n c) n (ys.map (Value.int .i64) ++ [Value.int .i64 u])) : Ints w a n c (ys ++ [u]) := by
  rw [map_snoc] at hown
  exact ints_owned hd hown
theorem Ints.cells' {w : World} {b o n c : Nat} {l : List Int} (h : Ints w (some ⟨b, o, none⟩) n c l) (i : Nat) (hi : i < l.length) : w.cell? ⟨b, o + i, none⟩ = some (.int .i64 l[i]) := by
  obtain ⟨b', o', he, hc⟩ := h.cell (by have := h.1; omega)
  obtain ⟨rfl, rfl⟩ : b = b' ∧ o = o' := by simpa using he
  exact hc i hi
end Go.Proofs.Ytdckenkomjikbaa
