/- Rows of tokens that are written and grown, and rows of such rows. -/
import Derived.Test.YtkhghbeojfgkhaaDoorLawKit
import Derived.Deep.DeepAppendRoom
import Derived.Maps.AppendAt
namespace Go.Proofs.YtkhghbeojfgkhaaDoor
open Go.RowKit Go.Shelf
set_option maxRecDepth 100000

/-- two slices: no block that both own -/
def Apart (u v : Value) : Prop := ∀ g, u.ownBlock = some g → v.ownBlock ≠ some g
theorem Apart.symm {u v : Value} (h : Apart u v) : Apart v u := fun g h1 h2 => h g h2 h1
theorem Apart.row {u v : Value} (h : Apart u v) : u.ownBlock = none ∨ u.ownBlock ≠ v.ownBlock := by
  cases hu : u.ownBlock with
  | none => exact .inl rfl
  | some g => exact .inr fun e => h g hu e.symm
theorem Apart.of_types {w : World} {B B' e e' s s' n n' : Nat} {u v : Value} {xs ys : List Value} (hu : w.ownsRow B e s u n xs) (hv : w.ownsRow B' e' s' v n' ys) (he : e ≠ e') : Apart u v := by
  intro g h1 h2
  rcases hu.2 with ⟨rfl, _⟩ | ⟨g1, c1, cur1, rfl, _, hg1, _⟩
  · simp [Value.ownBlock] at h1
  · rcases hv.2 with ⟨rfl, _⟩ | ⟨g2, c2, cur2, rfl, _, hg2, _⟩
    · simp [Value.ownBlock] at h2
    · simp [Value.ownBlock] at h1 h2
      subst h1
      subst h2
      rw [hg1] at hg2
      simp at hg2
      exact he hg2.2
/-- a row of tokens of which the kinds are told -/
def KR (w : World) (B : Nat) (v : Value) (n : Nat) (f : Nat → Int) : Prop := ∃ cs, w.ownsRow B 40 6 v n cs ∧ ∀ k, k < n → cs[k * 6]? = some (.int .i64 (f k))
section
variable {w w' : World} {B n : Nat} {v : Value} {f : Nat → Int}
theorem KR.kept (h : KR w B v n f) {u : Value} (hg : w.grownBy w' u.ownBlock) (ha : Apart v u) : KR w' B v n f := by
  obtain ⟨cs, h1, h2⟩ := h
  exact ⟨cs, h1.kept hg ha.row, h2⟩
theorem KR.below (h : KR w B v n f) (hb : Below w.heap.size w w') : KR w' B v n f := by
  obtain ⟨cs, h1, h2⟩ := h
  exact ⟨cs, own_below h1 hb (Nat.le_refl _), h2⟩
theorem KR.lt (h : KR w B v n f) {g : Nat} (hg : v.ownBlock = some g) : g < w.heap.size := by
  obtain ⟨cs, h1, _⟩ := h
  exact (h1.lt g hg).2
theorem KR.form (h : KR w B v n f) : ∃ a c, v = .slice a n c := by
  obtain ⟨cs, h1, _⟩ := h
  rcases h1.2 with ⟨h, h0⟩ | ⟨g, cap, cur, h, _⟩
  · exact ⟨none, 0, by rw [h, h0]⟩
  · exact ⟨_, _, h⟩
theorem KR.weak {B' : Nat} (h : KR w B v n f) (hB : B' ≤ B) : KR w B' v n f := by
  obtain ⟨cs, h1, h2⟩ := h
  refine ⟨cs, ⟨h1.1, ?_⟩, h2⟩
  rcases h1.2 with h | ⟨g, cap, cur, h, hb, rest⟩
  · exact .inl h
  · exact .inr ⟨g, cap, cur, h, by omega, rest⟩
theorem KR.nil (w : World) (B : Nat) (f : Nat → Int) : KR w B (.slice none 0 0) 0 f := ⟨[], World.ownsRow_nil _ _ _ _, fun k hk => by omega⟩
theorem KR.congr {g : Nat → Int} (h : KR w B v n f) (hfg : ∀ k, k < n → f k = g k) : KR w B v n g := by
  obtain ⟨cs, h1, h2⟩ := h
  exact ⟨cs, h1, fun k hk => by rw [h2 k hk, hfg k hk]⟩
theorem KR.at {a : Option Addr} {m c : Nat} (h : KR w B (.slice a m c) n f) {k : Nat} (hk : k < n) : ∃ g, a = some ⟨g, 0, none⟩ ∧ m = n ∧ n ≤ c ∧ w.cell? ⟨g, k * 6, none⟩ = some (.int .i64 (f k)) ∧ g < w.heap.size ∧ B ≤ g := by
  obtain ⟨cs, h1, h2⟩ := h
  rcases h1.2 with ⟨he, h0⟩ | ⟨g, cap, cur, he, hb, hg, hnc, _⟩
  · omega
  · cases he
    refine ⟨g, rfl, rfl, hnc, ?_, (Array.getElem?_eq_some_iff.1 hg).1, hb⟩
    rw [h1.cellAt (k * 6) (by omega)]
    exact h2 k hk
/-- every cell of an element is there, and may be written -/
theorem KR.cells {g c : Nat} (h : KR w B (.slice (some ⟨g, 0, none⟩) n c) n f) {k : Nat} (hk : k < n) {j : Nat} (hj : j < 6) : (∃ u, w.cell? ⟨g, k * 6 + j, none⟩ = some u) ∧ w.frozen? ⟨g, k * 6 + j, none⟩ = false := by
  obtain ⟨cs, h1, h2⟩ := h
  refine ⟨?_, h1.frozenAt _⟩
  rw [h1.cellAt (k * 6 + j) (by omega)]
  exact ⟨_, List.getElem?_eq_getElem (by rw [h1.1]; omega)⟩
def upd (f : Nat → Int) (k : Nat) (x : Int) (j : Nat) : Int := if j = k then x else f j
theorem kinds_put (cs : List Value) {n : Nat} {f : Nat → Int} (hl : cs.length = n * 6) (h2 : ∀ k, k < n → cs[k * 6]? = some (.int .i64 (f k))) {k : Nat} (hk : k < n) (x : Int) (u1 u2 u3 u4 u5 : Value) :
    ∀ j, j < n → ((((((cs.set (k * 6) (.int .i64 x)).set (k * 6 + 1) u1).set (k * 6 + 2) u2).set (k * 6 + 3) u3).set (k * 6 + 4) u4).set (k * 6 + 5) u5)[j * 6]? = some (.int .i64 (upd f k x j)) := by
  intro j hj
  have e1 : k * 6 + 1 ≠ j * 6 := by omega
  have e2 : k * 6 + 2 ≠ j * 6 := by omega
  have e3 : k * 6 + 3 ≠ j * 6 := by omega
  have e4 : k * 6 + 4 ≠ j * 6 := by omega
  have e5 : k * 6 + 5 ≠ j * 6 := by omega
  rw [List.getElem?_set_ne e5, List.getElem?_set_ne e4, List.getElem?_set_ne e3, List.getElem?_set_ne e2, List.getElem?_set_ne e1]
  unfold upd
  by_cases hjk : j = k
  · subst hjk
    rw [if_pos rfl, List.getElem?_set_self (by omega)]
  · have e0 : k * 6 ≠ j * 6 := by omega
    rw [if_neg hjk, List.getElem?_set_ne e0]
    exact h2 j hj
/-- an element is written -/
theorem KR.put {g c : Nat} (h : KR w B (.slice (some ⟨g, 0, none⟩) n c) n f) {k : Nat} (hk : k < n) (x : Int) (u1 u2 u3 u4 u5 : Value) :
    KR ((((((w.setCell ⟨g, k * 6, none⟩ (.int .i64 x)).setCell ⟨g, k * 6 + 1, none⟩ u1).setCell ⟨g, k * 6 + 2, none⟩ u2).setCell ⟨g, k * 6 + 3, none⟩ u3).setCell ⟨g, k * 6 + 4, none⟩ u4).setCell ⟨g, k * 6 + 5, none⟩ u5) B (.slice (some ⟨g, 0, none⟩) n c) n (upd f k x) := by
  obtain ⟨cs, h1, h2⟩ := h
  have hl := h1.1
  have s5 := (((((h1.stored (k * 6) (.int .i64 x)).1.stored (k * 6 + 1) u1).1.stored (k * 6 + 2) u2).1.stored (k * 6 + 3) u3).1.stored (k * 6 + 4) u4).1.stored (k * 6 + 5) u5
  exact ⟨_, s5.1, kinds_put cs hl h2 hk x u1 u2 u3 u4 u5⟩
theorem grown_set (w : World) (g a : Nat) (u : Value) : w.grownBy (w.setCell ⟨g, a, none⟩ u) (some g) := ⟨rfl, rfl, rfl, by simp, fun k _ hk => Below.heap_setCell _ _ _ k (fun e => hk (by rw [e]))⟩
theorem grown_trans {X Y Z : World} {row : Option Nat} (h : X.grownBy Y row) (k : Y.grownBy Z row) : X.grownBy Z row :=
  ⟨k.os.trans h.os, k.tape.trans h.tape, k.output.trans h.output, Nat.le_trans h.size k.size, fun i hi hr => (k.block i (Nat.lt_of_lt_of_le hi h.size) hr).trans (h.block i hi hr)⟩
theorem grown_six (w : World) (g a1 a2 a3 a4 a5 a6 : Nat) (u1 u2 u3 u4 u5 u6 : Value) :
    w.grownBy ((((((w.setCell ⟨g, a1, none⟩ u1).setCell ⟨g, a2, none⟩ u2).setCell ⟨g, a3, none⟩ u3).setCell ⟨g, a4, none⟩ u4).setCell ⟨g, a5, none⟩ u5).setCell ⟨g, a6, none⟩ u6) (some g) :=
  grown_trans (grown_trans (grown_trans (grown_trans (grown_trans (grown_set _ _ _ _) (grown_set _ _ _ _)) (grown_set _ _ _ _)) (grown_set _ _ _ _)) (grown_set _ _ _ _)) (grown_set _ _ _ _)
end

/-- a slice that is grown out of another one: it has that one's block and room, or none of it -/
def Link (c v : Value) : Prop := (∃ g m n cap, c = .slice (some ⟨g, 0, none⟩) m cap ∧ v = .slice (some ⟨g, 0, none⟩) n cap ∧ n ≤ m) ∨ Apart c v
theorem Link.self {w : World} {B n : Nat} {v : Value} {f : Nat → Int} (h : KR w B v n f) : Link v v := by
  obtain ⟨cs, h1, _⟩ := h
  rcases h1.2 with ⟨rfl, _⟩ | ⟨g, cap, cur, rfl, _⟩
  · right; intro g h; simp [Value.ownBlock] at h
  · left; exact ⟨g, n, n, cap, rfl, rfl, Nat.le_refl _⟩
def grow (f : Nat → Int) (m : Nat) (x : Int) (j : Nat) : Int := if j < m then f j else x
section
variable {P : Program} (w : World)
/-- a token more behind a row: what was grown has one more kind; what it was grown out of is as it was -/
theorem run_append_link (B : Nat) (t ty : TypeId) (i : TypeInfo) (z : Value) (ht : P.underlying t = some (.slice 40)) (hi : P.info? 40 = some i) (hz : i.zero = some z)
    (hsize : i.size = 6) (hby : i.bytes = 56) (hzs : z.cells.size = 6)
    (c : Value) (m : Nat) (f : Nat → Int) (hc : KR w B c m f) (v : Value) (n : Nat) (fv : Nat → Int) (hv : KR w B v n fv) (hl : Link c v)
    (a : Addr) (cap : Nat) (x : Int) (news : List Value) (hln : news.length = 6) (hx : news[0]? = some (.int .i64 x)) (hnews : ∀ j u, news[j]? = some u → w.cell? (a.add j) = some u) (h1 : ∀ u ∈ news, u.oneCell' = true)
    (h63 : m + 1 ≤ maxLen) (hbytes : (m + 1) * 56 ≤ 140737488355328) (hbase : B ≤ w.heap.size) :
    ∃ c' w', (Builtin.append_ #[t, t] ty #[c, .slice (some a) 1 cap]).run P w = .ok c' w' ∧ KR w' B c' (m + 1) (grow f m x) ∧ KR w' B v n fv ∧ Link c' v ∧ w.grownBy w' c.ownBlock ∧ (c'.ownBlock = c.ownBlock ∨ c'.ownBlock = some w.heap.size) := by
  obtain ⟨cs, hc1, hc2⟩ := hc
  obtain ⟨vs, hv1, hv2⟩ := hv
  have kinds : ∀ k, k < m + 1 → (cs ++ news)[k * 6]? = some (.int .i64 (grow f m x k)) := by
    intro k hk
    have hcl := hc1.1
    unfold grow
    rcases Nat.lt_or_ge k m with h | h
    · rw [if_pos h, List.getElem?_append_left (by omega)]
      exact hc2 k h
    · rw [if_neg (by omega), List.getElem?_append_right (by omega), hcl, show k * 6 - m * 6 = 0 by omega]
      exact hx
  have apart_kept : ∀ w', w.grownBy w' c.ownBlock → Apart c v → KR w' B v n fv := fun w' hg ha => KR.kept ⟨vs, hv1, hv2⟩ hg ha.symm
  have fresh : ∀ c' : Value, c'.ownBlock = some w.heap.size → Link c' v := fun c' h => .inr fun g h1 h2 => by
    rw [h] at h1
    cases h1
    have := (hv1.lt _ h2).2
    omega
  rcases hc1.2 with ⟨rfl, rfl⟩ | ⟨g, cc, cur, rfl, hbg, hg, hnc, hcm, hcs, htk⟩
  · obtain ⟨c', w', hr, h2, h3, _, h5⟩ := run_append_own_at (P := P) w B t ty 40 i z 6 56 ht hi hz hsize hby hzs (by decide) _ 0 cs hc1 a 1 cap news (by omega) hnews h1 h63 hbytes hbase
    have hblk : c'.ownBlock = some w.heap.size := by
      obtain ⟨g', cp', hform⟩ := ownsRow_succ h2
      rcases h5 with h | h
      · rw [hform] at h
        simp [Value.ownBlock] at h
      · exact h
    exact ⟨c', w', hr, ⟨_, h2, kinds⟩, apart_kept w' h3 (fun g h => by simp [Value.ownBlock] at h), fresh c' hblk, h3, .inr hblk⟩
  · by_cases hroom : m + 1 ≤ cc
    · obtain ⟨w', hr, h2, h3⟩ := run_append_own_spare (P := P) w B t ty 40 i 6 ht hi hsize g m cc cs hc1 a 1 cap news (by omega) hnews h1 hroom
      refine ⟨_, w', hr, ⟨_, h2, kinds⟩, ?_, ?_, h3, .inl rfl⟩
      · rcases hl with ⟨g', m', n', cap', e1, e2, hle⟩ | ha
        · cases e1
          subst e2
          rcases hv1.2 with ⟨he, _⟩ | ⟨gv, cv, curv, he, hbv, hgv, hnv, hcv, hsv, htv⟩
          · cases he
          · cases he
            refine ⟨vs, ⟨hv1.1, ?_⟩, hv2⟩
            rcases h2.2 with ⟨he2, _⟩ | ⟨g2, c2, cur2, he2, hb2, hg2, hn2, hcm2, hs2, ht2⟩
            · cases he2
            · cases he2
              refine .inr ⟨g, cc, cur2, rfl, hb2, hg2, hnv, hcm2, hs2, ?_⟩
              rw [hg] at hgv
              simp at hgv
              subst hgv
              have e3 : cur2.toList.take (n * 6) = ((cur2.toList.take ((m + 1) * 6)).take (m * 6)).take (n * 6) := by
                rw [List.take_take, List.take_take]
                congr 1
                omega
              have e4 : (cs ++ news).take (m * 6) = cs := by rw [← hc1.1]; exact List.take_left
              rw [e3, ht2, e4, ← htk, List.take_take, Nat.min_eq_left (by omega)]
              exact htv
        · exact apart_kept w' h3 ha
      · rcases hl with ⟨g', m', n', cap', e1, e2, hle⟩ | ha
        · cases e1
          exact .inl ⟨g, m + 1, n', cc, rfl, e2, by omega⟩
        · exact .inr fun g' h1 h2 => ha g' h1 h2
    · obtain ⟨c', w', hr, h2, h3, _⟩ := run_append_own (P := P) w B t ty 40 i z 6 56 ht hi hz hsize hby hzs (by decide) _ m cs hc1 a 1 cap news (by omega) hnews h1 h63 hbytes hbase
      have holds : ∀ j u, cs[j]? = some u → w.cell? ((⟨g, 0, none⟩ : Addr).add j) = some u := hc1.cells (g := g) rfl
      have hsmall : m + 1 ≤ 9223372036854775807 := by simp only [maxLen] at h63; omega
      have hr2 := run_append_grow (P := P) w t ty 40 i z ht hi hz ⟨g, 0, none⟩ m cc cs (by rw [hsize]; exact hc1.1) holds a 1 cap news (by rw [hsize]; omega) hnews (by omega) (by omega) (by rw [hby]; exact growslice_fits (by omega) hbytes)
      rw [hr] at hr2
      simp only [Result.ok.injEq] at hr2
      obtain ⟨hc', hw'⟩ := hr2
      have hblk : c'.ownBlock = some w.heap.size := by rw [hc']; rfl
      refine ⟨c', w', hr, ⟨_, h2, kinds⟩, ?_, fresh c' hblk, h3, .inr hblk⟩
      rw [hw']
      exact ⟨vs, (show w.drew.ownsRow B 40 6 v n vs from hv1).alloc _, hv2⟩
/-- at the operation -/
theorem wpList_append_link {ops : Array Oper} {rest : List Oper} {o : Oper} {ac : Act} {Q : Exit → Act → World → Prop} (hgd : o.guard = none) (s y : Operand) (t : TypeId)
    (ho : o.op = .call { callee := .builtin .append, args := #[s, y], argTypes := #[t, t] })
    (B : Nat) (i : TypeInfo) (z : Value) (ht : P.underlying t = some (.slice 40)) (hi : P.info? 40 = some i) (hz : i.zero = some z)
    (hsize : i.size = 6) (hby : i.bytes = 56) (hzs : z.cells.size = 6)
    (c : Value) (m : Nat) (f : Nat → Int) (hs : ac.eval s = c) (hc : KR w B c m f) (v : Value) (n : Nat) (fv : Nat → Int) (hv : KR w B v n fv) (hl : Link c v)
    (a : Addr) (cap : Nat) (x : Int) (news : List Value) (hy : ac.eval y = .slice (some a) 1 cap) (hln : news.length = 6) (hx : news[0]? = some (.int .i64 x)) (hnews : ∀ j u, news[j]? = some u → w.cell? (a.add j) = some u) (h1 : ∀ u ∈ news, u.oneCell' = true)
    (h63 : m + 1 ≤ maxLen) (hbytes : (m + 1) * 56 ≤ 140737488355328) (hbase : B ≤ w.heap.size)
    (h : ∀ c' w', KR w' B c' (m + 1) (grow f m x) → KR w' B v n fv → Link c' v → w.grownBy w' c.ownBlock → (c'.ownBlock = c.ownBlock ∨ c'.ownBlock = some w.heap.size) → wpList P ops Q rest (ac.put o.dst c') w') : wpList P ops Q (o :: rest) ac w :=
  wpList_plain hgd fun K hK => by
    obtain ⟨c', w', hr, h2, h3, h4, h5, h6⟩ := run_append_link (P := P) w B t o.type i z ht hi hz hsize hby hzs c m f hc v n fv hv hl a cap x news hln hx hnews h1 h63 hbytes hbase
    unfold Oper.wp execOp
    simp only [ho, resolve, invoke, builtin, Sem.run_bind, Sem.run_pure, Result.andThen_ok, List.map_toArray, List.map_cons, List.map_nil, hs, hy, hr]
    exact hK _ _ (h c' w' h2 h3 h4 h5 h6)
end
end Go.Proofs.YtkhghbeojfgkhaaDoor
