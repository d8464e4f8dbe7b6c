/- MaskAll: three rows, marked and grown: what stands between the rounds. -/
import Derived.Test.YtngfopnefmknoaaDoorMkKeep
set_option linter.all false
namespace Go.Proofs.YtngfopnefmknoaaDoor
open Go.RowKit
set_option maxRecDepth 100000
/-- three rows of ints, and the list of them -/
structure Al (B ab : Nat) (V : Nat → Value) (Fs : Nat → List Nat) (X : Nat → List Int) (W : World) : Prop where
  row : ∀ i, i < 3 → Ir W B (Fs i) (V i) (X i)
  dis : ∀ i j, i < 3 → j < 3 → i ≠ j → ∀ x ∈ Fs i, x ∉ Fs j
  all : Bk W ab 37 [V 0, V 1, V 2]
  old : B ≤ ab
theorem Bk.ir {W : World} {g B : Nat} {cs : List Value} {F : List Nat} {v : Value} {l : List Int} (h : Bk W g 37 cs) (hi : Ir W B F v l) : g ∉ F := by
  intro hg
  obtain ⟨_, cur, h2⟩ := hi.ty g hg
  unfold Bk at h
  rw [h] at h2
  cases h2
theorem Al.cell {B ab : Nat} {V : Nat → Value} {Fs : Nat → List Nat} {X : Nat → List Int} {W : World} (h : Al B ab V Fs X W) {i : Nat} (hi : i < 3) : W.cell? ⟨ab, i, none⟩ = some (V i) := by
  refine h.all.c i ?_
  rcases (show i = 0 ∨ i = 1 ∨ i = 2 by omega) with rfl | rfl | rfl <;> rfl
theorem Al.congr {B ab : Nat} {V : Nat → Value} {Fs : Nat → List Nat} {X Y : Nat → List Int} {W : World} (h : Al B ab V Fs X W) (he : ∀ i, i < 3 → X i = Y i) : Al B ab V Fs Y W :=
  ⟨fun i hi => by rw [← he i hi]; exact h.row i hi, h.dis, h.all, h.old⟩
theorem Al.below {B ab : Nat} {V : Nat → Value} {Fs : Nat → List Nat} {X : Nat → List Int} {W W' : World} (h : Al B ab V Fs X W) (hb : Below W.heap.size W W') : Al B ab V Fs X W' :=
  ⟨fun i hi => (h.row i hi).below hb, h.dis, h.all.below hb, h.old⟩
theorem Al.set {B ab : Nat} {V : Nat → Value} {Fs : Nat → List Nat} {X : Nat → List Int} {W : World} (h : Al B ab V Fs X W) {i b c n k : Nat} (hi : i < 3) (hn : n = (X i).length) (hV : V i = .slice (some ⟨b, 0, none⟩) n c) (hk : k < (X i).length) (y : Int) :
    Al B ab V Fs (fun j => if j = i then (X i).set k y else X j) (W.setCell ⟨b, k, none⟩ (.int .i64 y)) ∧ B ≤ b := by
  subst hn
  have hr := h.row i hi
  rw [hV] at hr
  have hfp := ir_fp hr
  have hs := ir_set hr hk y
  refine ⟨⟨fun j hj => ?_, h.dis, ?_, h.old⟩, (hr.ty b (by rw [hfp]; exact List.mem_singleton_self _)).1⟩
  · by_cases e : j = i
    · subst e
      rw [if_pos rfl, hV]
      rw [List.length_set] at hs
      exact hs
    · rw [if_neg e]
      refine (h.row j hj).keep fun x hx => heap_setCell_other W ⟨b, k, none⟩ x _ ?_
      intro e2
      exact h.dis j i hj hi e x hx (by rw [hfp, e2]; exact List.mem_singleton_self _)
  · refine h.all.other ?_ _ _
    intro e
    exact h.all.ir hr (by rw [hfp, e]; exact List.mem_singleton_self _)
/-- rows marked: the ones ahead of the i-th, and the i-th's first k -/
def midR (X : Nat → List Int) (i k : Nat) : Nat → List Int := fun j => if j < i then List.replicate (X j).length (-(j : Int) - 1) else if j = i then List.replicate k (-(i : Int) - 1) ++ (X i).drop k else X j
def mkR (X : Nat → List Int) : Nat → List Int := fun j => List.replicate (X j).length (-(j : Int) - 1)
theorem midR_zero (X : Nat → List Int) (j : Nat) : X j = midR X 0 0 j := by
  unfold midR
  rw [if_neg (by omega)]
  split
  · next h => subst h; simp
  · rfl
theorem midR_next (X : Nat → List Int) (i j : Nat) : midR X i (X i).length j = midR X (i + 1) 0 j := by
  unfold midR
  by_cases h : j < i
  · rw [if_pos h, if_pos (by omega)]
  · rw [if_neg h]
    by_cases h2 : j = i
    · subst h2; rw [if_pos rfl, if_pos (by omega), List.drop_length, List.append_nil]
    · rw [if_neg h2, if_neg (by omega)]
      split
      · next h3 => subst h3; simp
      · rfl
theorem midR_len (X : Nat → List Int) (i k j : Nat) (hk : k ≤ (X i).length) : (midR X i k j).length = (X j).length := by
  unfold midR
  split
  · simp
  · split
    · next h => subst h; simp; omega
    · rfl
theorem midR_step (X : Nat → List Int) (i k j : Nat) (hk : k < (X i).length) : (if j = i then (midR X i k i).set k (-(i : Int) - 1) else midR X i k j) = midR X i (k + 1) j := by
  by_cases h : j = i
  · subst h
    rw [if_pos rfl]
    unfold midR
    simp only [Nat.lt_irrefl, if_false, if_true]
    rw [List.set_append_right _ _ (by simp)]
    rw [List.length_replicate, Nat.sub_self, List.replicate_succ', List.append_assoc]
    congr 1
    rw [List.drop_eq_getElem_cons hk]
    rfl
  · rw [if_neg h]
    unfold midR
    rw [if_neg h, if_neg h]
theorem midR_end (X : Nat → List Int) (j : Nat) (hj : j < 3) : midR X 3 0 j = mkR X j := by
  unfold midR mkR
  rw [if_pos hj]
/-- what is grown so far: i rows, the list of them -/
structure Gw (B S ab : Nat) (V : Nat → Value) (Fs : Nat → List Nat) (X : Nat → List Int) (Gs : Nat → List Nat) (gv : Nat → Value) (i : Nat) (v : Value) (W : World) : Prop where
  al : Al B ab V Fs X W
  gr : ∀ j, j < i → Ir W B (Gs j) (gv j) (X j ++ List.replicate 40 (100 + (j : Int)))
  gl : ∀ j, j < i → ∀ b ∈ Gs j, b ∈ Fs j ∨ S ≤ b
  row : W.ownsRow S 37 1 v i ((List.range i).map gv)
  fs : ∀ j, j < 3 → ∀ b ∈ Fs j, b < S
  abS : ab < S
  BS : B ≤ S
  SW : S ≤ W.heap.size
theorem own_out {w w' : World} {base n : Nat} {F : List Nat} {v : Value} {xs : List Value} (h : w.ownsRow base 37 1 v n xs) (ho : Out F w w') (hF : ∀ b ∈ F, ∃ cur, w.heap[b]? = some (.cells cur 3 (0, 0))) : w'.ownsRow base 37 1 v n xs := by
  refine ⟨h.1, ?_⟩
  rcases h.2 with hn | ⟨g, cap, cur, rfl, hbs, hgg, rest⟩
  · exact .inl hn
  · refine .inr ⟨g, cap, cur, rfl, hbs, (ho.block g (some_lt hgg) ?_).trans hgg, rest⟩
    intro hg
    obtain ⟨cur2, h2⟩ := hF g hg
    rw [hgg] at h2
    cases h2
/-- a row of ints lies apart from a list of rows -/
theorem ir_out_row {w w' : World} {B base n : Nat} {F : List Nat} {v u : Value} {l : List Int} {xs : List Value} (h : Ir w B F v l) (hr : w.ownsRow base 37 1 u n xs) (ho : Out u.ownBlock.toList w w') : Ir w' B F v l := by
  refine h.keep (ho.same fun x hx => ⟨h.lt x hx, fun hxu => ?_⟩)
  rcases hr.2 with ⟨rfl, _⟩ | ⟨g, cap, cur, rfl, hbs, hgg, rest⟩
  · cases hxu
  · obtain rfl : x = g := List.mem_singleton.1 hxu
    obtain ⟨_, cur2, h2⟩ := h.ty x hx
    rw [hgg] at h2
    cases h2
theorem own_slice5 {w : World} {S n : Nat} {u : Value} {xs : List Value} (hr : w.ownsRow S 37 1 u n xs) : ∃ a c, u = .slice a n c := by
  rcases hr.2 with ⟨rfl, rfl⟩ | ⟨g, cap, cur, rfl, hbs, hgg, rest⟩
  · exact ⟨none, 0, rfl⟩
  · exact ⟨_, _, rfl⟩
theorem own_low {w : World} {B S n : Nat} {u : Value} {xs : List Value} (hr : w.ownsRow S 37 1 u n xs) (hB : B ≤ S) : ∀ x ∈ u.ownBlock.toList, B ≤ x := by
  intro x hx
  rcases hr.2 with ⟨rfl, _⟩ | ⟨g, cap, cur, rfl, hbs, hgg, rest⟩
  · cases hx
  · obtain rfl : x = g := List.mem_singleton.1 hx
    omega
/-- the i-th row on its way -/
structure Gi (B S T ab : Nat) (V : Nat → Value) (Fs : Nat → List Nat) (X : Nat → List Int) (Gs : Nat → List Nat) (gv : Nat → Value) (i : Nat) (v : Value) (k : Nat) (F : List Nat) (u : Value) (W : World) : Prop where
  gw : Gw B S ab V Fs X Gs gv i v W
  cur : Ir W B F u (X i ++ List.replicate k (100 + (i : Int)))
  sep : (∀ b ∈ F, T ≤ b) ∨ F = Fs i
  tl : ∀ j, j < i → ∀ b ∈ Gs j, b < T
  ST : S ≤ T
  TW : T ≤ W.heap.size
theorem Gi.start {B S ab : Nat} {V : Nat → Value} {Fs : Nat → List Nat} {X : Nat → List Int} {Gs : Nat → List Nat} {gv : Nat → Value} {i : Nat} {v : Value} {W : World} (h : Gw B S ab V Fs X Gs gv i v W) (hi : i < 3) : Gi B S W.heap.size ab V Fs X Gs gv i v 0 (Fs i) (V i) W :=
  ⟨h, by simpa using h.al.row i hi, .inr rfl, fun j hj b hb => (h.gr j hj).lt b hb, h.SW, Nat.le_refl _⟩
theorem Gi.step {B S T ab : Nat} {V : Nat → Value} {Fs : Nat → List Nat} {X : Nat → List Int} {Gs : Nat → List Nat} {gv : Nat → Value} {i : Nat} {v : Value} {k : Nat} {F F' : List Nat} {u u' : Value} {W W' : World} (h : Gi B S T ab V Fs X Gs gv i v k F u W) (hi : i < 3)
    (h1 : Ir W' B F' u' ((X i ++ List.replicate k (100 + (i : Int))) ++ [100 + (i : Int)])) (ho : Out F W W') (h3 : ∀ b ∈ F', b ∈ F ∨ W.heap.size ≤ b) (h4 : Ir W' B F u (X i ++ List.replicate k (100 + (i : Int)))) : Gi B S T ab V Fs X Gs gv i v (k + 1) F' u' W' := by
  have hFS : ∀ b ∈ F, b ∈ Fs i ∨ T ≤ b := fun b hb => h.sep.elim (fun h' => .inr (h' b hb)) (fun h' => .inl (h' ▸ hb))
  have g := h.gw
  refine ⟨⟨⟨fun j hj => ?_, g.al.dis, g.al.all.out ho (g.al.all.ir h.cur), g.al.old⟩, fun j hj => ?_, g.gl, own_out g.row ho (fun b hb => (h.cur.ty b hb).2), g.fs, g.abS, g.BS, Nat.le_trans g.SW ho.size⟩, ?_, ?_, h.tl, h.ST, Nat.le_trans h.TW ho.size⟩
  · by_cases e : j = i
    · subst e
      rcases h.sep with hs | hs
      · refine (g.al.row j hj).keep (ho.same fun x hx => ⟨(g.al.row j hj).lt x hx, fun hx2 => ?_⟩)
        have := hs x hx2
        have := g.fs j hj x hx
        have := h.ST
        omega
      · subst hs
        exact ir_head h.cur (g.al.row j hj) h4
    · refine (g.al.row j hj).keep (ho.same fun x hx => ⟨(g.al.row j hj).lt x hx, fun hx2 => ?_⟩)
      rcases hFS x hx2 with h5 | h5
      · exact g.al.dis j i hj hi e x hx h5
      · have := g.fs j hj x hx
        have := h.ST
        omega
  · refine (g.gr j hj).keep (ho.same fun x hx => ⟨(g.gr j hj).lt x hx, fun hx2 => ?_⟩)
    have h6 := h.tl j hj x hx
    rcases hFS x hx2 with h5 | h5
    · rcases g.gl j hj x hx with h7 | h7
      · exact g.al.dis j i (by omega) hi (by omega) x h7 h5
      · have := g.fs i hi x h5
        omega
    · omega
  · rw [List.replicate_succ', ← List.append_assoc]
    exact h1
  · rcases h.sep with hs | hs
    · refine .inl fun b hb => ?_
      rcases h3 b hb with h5 | h5
      · exact hs b h5
      · exact Nat.le_trans h.TW h5
    · have hf := h1.form
      rcases hf with ⟨_, _, rfl⟩ | ⟨b, c, cur, rfl, rfl, _⟩
      · exact .inl fun b hb => by cases hb
      · rcases h3 b (List.mem_singleton_self _) with h5 | h5
        · right
          rw [← hs]
          rcases h.cur.form with ⟨_, _, rfl⟩ | ⟨b2, _, _, _, rfl, _⟩
          · cases h5
          · rw [List.mem_singleton.1 h5]
        · left
          intro x hx
          rw [List.mem_singleton.1 hx]
          exact Nat.le_trans h.TW h5
def putAt {α : Type} (f : Nat → α) (i : Nat) (x : α) : Nat → α := fun j => if j = i then x else f j
theorem Gi.next {B S T ab : Nat} {V : Nat → Value} {Fs : Nat → List Nat} {X : Nat → List Int} {Gs : Nat → List Nat} {gv : Nat → Value} {i : Nat} {v v' : Value} {F : List Nat} {u : Value} {W W' : World} (h : Gi B S T ab V Fs X Gs gv i v 40 F u W)
    (h1 : W'.ownsRow S 37 1 v' (((List.range i).map gv).length + 1) ((List.range i).map gv ++ [u])) (ho : Out v.ownBlock.toList W W') : Gw B S ab V Fs X (putAt Gs i F) (putAt gv i u) (i + 1) v' W' := by
  have g := h.gw
  have hrow := g.row
  refine ⟨⟨fun j hj => ir_out_row (g.al.row j hj) hrow ho, g.al.dis, ?_, g.al.old⟩, fun j hj => ?_, fun j hj => ?_, ?_, g.fs, g.abS, g.BS, Nat.le_trans g.SW ho.size⟩
  · refine g.al.all.out ho fun hx => ?_
    rcases hrow.2 with ⟨rfl, _⟩ | ⟨g2, cap, cur, rfl, hbs, hgg, rest⟩
    · cases hx
    · obtain rfl : ab = g2 := List.mem_singleton.1 hx
      have := g.abS
      omega
  · unfold putAt
    by_cases e : j = i
    · subst e
      rw [if_pos rfl, if_pos rfl]
      exact ir_out_row h.cur hrow ho
    · rw [if_neg e, if_neg e]
      exact ir_out_row (g.gr j (by omega)) hrow ho
  · unfold putAt
    by_cases e : j = i
    · subst e
      rw [if_pos rfl]
      intro b hb
      rcases h.sep with hs | hs
      · exact .inr (Nat.le_trans h.ST (hs b hb))
      · exact .inl (hs ▸ hb)
    · rw [if_neg e]
      exact g.gl j (by omega)
  · have e : (List.range (i + 1)).map (putAt gv i u) = (List.range i).map gv ++ [u] := by
      rw [List.range_succ, List.map_append]
      congr 1
      · apply List.map_congr_left
        intro j hj
        have := List.mem_range.1 hj
        unfold putAt
        rw [if_neg (by omega)]
      · simp [putAt]
    rw [e]
    simpa using h1
/-- a grown list, read -/
theorem Gw.cell {B S ab : Nat} {V : Nat → Value} {Fs : Nat → List Nat} {X : Nat → List Int} {Gs : Nat → List Nat} {gv : Nat → Value} {i : Nat} {v : Value} {W : World} (h : Gw B S ab V Fs X Gs gv i v W) {j : Nat} (hj : j < i) : ∃ g c, v = .slice (some ⟨g, 0, none⟩) i c ∧ W.cell? ⟨g, j, none⟩ = some (gv j) := by
  rcases h.row.2 with ⟨_, h0⟩ | ⟨g, cap, cur, rfl, hbs, hgg, rest⟩
  · omega
  · refine ⟨g, cap, rfl, ?_⟩
    have := h.row.cells (g := g) rfl j (gv j) (by simp [hj])
    have hadd : (⟨g, 0, none⟩ : Addr).add j = ⟨g, j, none⟩ := by unfold Addr.add; split <;> simp_all
    rwa [hadd] at this
theorem Gw.first {B S ab : Nat} {V : Nat → Value} {Fs : Nat → List Nat} {X : Nat → List Int} {W : World} (h : Al B ab V Fs X W) (hS : S = W.heap.size) (hB : B ≤ S) : Gw B S ab V Fs X (fun _ => []) (fun _ => .slice none 0 0) 0 (.slice none 0 0) W := by
  subst hS
  exact ⟨h, fun j hj => by omega, fun j hj => by omega, World.ownsRow_nil _ _ _ _, fun j hj b hb => (h.row j hj).lt b hb, h.all.lt, hB, Nat.le_refl _⟩
end Go.Proofs.YtngfopnefmknoaaDoor
