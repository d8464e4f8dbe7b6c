/- Wire, WireRows: a list of messages in memory, each with a row of values of its own; the messages with which bytes begin, one by one. -/
import Derived.Test.YtloofajopgbfmaaWjUni
namespace Go.Proofs.Ytloofajopgbfmaa
set_option linter.all false
open Go.RowKit
set_option maxRecDepth 100000
/-- all blocks of another type are as they were -/
def KO (T : TypeId) (w w' : World) : Prop := ∀ (b : Nat) (cs : Array Value) (t : TypeId) (fr : Nat × Nat), t ≠ T → w.heap[b]? = some (.cells cs t fr) → w'.heap[b]? = some (.cells cs t fr)
theorem some_lt {w : World} {x : Nat} {o : Obj} (h : w.heap[x]? = some o) : x < w.heap.size := (Array.getElem?_eq_some_iff.1 h).1
theorem KO.refl (T : TypeId) (w : World) : KO T w w := fun _ _ _ _ _ h => h
theorem KO.trans {T : TypeId} {a b c : World} (h : KO T a b) (k : KO T b c) : KO T a c := fun x cs t fr ht hx => k x cs t fr ht (h x cs t fr ht hx)
theorem KO.of_below {T : TypeId} {w w' : World} (h : Below w.heap.size w w') : KO T w w' := fun x _ _ _ _ hx => (h.block x (some_lt hx)).trans hx
theorem KO.of_grown {T : TypeId} {w w' : World} {B n sz : Nat} {v : Value} {xs : List Value} (h : w.ownsRow B T sz v n xs) (hg : w.grownBy w' v.ownBlock) : KO T w w' := fun x cs t fr ht hx => (hg.block x (some_lt hx) (fun e => by
  rcases h.2 with ⟨hv, _⟩ | ⟨g, cap, cur, hv, _, hgg, _⟩
  · rw [hv] at e; cases e
  · rw [hv] at e
    cases e
    rw [hgg] at hx
    cases hx
    exact ht rfl)).trans hx
theorem Bk.ko {T U : TypeId} {w w' : World} {g : Nat} {cs : List Value} (h : Bk w g U cs) (hT : U ≠ T) (hk : KO T w w') : Bk w' g U cs := hk g _ U _ hT h
theorem own_ko {U : TypeId} {w w' : World} {B n sz : Nat} {T : TypeId} {v : Value} {xs : List Value} (h : w.ownsRow B T sz v n xs) (hT : T ≠ U) (hk : KO U w w') : w'.ownsRow B T sz v n xs := by
  refine ⟨h.1, ?_⟩
  rcases h.2 with hn | ⟨g, cap, cur, hv, hbs, hg, rest⟩
  · exact .inl hn
  · exact .inr ⟨g, cap, cur, hv, hbs, hk g _ T _ hT hg, rest⟩
/-- a message with its row -/
abbrev I9 := M9 × (Option Addr × Nat)
def cellsI (x : I9) : List Value := [.int .i64 x.1.id, .string ⟨x.1.tag.toArray⟩, .slice x.2.1 x.1.vs.length x.2.2]
def cellsW (l : List I9) : List Value := l.flatMap cellsI
theorem cellsI_len (x : I9) : (cellsI x).length = 3 := rfl
theorem cellsW_len : ∀ l : List I9, (cellsW l).length = l.length * 3
  | [] => rfl
  | v :: l => by
    have := cellsW_len l
    unfold cellsW at this ⊢
    rw [List.flatMap_cons, List.length_append, this, cellsI_len, List.length_cons]
    omega
theorem cellsW_at : ∀ {l : List I9} {k : Nat} {x : I9}, l[k]? = some x → ∀ j, j < 3 → (cellsW l)[k * 3 + j]? = (cellsI x)[j]?
  | [], k, x, h, j, hj => by simp at h
  | v :: l, 0, x, h, j, hj => by
    simp at h
    subst h
    unfold cellsW
    rw [List.flatMap_cons, List.getElem?_append_left (by rw [cellsI_len]; omega), Nat.zero_mul, Nat.zero_add]
  | v :: l, k + 1, x, h, j, hj => by
    have := cellsW_at (l := l) (k := k) (x := x) (by simpa using h) j hj
    unfold cellsW at this ⊢
    rw [List.flatMap_cons, List.getElem?_append_right (by rw [cellsI_len]; omega), cellsI_len, show (k + 1) * 3 + j - 3 = k * 3 + j by omega]
    exact this
theorem cellsW_snoc (l : List I9) (x : I9) : cellsW (l ++ [x]) = cellsW l ++ cellsI x := by simp [cellsW]
theorem cellsW_one (l : List I9) : ∀ u ∈ cellsW l, u.oneCell' = true := by
  intro u hu
  unfold cellsW at hu
  rw [List.mem_flatMap] at hu
  obtain ⟨v, _, hv⟩ := hu
  simp only [cellsI, List.mem_cons, List.mem_nil_iff, or_false] at hv
  rcases hv with rfl | rfl | rfl <;> rfl
/-- the list, and each message's row -/
structure Wn (w : World) (B : Nat) (v : Value) (l : List I9) : Prop where
  row : w.ownsRow B 35 3 v l.length (cellsW l)
  each : ∀ x ∈ l, w.ownsRow 0 27 5 (.slice x.2.1 x.1.vs.length x.2.2) x.1.vs.length (cellsP x.1.vs)
  ok : ∀ x ∈ l, PlainM x.1
theorem Wn.nil (w : World) (B : Nat) : Wn w B (.slice none 0 0) [] := ⟨World.ownsRow_nil _ _ _ _, fun x hx => (by cases hx), fun x hx => (by cases hx)⟩
theorem Wn.below {w w' : World} {B : Nat} {v : Value} {l : List I9} (h : Wn w B v l) (hb : Below w.heap.size w w') : Wn w' B v l := ⟨own_keep9 h.row hb, fun x hx => own_keep9 (h.each x hx) hb, h.ok⟩
theorem Wn.ko {T : TypeId} {w w' : World} {B : Nat} {v : Value} {l : List I9} (h : Wn w B v l) (h1 : 35 ≠ T) (h2 : 27 ≠ T) (hk : KO T w w') : Wn w' B v l := ⟨own_ko h.row h1 hk, fun x hx => own_ko (h.each x hx) h2 hk, h.ok⟩
/-- one message's cells -/
theorem Wn.at {w : World} {B n cap : Nat} {a : Option Addr} {l : List I9} (h : Wn w B (.slice a n cap) l) {k : Nat} {x : I9} (hk : l[k]? = some x) :
    ∃ g, a = some ⟨g, 0, none⟩ ∧ g < w.heap.size ∧ w.cell? ⟨g, k * 3, none⟩ = some (.int .i64 x.1.id) ∧ w.cell? ⟨g, k * 3 + 1, none⟩ = some (.string ⟨x.1.tag.toArray⟩) ∧ w.cell? ⟨g, k * 3 + 2, none⟩ = some (.slice x.2.1 x.1.vs.length x.2.2) := by
  have hrow := h.row
  rcases hrow.2 with ⟨_, h0⟩ | ⟨g, cap', cur, he, _⟩
  · exfalso
    rw [List.eq_nil_of_length_eq_zero h0] at hk
    simp at hk
  · simp only [Value.slice.injEq] at he
    obtain ⟨rfl, rfl, rfl⟩ := he
    have hc : ∀ j, j < 3 → ∀ u, (cellsI x)[j]? = some u → w.cell? ⟨g, k * 3 + j, none⟩ = some u := fun j hj u hu => by
      have := hrow.cells (g := g) rfl (k * 3 + j) u (by rw [cellsW_at hk j hj]; exact hu)
      have hadd : (⟨g, 0, none⟩ : Addr).add (k * 3 + j) = ⟨g, k * 3 + j, none⟩ := by unfold Addr.add; split <;> simp_all
      rwa [hadd] at this
    exact ⟨g, rfl, (hrow.lt g rfl).2, hc 0 (by omega) _ rfl, hc 1 (by omega) _ rfl, hc 2 (by omega) _ rfl⟩
/-- one message more -/
theorem Wn.snoc {w w' : World} {B : Nat} {v v' : Value} {l : List I9} {x : I9} (h : Wn w B v l) (hk : KO 35 w w') (hr : w'.ownsRow B 35 3 v' (l.length + 1) (cellsW l ++ cellsI x)) (hx : w.ownsRow 0 27 5 (.slice x.2.1 x.1.vs.length x.2.2) x.1.vs.length (cellsP x.1.vs)) (ho : PlainM x.1) : Wn w' B v' (l ++ [x]) := by
  refine ⟨by rw [cellsW_snoc, List.length_append]; exact hr, fun y hy => ?_, fun y hy => ?_⟩
  · rcases List.mem_append.1 hy with hy | hy
    · exact own_ko (h.each y hy) (by decide) hk
    · rw [List.mem_singleton.1 hy]; exact own_ko hx (by decide) hk
  · rcases List.mem_append.1 hy with hy | hy
    · exact h.ok y hy
    · rw [List.mem_singleton.1 hy]; exact ho
/-- messages one behind the other: the last is told, or one more -/
theorem rdR_end {l : List UInt8} {k : Nat} (h : rdM (l.drop k) = none) : ∀ f, rdR f k (l.drop k) = []
  | 0 => rfl
  | f + 1 => by rw [rdR, h]
theorem rdR_on {l : List UInt8} {k j : Nat} {m : M9} (f : Nat) (h : rdM (l.drop k) = some (m, j)) : rdR (f + 1) k (l.drop k) = (m, k + j) :: rdR f (k + j) (l.drop (k + j)) := by
  rw [rdR, h]
  simp only [List.drop_drop]
theorem rdM_step {l : List UInt8} {k j : Nat} {m : M9} (h : rdM (l.drop k) = some (m, j)) (hk : k ≤ l.length) : k + j ≤ l.length ∧ 0 < j ∧ PlainM m := by
  obtain ⟨h1, _, h3, h4⟩ := rdM_form h
  rw [List.length_drop] at h1
  exact ⟨by omega, h4, h3⟩
/-- the messages with which bytes begin, each with the place behind it -/
def rowsF (l : List UInt8) : List (M9 × Nat) := rdR (l.length + 1) 0 l
theorem info35 : (Try.prog.info? 35).map (fun i => (i.zero, i.size, i.bytes)) = some (some (.agg #[.int .i64 0, .string ⟨#[]⟩, .slice none 0 0]), 3, 48) := by kernel_rfl
theorem info3 : (Try.prog.info? 3).map (fun i => (i.zero, i.size, i.bytes)) = some (some (.int .i64 0), 1, 8) := by kernel_rfl
end Go.Proofs.Ytloofajopgbfmaa
