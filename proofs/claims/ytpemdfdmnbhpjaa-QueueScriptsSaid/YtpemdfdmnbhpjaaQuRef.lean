/- Queue: the reference's queue. -/
import Derived.Test.YtpemdfdmnbhpjaaQuSteps
set_option linter.all false
namespace Go.Proofs.Ytpemdfdmnbhpjaa
open Go.RowKit Go.Shelf
set_option maxRecDepth 100000
/-- the reference's queue in memory: its block, the blocks of its two rows -/
def Rm (w : World) (B r : Nat) (Fr : List Nat) (s : Qs) : Prop :=
  ∃ (G1 G2 : List Nat) (v1 v2 : Value), Fr = G1 ++ G2 ∧ Bk w r 60 [v1, v2, .int .i64 s.most, .int .i64 s.last] ∧ Ir w B G1 v1 (s.l.map (·.1)) ∧ Ir w B G2 v2 (s.l.map (·.2)) ∧ (∀ b ∈ G1, b ∉ G2) ∧ B ≤ r ∧ Wf s
theorem Rm.wf {w : World} {B r : Nat} {Fr : List Nat} {s : Qs} (h : Rm w B r Fr s) : Wf s := by obtain ⟨_, _, _, _, _, _, _, _, _, _, h⟩ := h; exact h
theorem Rm.lt {w : World} {B r : Nat} {Fr : List Nat} {s : Qs} (h : Rm w B r Fr s) : ∀ b ∈ r :: Fr, b < w.heap.size := by
  obtain ⟨G1, G2, v1, v2, rfl, hb, h1, h2, _⟩ := h
  intro b hb'
  rcases List.mem_cons.1 hb' with rfl | h
  · exact hb.lt
  · rcases List.mem_append.1 h with h | h
    · exact h1.lt b h
    · exact h2.lt b h
theorem Rm.new {w : World} {B r : Nat} {Fr : List Nat} {s : Qs} (h : Rm w B r Fr s) : ∀ b ∈ r :: Fr, B ≤ b := by
  obtain ⟨G1, G2, v1, v2, rfl, hb, h1, h2, _, hr, _⟩ := h
  intro b hb'
  rcases List.mem_cons.1 hb' with rfl | h
  · exact hr
  · rcases List.mem_append.1 h with h | h
    · exact (h1.ty b h).1
    · exact (h2.ty b h).1
theorem Rm.keep {w w' : World} {B r : Nat} {Fr : List Nat} {s : Qs} (h : Rm w B r Fr s) (hs : SameB (r :: Fr) w w') : Rm w' B r Fr s := by
  obtain ⟨G1, G2, v1, v2, rfl, hb, h1, h2, r'⟩ := h
  exact ⟨G1, G2, v1, v2, rfl, hb.same (hs r (List.mem_cons_self ..)), h1.keep (fun x hx => hs x (List.mem_cons_of_mem _ (List.mem_append_left _ hx))), h2.keep (fun x hx => hs x (List.mem_cons_of_mem _ (List.mem_append_right _ hx))), r'⟩
theorem Rm.below {w w' : World} {B r : Nat} {Fr : List Nat} {s : Qs} (h : Rm w B r Fr s) (hb : Below w.heap.size w w') : Rm w' B r Fr s := h.keep (SameB.of_below hb h.lt)
/-- the block of the queue is no block of ints -/
theorem ref_ne {w : World} {B r : Nat} {G : List Nat} {v : Value} {l : List Int} {cs : List Value} (hb : Bk w r 60 cs) (h : Ir w B G v l) : r ∉ G := fun e => by
  obtain ⟨_, cur, hg⟩ := h.ty r e
  unfold Bk at hb
  rw [hb] at hg
  cases hg
theorem rlen_any {w : World} {B r : Nat} {Fr : List Nat} {s : Qs} (h : Rm w B r Fr s) : Calls Try.prog 35 #[.pointer (some ⟨r, 0, none⟩)] w fun e w' => e = .returned (.int .i64 (s.l.length : Int)) ∧ w = w' := by
  obtain ⟨G1, G2, v1, v2, rfl, hb, h1, h2, _⟩ := h
  obtain ⟨a, c, rfl⟩ := h1.slice
  rw [List.length_map] at hb
  have c0 := hb.c 0 rfl
  clear hb h1 h2
  go_enter Try.func35, Try.ntmps35
  go_wp2
  go_ret
  exact ⟨rfl, rfl⟩
theorem rroom_any {w : World} {B r : Nat} {Fr : List Nat} {s : Qs} (h : Rm w B r Fr s) : Calls Try.prog 36 #[.pointer (some ⟨r, 0, none⟩)] w fun e w' => e = .returned (.int .i64 (s.most - s.l.length)) ∧ ∃ q, w' = w.drewN q := by
  have hw := h.wf
  obtain ⟨G1, G2, v1, v2, rfl, hb, h1, h2, _⟩ := h
  obtain ⟨a, c, rfl⟩ := h1.slice
  rw [List.length_map] at hb
  have c0 := hb.c 0 rfl
  have c2 := hb.c 2 rfl
  have hf := hw.few
  have hm := hw.most
  have hw1 : IntKind.i64.wrap (s.most - (s.l.length : Int)) = s.most - (s.l.length : Int) := by rw [IntKind.wrap_i64]; omega
  clear hb h1 h2 hw
  go_enter Try.func36, Try.ntmps36
  go_wp2_with fail
  go_quiet (fail)
  go_wp2
  go_ret
  exact ⟨rfl, _, rfl⟩
theorem rlast_any {w : World} {B r : Nat} {Fr : List Nat} {s : Qs} (h : Rm w B r Fr s) : Calls Try.prog 37 #[.pointer (some ⟨r, 0, none⟩)] w fun e w' => e = .returned (.int .i64 s.last) ∧ w = w' := by
  obtain ⟨G1, G2, v1, v2, rfl, hb, h1, h2, _⟩ := h
  have c3 := hb.c 3 rfl
  clear hb h1 h2
  go_enter Try.func37, Try.ntmps37
  go_wp2
  go_ret
  exact ⟨rfl, rfl⟩
theorem rnew_any (most : Int) (B : Nat) (w : World) (hB : B ≤ w.heap.size) (hm : 1 ≤ most ∧ most ≤ 9223372036854775807) : Calls Try.prog 8 #[.int .i64 most] w fun e w' => e = .returned (.tuple #[.pointer (some ⟨w.heap.size, 0, none⟩), .int .i64 0]) ∧ Rm w' B w.heap.size [] (newQ most) ∧ Below w.heap.size w w' := by
  have t : decide (most < 1) = false := by simp; omega
  go_enter Try.func8, Try.ntmps8
  go_wp2
  go_ret2
  refine ⟨rfl, ⟨[], [], .slice none 0 0, .slice none 0 0, rfl, Bk.new w _ _, Ir.nil _ _, Ir.nil _ _, (fun b hb => by cases hb), hB, wf_new hm.1 hm.2⟩, (Below.refl _ w).alloc (Nat.le_refl _) _⟩
theorem rnew_no (most : Int) (w : World) (hm : most < 1) : Calls Try.prog 8 #[.int .i64 most] w fun e w' => e = .returned (.tuple #[.pointer none, .int .i64 2]) ∧ w = w' := by
  go_enter Try.func8, Try.ntmps8
  go_wp2
  go_ret2
  exact ⟨rfl, rfl⟩
theorem rat_yes {w : World} {B r : Nat} {Fr : List Nat} {s : Qs} (h : Rm w B r Fr s) {k : Nat} {x : It} (hx : s.l[k]? = some x) (hk2 : s.l.length ≤ 9223372036854775807) : Calls Try.prog 19 #[.pointer (some ⟨r, 0, none⟩), .int .i64 (k : Int)] w fun e w' => e = .returned (.tuple #[.int .i64 x.1, .int .i64 x.2, .bool true]) ∧ ∃ q, w' = w.drewN q := by
  have hk := get_lt hx
  obtain ⟨G1, G2, v1, v2, rfl, hb, h1, h2, _⟩ := h
  obtain ⟨b1, c1, rfl, hc1, y1⟩ := h1.cell (k := k) (x := x.1) (by rw [List.getElem?_map, hx]; rfl)
  obtain ⟨b2, c2, rfl, hc2, y2⟩ := h2.cell (k := k) (x := x.2) (by rw [List.getElem?_map, hx]; rfl)
  rw [List.length_map] at hb hc1 hc2
  rw [List.length_map] at hb
  have d0 := hb.c 0 rfl
  have d1 := hb.c 1 rfl
  have t : decide ((s.l.length : Int) ≤ (k : Int)) = false := by simp; omega
  clear hb h1 h2 hx
  go_enter Try.func19, Try.ntmps19
  go_wp2_with fail
  go_quiet (fail)
  go_wp2
  go_ret3
  exact ⟨rfl, _, rfl⟩
theorem rat_no {w : World} {B r : Nat} {Fr : List Nat} {s : Qs} (h : Rm w B r Fr s) {i : Int} (hi : i < 0 ∨ (s.l.length : Int) ≤ i) : Calls Try.prog 19 #[.pointer (some ⟨r, 0, none⟩), .int .i64 i] w fun e w' => e = .returned (.tuple #[.int .i64 0, .int .i64 0, .bool false]) ∧ w = w' := by
  obtain ⟨G1, G2, v1, v2, rfl, hb, h1, h2, _⟩ := h
  obtain ⟨a, c, rfl⟩ := h1.slice
  rw [List.length_map] at hb
  have d0 := hb.c 0 rfl
  clear hb h1 h2
  by_cases hn : i < 0
  · clear hi
    go_enter Try.func19, Try.ntmps19
    go_wp2
    go_ret3
    exact ⟨rfl, rfl⟩
  · have hi2 : (s.l.length : Int) ≤ i := by omega
    clear hi
    go_enter Try.func19, Try.ntmps19
    go_wp2
    go_ret3
    exact ⟨rfl, rfl⟩
end Go.Proofs.Ytpemdfdmnbhpjaa
