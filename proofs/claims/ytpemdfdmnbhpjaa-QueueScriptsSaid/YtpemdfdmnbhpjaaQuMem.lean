/- Queue: a queue in memory; what it tells. -/
import Derived.Test.YtpemdfdmnbhpjaaQuDrop
set_option linter.all false
namespace Go.Proofs.Ytpemdfdmnbhpjaa
open Go.RowKit Go.Shelf
set_option maxRecDepth 100000
/-- one above the last number, as it is kept -/
def abv (last : Int) : Int := IntKind.i64.wrap (last + 1)
theorem abv_less {last : Int} (h : -1 ≤ last ∧ last ≤ 9223372036854775807) : IntKind.i64.wrap (abv last - 1) = last := by
  unfold abv
  rw [IntKind.wrap_i64, IntKind.wrap_i64]
  omega
/-- a queue in memory: its block, the blocks of its places -/
def Qm (w : World) (g : Nat) (F : List Nat) (s : Qs) : Prop :=
  ∃ (a : Option Addr) (n cap first : Nat), Bk w g 58 (hd a n cap first s.l.length [.int .i64 s.most, .int .i64 (abv s.last)]) ∧ Pl w a n cap first F s.l ∧ g ∉ F ∧ Wf s
theorem Qm.wf {w : World} {g : Nat} {F : List Nat} {s : Qs} (h : Qm w g F s) : Wf s := by obtain ⟨_, _, _, _, _, _, _, h⟩ := h; exact h
theorem Qm.lt {w : World} {g : Nat} {F : List Nat} {s : Qs} (h : Qm w g F s) : ∀ b ∈ g :: F, b < w.heap.size := by
  obtain ⟨a, n, cap, first, hb, hp, _, _⟩ := h
  intro b hb'
  rcases List.mem_cons.1 hb' with rfl | h
  · exact hb.lt
  · exact hp.lt b h
theorem Qm.keep {w w' : World} {g : Nat} {F : List Nat} {s : Qs} (h : Qm w g F s) (hs : SameB (g :: F) w w') : Qm w' g F s := by
  obtain ⟨a, n, cap, first, hb, hp, hg, hw⟩ := h
  exact ⟨a, n, cap, first, hb.same (hs g (List.mem_cons_self ..)), hp.keep (fun x hx => hs x (List.mem_cons_of_mem _ hx)), hg, hw⟩
theorem Qm.below {w w' : World} {g : Nat} {F : List Nat} {s : Qs} (h : Qm w g F s) (hb : Below w.heap.size w w') : Qm w' g F s := h.keep (SameB.of_below hb h.lt)
theorem Qm.few {w : World} {g : Nat} {F : List Nat} {s : Qs} (h : Qm w g F s) : s.l.length ≤ 4611686018427387904 := by
  obtain ⟨a, n, cap, first, hb, hp, _, _⟩ := h
  exact Nat.le_trans hp.few hp.2.1
theorem len_any {w : World} {g : Nat} {F : List Nat} {s : Qs} (h : Qm w g F s) : Calls Try.prog 23 #[.pointer (some ⟨g, 0, none⟩)] w fun e w' => e = .returned (.int .i64 (s.l.length : Int)) ∧ w = w' := by
  obtain ⟨a, n, cap, first, hb, _, _, _⟩ := h
  have c2 := hb.c 2 rfl
  clear hb
  go_enter Try.func23, Try.ntmps23
  go_wp2
  go_ret
  exact ⟨rfl, rfl⟩
theorem room_any {w : World} {g : Nat} {F : List Nat} {s : Qs} (h : Qm w g F s) : Calls Try.prog 24 #[.pointer (some ⟨g, 0, none⟩)] w fun e w' => e = .returned (.int .i64 (s.most - s.l.length)) ∧ ∃ q, w' = w.drewN q := by
  obtain ⟨a, n, cap, first, hb, _, _, hw⟩ := h
  have c2 := hb.c 2 rfl
  have c3 := hb.c 3 rfl
  have hf := hw.few
  have hm := hw.most
  have hw1 : IntKind.i64.wrap (s.most - (s.l.length : Int)) = s.most - (s.l.length : Int) := by rw [IntKind.wrap_i64]; omega
  clear hb hw
  go_enter Try.func24, Try.ntmps24
  go_wp2_with fail
  go_quiet (fail)
  go_wp2
  go_ret
  exact ⟨rfl, _, rfl⟩
theorem last_any {w : World} {g : Nat} {F : List Nat} {s : Qs} (h : Qm w g F s) : Calls Try.prog 25 #[.pointer (some ⟨g, 0, none⟩)] w fun e w' => e = .returned (.int .i64 s.last) ∧ w = w' := by
  obtain ⟨a, n, cap, first, hb, _, _, hw⟩ := h
  have c4 := hb.c 4 rfl
  have hw1 := abv_less hw.last
  clear hb hw
  go_enter Try.func25, Try.ntmps25
  go_wp2
  go_ret
  exact ⟨rfl, rfl⟩
theorem new_any (most : Int) (w : World) (hm : 1 ≤ most ∧ most ≤ 9223372036854775807) : Calls Try.prog 7 #[.int .i64 most] w fun e w' => e = .returned (.tuple #[.pointer (some ⟨w.heap.size, 0, none⟩), .int .i64 0]) ∧ Qm w' w.heap.size [] (newQ most) ∧ Below w.heap.size w w' := by
  have t : decide (most < 1) = false := by simp; omega
  go_enter Try.func7, Try.ntmps7
  go_wp2
  go_ret2
  refine ⟨rfl, ⟨none, 0, 0, 0, Bk.new w _ _, ⟨Nat.le_refl _, Nat.zero_le _, .inl ⟨rfl, rfl, rfl, rfl⟩⟩, (fun h => by cases h), wf_new hm.1 hm.2⟩, (Below.refl _ w).alloc (Nat.le_refl _) _⟩
theorem new_no (most : Int) (w : World) (hm : most < 1) : Calls Try.prog 7 #[.int .i64 most] w fun e w' => e = .returned (.tuple #[.pointer none, .int .i64 2]) ∧ w = w' := by
  go_enter Try.func7, Try.ntmps7
  go_wp2
  go_ret2
  exact ⟨rfl, rfl⟩
theorem at_yes {w : World} {g : Nat} {F : List Nat} {s : Qs} (h : Qm w g F s) {k : Nat} {x : It} (hx : s.l[k]? = some x) : Calls Try.prog 18 #[.pointer (some ⟨g, 0, none⟩), .int .i64 (k : Int)] w fun e w' => e = .returned (.tuple #[.int .i64 x.1, .int .i64 x.2, .bool true]) ∧ ∃ q, w' = w.drewN q := by
  have HL := Lib.hid (len_any h)
  obtain ⟨a, n, cap, first, hb, hp, _, hw⟩ := h
  have hk := get_lt hx
  have hlf := hp.few
  obtain ⟨pb, cs, rfl, rfl, hr⟩ := hp.ring hb (by omega)
  have HA := Lib.hid (hr.at hk)
  have h0 := hr.c0 hx
  have h1 := hr.c1 hx
  clear hb hp hw hr hx
  generalize slot n first k = S at HA h0 h1
  have t : decide ((s.l.length : Int) ≤ (k : Int)) = false := by simp; omega
  go_enter Try.func18, Try.ntmps18
  go_wp2_with (first
    | (go_at_call 23; (with_reducible refine HL.out.mono ?_); rintro e w' ⟨rfl, rfl⟩)
    | (go_at_call 28; (with_reducible refine HA.out.mono ?_); rintro e w' ⟨rfl, q, rfl⟩))
  go_quiet (fail)
  go_wp2
  go_ret3
  exact ⟨rfl, _, by rw [World.drewN_drewN]⟩
theorem at_no {w : World} {g : Nat} {F : List Nat} {s : Qs} (h : Qm w g F s) {i : Int} (hi : i < 0 ∨ (s.l.length : Int) ≤ i) : Calls Try.prog 18 #[.pointer (some ⟨g, 0, none⟩), .int .i64 i] w fun e w' => e = .returned (.tuple #[.int .i64 0, .int .i64 0, .bool false]) ∧ w = w' := by
  have HL := Lib.hid (len_any h)
  clear h
  by_cases hn : i < 0
  · clear hi
    go_enter Try.func18, Try.ntmps18
    go_wp2_with (go_at_call 23; (with_reducible refine HL.out.mono ?_); rintro e w' ⟨rfl, rfl⟩)
    go_ret3
    exact ⟨rfl, rfl⟩
  · have hi2 : (s.l.length : Int) ≤ i := by omega
    clear hi
    go_enter Try.func18, Try.ntmps18
    go_wp2_with (go_at_call 23; (with_reducible refine HL.out.mono ?_); rintro e w' ⟨rfl, rfl⟩)
    go_ret3
    exact ⟨rfl, rfl⟩
end Go.Proofs.Ytpemdfdmnbhpjaa
