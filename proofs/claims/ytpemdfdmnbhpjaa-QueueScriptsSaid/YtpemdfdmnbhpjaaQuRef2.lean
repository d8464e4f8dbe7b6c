/- Queue: the reference's Find, Put, Take, Copy. -/
import Derived.Test.YtpemdfdmnbhpjaaQuRef
import Derived.Deep.RegionHeld3
set_option linter.all false
namespace Go.Proofs.Ytpemdfdmnbhpjaa
open Go.RowKit Go.Shelf
set_option maxRecDepth 100000
def RfdP (s : Qs) (id : Int) (w : World) (e : Ending) (w' : World) : Prop :=
  e = .returned (match fnd id s.l with
    | some k => .tuple #[.int .i64 (k : Int), .bool true]
    | none => .tuple #[.int .i64 0, .bool false]) ∧ w = w'
theorem rfind_any {w : World} {B r : Nat} {Fr : List Nat} {s : Qs} (h : Rm w B r Fr s) (hf : s.l.length ≤ 9223372036854775807) (id : Int) :
    Calls Try.prog 17 #[.pointer (some ⟨r, 0, none⟩), .int .i64 id] w (RfdP s id w) := by
  obtain ⟨G1, G2, v1, v2, rfl, hb, h1, h2, _⟩ := h
  obtain ⟨a, c, rfl⟩ := h1.slice
  rw [List.length_map] at hb h1
  have d0 := hb.c 0 rfl
  have H1 := Lib.hid h1
  clear hb h1 h2
  go_enter Try.func17, Try.ntmps17
  go_wp2_with fail
  go_loop [6] (fun vi => ∃ i : Nat, vi = .int .i64 (i : Int) ∧ i ≤ s.l.length ∧ Hid (∀ (j : Nat) (y : It), j < i → s.l[j]? = some y → y.1 ≠ id)) (fun vi => s.l.length - (intOf vi).toNat)
  case atStart => exact ⟨0, rfl, Nat.zero_le _, Lib.hid (fun j y hj => by omega)⟩
  case round =>
    obtain ⟨i, rfl, hi, HN⟩ := hrel
    rcases Nat.lt_or_ge i s.l.length with hlt | hge
    · obtain ⟨it, hit⟩ : ∃ it, s.l[i]? = some it := ⟨_, List.getElem?_eq_getElem hlt⟩
      obtain ⟨b1, c1, he, hcc, hcell⟩ := H1.out.cell (k := i) (x := it.1) (by rw [List.getElem?_map, hit]; rfl)
      rw [List.length_map] at he hcc
      cases he
      have hi1 : IntKind.i64.wrap ((i : Int) + 1) = (i : Int) + 1 := by rw [IntKind.wrap_i64]; omega
      by_cases he : it.1 = id
      · have t : (it.1 == id) = true := by simpa using he
        have HF := Lib.hid (show fnd id s.l = some i from fnd_at (x := it.2) (by rw [hit, ← he]) HN.out)
        clear he hit
        go_wp2
        go_ret2
        exact ⟨by rw [HF.out]; rfl, rfl⟩
      · have t : (it.1 == id) = false := by simpa using he
        have HN2 : Hid (∀ (j : Nat) (y : It), j < i + 1 → s.l[j]? = some y → y.1 ≠ id) := Lib.hid (fun j y hj hy => by
          rcases Nat.lt_or_ge j i with h | h
          · exact HN.out j y h hy
          · obtain rfl : j = i := by omega
            rw [hit] at hy
            cases hy
            exact he)
        clear he hit
        go_wp2
        go_round
        case rel => exact ⟨i + 1, by go_num, by omega, HN2⟩
        case measure => simp [intOf]; omega
    · have HF := Lib.hid (show fnd id s.l = none from fnd_no (fun j y hy => HN.out j y (by have := get_lt hy; omega) hy))
      go_wp2
      go_ret2
      exact ⟨by rw [HF.out]; rfl, rfl⟩
/-- a call that turns the reference's queue -/
def RuP (v : Value) (B r : Nat) (Fr : List Nat) (s : Qs) (w : World) (e : Ending) (w' : World) : Prop :=
  e = .returned v ∧ ∃ Fr', Rm w' B r Fr' s ∧ Out (r :: Fr) w w' ∧ (∀ b ∈ Fr', b ∈ Fr ∨ w.heap.size ≤ b)
theorem ru_same {v : Value} {B r : Nat} {Fr : List Nat} {s : Qs} {w w' : World} (h : Rm w B r Fr s) (hb : Below w.heap.size w w') : RuP v B r Fr s w (.returned v) w' := ⟨rfl, Fr, h.below hb, Out.of_below hb, fun b hb => .inl hb⟩
set_option maxHeartbeats 4000000 in
theorem rput_any {w : World} {B r : Nat} {Fr : List Nat} {s : Qs} (h : Rm w B r Fr s) (hf : s.l.length ≤ 8796093022207) {id x : Int} (hid : In id) (hx : In x) :
    Calls Try.prog 13 #[.pointer (some ⟨r, 0, none⟩), .int .i64 id, .int .i64 x] w (RuP (.int .i64 (putE s id)) B r Fr (putS s id x) w) := by
  have hwf := h.wf
  have HR := Lib.hid h
  obtain ⟨G1, G2, v1, v2, rfl, hb, h1, h2, hap, hBr, _⟩ := h
  obtain ⟨a1, c1, rfl⟩ := h1.slice
  obtain ⟨a2, c2, rfl⟩ := h2.slice
  rw [List.length_map] at hb
  rw [List.length_map] at hb
  rw [List.length_map] at h1 h2
  have d0 := hb.c 0 rfl
  have d2 := hb.c 2 rfl
  have d3 := hb.c 3 rfl
  by_cases g1 : id ≤ s.last
  · have HE := Lib.hid (show putE s id = 2 by unfold putE; rw [if_pos g1])
    have HS := Lib.hid (show putS s id x = s from putS_no (by rw [HE.out]; decide))
    rw [HE.out, HS.out]
    have t1 : decide (id ≤ s.last) = true := by simpa using g1
    clear g1 hwf hb h1 h2
    go_enter Try.func13, Try.ntmps13
    go_wp2
    go_ret
    exact ru_same HR.out (Below.refl _ _)
  · have t1 : decide (id ≤ s.last) = false := by simpa using g1
    by_cases g2 : s.most ≤ s.l.length
    · have HE := Lib.hid (show putE s id = 120 by unfold putE; rw [if_neg g1, if_pos g2])
      have HS := Lib.hid (show putS s id x = s from putS_no (by rw [HE.out]; decide))
      rw [HE.out, HS.out]
      have t2 : decide (s.most ≤ (s.l.length : Int)) = true := by simpa using g2
      clear g1 g2 hwf hb h1 h2
      go_enter Try.func13, Try.ntmps13
      go_wp2_with fail
      go_quiet (fail)
      go_wp2
      go_ret
      exact ru_same HR.out (below_drewN (Below.refl _ _) _)
    · have HE := Lib.hid (show putE s id = 0 by unfold putE; rw [if_neg g1, if_neg g2])
      have HS := Lib.hid (show putS s id x = ⟨s.most, id, s.l ++ [(id, x)]⟩ from putS_yes HE.out)
      have HW := Lib.hid (wf_put hwf hid hx)
      rw [HE.out]
      have t2 : decide (s.most ≤ (s.l.length : Int)) = false := by simpa using g2
      have HB := Lib.hid hb
      have H1 := Lib.hid (show Ir w B G1 (.slice a1 s.l.length c1) (s.l.map (·.1)) from by rw [← List.length_map (f := fun y : It => y.1)]; simpa using h1)
      have H2 := Lib.hid (show Ir w B G2 (.slice a2 s.l.length c2) (s.l.map (·.2)) from by rw [← List.length_map (f := fun y : It => y.2)]; simpa using h2)
      have HAP := Lib.hid hap
      have HSZ := Lib.hid (show B ≤ w.heap.size from by have := hb.lt; omega)
      clear g1 g2 hwf hb h1 h2 hap
      go_enter Try.func13, Try.ntmps13
      go_wp2_with fail
      go_quiet (fail)
      obtain ⟨wd, hwd⟩ : ∃ wd, wd = w.drewN nq := ⟨_, rfl⟩
      have kd : Below w.heap.size w wd := by rw [hwd]; exact below_drewN (Below.refl _ w) nq
      have HBd := Lib.hid (HB.out.below kd)
      have H1d := Lib.hid (H1.out.below kd)
      have H2d := Lib.hid (H2.out.below kd)
      have HKD := Lib.hid kd
      rw [← hwd]
      clear hwd kd d0 d2 d3
      have d0 := HBd.out.c 0 rfl
      have l1 : (s.l.map (·.1)).length = s.l.length := List.length_map _
      have l2 : (s.l.map (·.2)).length = s.l.length := List.length_map _
      have HL1 := Lib.hid l1
      have HL2 := Lib.hid l2
      have E3 := Lib.hid (show (s.l.map (·.1) ++ [id]).length = s.l.length + 1 by simp)
      have E5 := Lib.hid (show (s.l.map (·.2) ++ [x]).length = s.l.length + 1 by simp)
      clear l1 l2
      go_upto_region 8 with (at_builtin; refine wpList_ir1 (w0 := wd) rfl (.tmp 29) (.tmp 31) rfl H1d.out id rfl rfl rfl (by rw [HL1.out]; omega) (Nat.le_trans HSZ.out HKD.out.size) ?_; intro v3 G3 w3 hr3 ho3 hn3; obtain ⟨a3, c3, he3⟩ := hr3.slice; rw [E3.out] at he3; subst he3; have hb3 := HBd.out.out ho3 (ref_ne HBd.out H1d.out); have e0 := hb3.c 0 rfl; have f0 := hb3.fz 0; have HB3 := Lib.hid hb3; have HR3 := Lib.hid hr3; have HO3 := Lib.hid ho3; have HN3 := Lib.hid hn3; clear hr3 ho3 hn3 hb3)
      clear e0 f0 d0
      generalize hv3 : Value.slice a3 (s.l.length + 1) c3 = v3 at HR3 ⊢
      obtain ⟨w4, hw4⟩ : ∃ w4, w4 = w3.setCell ⟨r, 0, none⟩ v3 := ⟨_, rfl⟩
      have hrF1 := ref_ne HBd.out H1d.out
      have hrF2 := ref_ne HBd.out H2d.out
      have HB4 := Lib.hid (show Bk w4 r 60 [v3, .slice a2 s.l.length c2, .int .i64 s.most, .int .i64 s.last] by rw [hw4]; exact HB3.out.set 0 v3)
      have ho4 : Out (r :: G1) wd w4 := by rw [hw4]; exact (HO3.out.mono (fun x hx => List.mem_cons_of_mem _ hx)).setCell (.inl (List.mem_cons_self ..)) _ _
      have HR4 := Lib.hid (show Ir w4 B G3 v3 (s.l.map (·.1) ++ [id]) by
        rw [hw4]
        refine HR3.out.keep (fun b hb => heap_setCell_other _ ⟨r, 0, none⟩ b _ (fun e => ref_ne HB3.out HR3.out ((show b = r from e) ▸ hb)))
      )
      have H24 := Lib.hid (H2d.out.keep (ho4.same fun b hb => ⟨H2d.out.lt b hb, fun e => by
        rcases List.mem_cons.1 e with rfl | e
        · exact hrF2 hb
        · exact HAP.out b e hb⟩))
      have HO4 := Lib.hid ho4
      rw [← hw4]
      clear hw4 ho4
      have d1 := HB4.out.c 1 rfl
      go_upto_region 9 with (at_builtin; refine wpList_ir1 (w0 := w4) rfl (.tmp 39) (.tmp 41) rfl H24.out x rfl rfl rfl (by rw [HL2.out]; omega) (Nat.le_trans HSZ.out (Nat.le_trans HKD.out.size HO4.out.size)) ?_; intro v5 G5 w5 hr5 ho5 hn5; obtain ⟨a5, c5, he5⟩ := hr5.slice; rw [E5.out] at he5; subst he5; have hb5 := HB4.out.out ho5 (ref_ne HB4.out H24.out); have e1 := hb5.c 1 rfl; have f1 := hb5.fz 1; have HB5 := Lib.hid hb5; have HR5 := Lib.hid hr5; have HO5 := Lib.hid ho5; have HN5 := Lib.hid hn5; clear hr5 ho5 hn5 hb5)
      clear e1 f1 d1
      generalize hv5 : Value.slice a5 (s.l.length + 1) c5 = v5 at HR5 ⊢
      obtain ⟨w6, hw6⟩ : ∃ w6, w6 = w5.setCell ⟨r, 1, none⟩ v5 := ⟨_, rfl⟩
      have HB6 := Lib.hid (show Bk w6 r 60 [v3, v5, .int .i64 s.most, .int .i64 s.last] by rw [hw6]; exact HB5.out.set 1 v5)
      have ho6 : Out (r :: G2) w4 w6 := by rw [hw6]; exact (HO5.out.mono (fun x hx => List.mem_cons_of_mem _ hx)).setCell (.inl (List.mem_cons_self ..)) _ _
      have hdj : ∀ b ∈ G3, b ∉ G2 := fun b hb e => by
        rcases HN3.out b hb with h9 | h9
        · exact HAP.out b h9 e
        · have := H2d.out.lt b e
          omega
      have HDJ := Lib.hid hdj
      have HR6 := Lib.hid (show Ir w6 B G5 v5 (s.l.map (·.2) ++ [x]) by
        rw [hw6]
        exact HR5.out.keep (fun b hb => heap_setCell_other _ ⟨r, 1, none⟩ b _ (fun e => ref_ne HB5.out HR5.out ((show b = r from e) ▸ hb))))
      have HR46 := Lib.hid (HR4.out.keep (ho6.same fun b hb => ⟨HR4.out.lt b hb, fun e => by
        rcases List.mem_cons.1 e with rfl | e
        · exact ref_ne HB4.out HR4.out hb
        · exact hdj b hb e⟩))
      have HO6 := Lib.hid ho6
      rw [← hw6]
      clear hw6 ho6 hdj
      have d3 := HB6.out.c 3 rfl
      have f3 := HB6.out.fz 3
      go_wp2
      go_ret
      have hw9 := HW.out
      rw [HS.out] at hw9 ⊢
      have hz4 := HO4.out.size
      refine ⟨rfl, G3 ++ G5, ⟨G3, G5, v3, v5, rfl, HB6.out.set 3 _, ?_, ?_, fun b hb e => ?_, hBr, hw9⟩, ?_, fun b hb => ?_⟩
      · have h9 := HR46.out.keep (w' := w6.setCell ⟨r, 3, none⟩ (.int .i64 id)) (fun b hb => heap_setCell_other _ ⟨r, 3, none⟩ b _ (fun e => ref_ne HB6.out HR46.out ((show b = r from e) ▸ hb)))
        simpa using h9
      · have h9 := HR6.out.keep (w' := w6.setCell ⟨r, 3, none⟩ (.int .i64 id)) (fun b hb => heap_setCell_other _ ⟨r, 3, none⟩ b _ (fun e => ref_ne HB6.out HR6.out ((show b = r from e) ▸ hb)))
        simpa using h9
      · rcases HN5.out b e with h9 | h9
        · exact HDJ.out b hb h9
        · have := HR4.out.lt b hb
          omega
      · refine Out.setCell ?_ (.inl (List.mem_cons_self ..)) _ _
        refine ((Out.of_below HKD.out).trans (HO4.out.mono ?_)).trans (HO6.out.mono ?_)
        · intro b hb
          rcases List.mem_cons.1 hb with rfl | h
          · exact List.mem_cons_self ..
          · exact List.mem_cons_of_mem _ (List.mem_append_left _ h)
        · intro b hb
          rcases List.mem_cons.1 hb with rfl | h
          · exact List.mem_cons_self ..
          · exact List.mem_cons_of_mem _ (List.mem_append_right _ h)
      · have hzd := HKD.out.size
        rcases List.mem_append.1 hb with h | h
        · rcases HN3.out b h with h9 | h9
          · exact .inl (List.mem_append_left _ h9)
          · right; omega
        · rcases HN5.out b h with h9 | h9
          · exact .inl (List.mem_append_right _ h9)
          · right; omega
end Go.Proofs.Ytpemdfdmnbhpjaa
