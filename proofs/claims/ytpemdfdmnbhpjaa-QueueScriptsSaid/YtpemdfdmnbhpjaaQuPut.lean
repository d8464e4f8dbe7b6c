/- Queue: Put, Take, Copy. -/
import Derived.Test.YtpemdfdmnbhpjaaQuFind
set_option linter.all false
namespace Go.Proofs.Ytpemdfdmnbhpjaa
open Go.RowKit Go.Shelf
set_option maxRecDepth 100000
/-- a call that turns the queue at g: what it answers, the queue behind it -/
def QuP (v : Value) (g : Nat) (F : List Nat) (s : Qs) (w : World) (e : Ending) (w' : World) : Prop :=
  e = .returned v ∧ ∃ F', Qm w' g F' s ∧ Out (g :: F) w w' ∧ (∀ b ∈ F', b ∈ F ∨ w.heap.size ≤ b)
theorem Qm.ring {w : World} {g : Nat} {F : List Nat} {s : Qs} (h : Qm w g F s) : ∃ (a : Option Addr) (n cap first : Nat), Bk w g 58 (hd a n cap first s.l.length [.int .i64 s.most, .int .i64 (abv s.last)]) ∧ Pl w a n cap first F s.l ∧ g ∉ F := by
  obtain ⟨a, n, cap, first, hb, hp, hg, _⟩ := h
  exact ⟨a, n, cap, first, hb, hp, hg⟩
set_option maxHeartbeats 2000000 in
theorem copy_any {w : World} {g : Nat} {F : List Nat} {s : Qs} (h : Qm w g F s) (hf : s.l.length ≤ 17592186044416) :
    Calls Try.prog 10 #[.pointer (some ⟨g, 0, none⟩)] w fun e w' => ∃ g' F', e = .returned (.pointer (some ⟨g', 0, none⟩)) ∧ Qm w' g' F' s ∧ Below w.heap.size w w' ∧ ∀ b ∈ g' :: F', w.heap.size ≤ b := by
  have hwf := h.wf
  obtain ⟨a, n, cap, first, hb, hp, hg⟩ := h.ring
  have c2 := hb.c 2 rfl
  have c3 := hb.c 3 rfl
  have c4 := hb.c 4 rfl
  have HLD := Lib.hid (laid_any ((hp.src hb).below (drew_below w)) s.l.length (Nat.le_refl _) (by omega))
  have HB := Lib.hid hb
  have HW := Lib.hid hwf
  have hglt := hb.lt
  clear hb hp hg h hwf
  go_enter Try.func10, Try.ntmps10
  go_wp2_with fail
  go_region_held3 (fun W => W.cell? ⟨g, 2, none⟩ = some (.int .i64 (s.l.length : Int)) ∧ W.cell? ⟨g, 3, none⟩ = some (.int .i64 s.most) ∧ W.cell? ⟨g, 4, none⟩ = some (.int .i64 (abv s.last)))
    (first | (refine ⟨?_, ?_, ?_⟩ <;> assumption) | go_keep)
    (first | (go_at_call 26; refine HLD.out.mono ?_; rintro e w3 ⟨pb, cs, rfl, hpb, hb3, hk3, hc3, ht3⟩; have B3 := HB.out.below ((drew_below w).trans (hb3.mono (Nat.le_refl _))); have d2 := B3.c 2 rfl; have d3 := B3.c 3 rfl; have d4 := B3.c 4 rfl; have HB3 := Lib.hid B3; have HK3 := Lib.hid hk3; have HC3 := Lib.hid hc3; have HT3 := Lib.hid ht3; have HBE := Lib.hid ((drew_below w).trans (hb3.mono (Nat.le_refl _))); have HPB := Lib.hid (show w.heap.size ≤ pb from hpb); clear B3 hk3 hc3 ht3 hb3 hpb))
  rename_i hHeld
  clear hHeld d2 d3 d4 c2 c3 c4
  go_wp2
  go_ret
  obtain ⟨W4, hW4⟩ : ∃ W4, W4 = w3.alloc (.cells #[.slice (some ⟨pb, 0, none⟩) s.l.length s.l.length, .int .i64 0, .int .i64 (s.l.length : Int), .int .i64 s.most, .int .i64 (abv s.last)] 58) := ⟨_, rfl⟩
  have k4 : Below w3.heap.size w3 W4 := by rw [hW4]; exact (Below.refl _ w3).alloc (Nat.le_refl _) _
  have b4 : Bk W4 w3.heap.size 58 (hd (some ⟨pb, 0, none⟩) s.l.length s.l.length 0 s.l.length [.int .i64 s.most, .int .i64 (abv s.last)]) := by rw [hW4]; exact Bk.new w3 _ _
  have p4 := HK3.out.below k4
  have hpl := HK3.out.lt
  have hpb := HPB.out
  have hz := HBE.out.size
  have hbw : Below w.heap.size w W4 := HBE.out.trans (k4.mono hz)
  rw [← hW4]
  rcases Nat.eq_zero_or_pos s.l.length with h0 | h0
  · have e : s.l = [] := List.eq_nil_of_length_eq_zero h0
    refine ⟨w3.heap.size, [], rfl, ⟨_, _, _, _, b4, ⟨Nat.le_refl _, by omega, .inl ⟨h0, rfl, rfl, e⟩⟩, (fun h => by cases h), HW.out⟩, hbw, fun b hb => ?_⟩
    rcases List.mem_cons.1 hb with rfl | h
    · exact hz
    · cases h
  · refine ⟨w3.heap.size, [pb], rfl, ⟨_, _, _, _, b4, ⟨Nat.le_refl _, by omega, .inr ⟨pb, cs, rfl, rfl, p4, Rg.laid h0 (Nat.le_refl _) (by have := HC3.out; omega) HT3.out⟩⟩, (fun h => by have := List.mem_singleton.1 h; omega), HW.out⟩, hbw, fun b hb => ?_⟩
    rcases List.mem_cons.1 hb with rfl | h
    · exact hz
    · have := List.mem_singleton.1 h
      omega
theorem putS_no {s : Qs} {id x : Int} (h : putE s id ≠ 0) : putS s id x = s := by unfold putS; rw [if_neg h]
theorem putS_yes {s : Qs} {id x : Int} (h : putE s id = 0) : putS s id x = ⟨s.most, id, s.l ++ [(id, x)]⟩ := by unfold putS; rw [if_pos h]
theorem qu_same {v : Value} {g : Nat} {F : List Nat} {s : Qs} {w w' : World} (h : Qm w g F s) (hb : Below w.heap.size w w') : QuP v g F s w (.returned v) w' := ⟨rfl, F, h.below hb, Out.of_below hb, fun b hb => .inl hb⟩
set_option maxHeartbeats 2000000 in
theorem put_any {w : World} {g : Nat} {F : List Nat} {s : Qs} (h : Qm w g F s) (hf : s.l.length ≤ 8796093022207) {id x : Int} (hid : In id) (hx : In x) :
    Calls Try.prog 12 #[.pointer (some ⟨g, 0, none⟩), .int .i64 id, .int .i64 x] w (QuP (.int .i64 (putE s id)) g F (putS s id x) w) := by
  have HLA := Lib.hid (last_any h)
  have HRO := Lib.hid (room_any h)
  have HQ := Lib.hid h
  have hwf := h.wf
  by_cases h1 : id ≤ s.last
  · have HE := Lib.hid (show putE s id = 2 by unfold putE; rw [if_pos h1])
    have HS := Lib.hid (show putS s id x = s from putS_no (by rw [HE.out]; decide))
    rw [HE.out, HS.out]
    have t1 : decide (id ≤ s.last) = true := by simpa using h1
    clear h1 h hwf
    go_enter Try.func12, Try.ntmps12
    go_wp2_with (go_at_call 25; (with_reducible refine HLA.out.mono ?_); rintro e w' ⟨rfl, rfl⟩)
    go_ret
    exact qu_same HQ.out (Below.refl _ _)
  · have t1 : decide (id ≤ s.last) = false := by simpa using h1
    by_cases h2 : s.most ≤ s.l.length
    · have HE := Lib.hid (show putE s id = 120 by unfold putE; rw [if_neg h1, if_pos h2])
      have HS := Lib.hid (show putS s id x = s from putS_no (by rw [HE.out]; decide))
      rw [HE.out, HS.out]
      have t2 : (s.most - (s.l.length : Int) == 0) = true := by have := hwf.few; simp; omega
      clear h1 h2 h hwf
      go_enter Try.func12, Try.ntmps12
      go_wp2_with (first
        | (go_at_call 25; (with_reducible refine HLA.out.mono ?_); rintro e w' ⟨rfl, rfl⟩)
        | (go_at_call 24; (with_reducible refine HRO.out.mono ?_); rintro e w' ⟨rfl, q, rfl⟩))
      go_ret
      exact qu_same HQ.out (below_drewN (Below.refl _ _) q)
    · have HE := Lib.hid (show putE s id = 0 by unfold putE; rw [if_neg h1, if_neg h2])
      have HS := Lib.hid (show putS s id x = ⟨s.most, id, s.l ++ [(id, x)]⟩ from putS_yes HE.out)
      have HW := Lib.hid (wf_put hwf hid hx)
      rw [HE.out]
      have t2 : (s.most - (s.l.length : Int) == 0) = false := by have := hwf.few; simp; omega
      obtain ⟨a, n, cap, first, hb, hp, hg⟩ := h.ring
      have c3 := hb.c 3 rfl
      have HADD := Lib.hid (fun q => add_any (hb.drewN q) (hp.keep (w' := w.drewN q) (fun _ _ => rfl)) hg (id, x) s.most (by omega) hwf.most.2 hf)
      have HG := Lib.hid hg
      clear h1 h2 h hwf hb hp hg
      go_enter Try.func12, Try.ntmps12
      go_wp2_with (first
        | (go_at_call 25; (with_reducible refine HLA.out.mono ?_); rintro e w' ⟨rfl, rfl⟩)
        | (go_at_call 24; (with_reducible refine HRO.out.mono ?_); rintro e w' ⟨rfl, q, rfl⟩))
      go_region_with (go_at_call 27; refine (HADD.out (q + 1)).mono ?_; rintro e w3 ⟨rfl, a', n', cap', first', F', hb3, hp3, ho3, hf3⟩)
      have hgl := HQ.out.lt g (List.mem_cons_self ..)
      have hg' : g ∉ F' := fun e => by
        rcases hf3 g e with h | h
        · exact HG.out h
        · rw [show (w.drewN (q + 1)).heap.size = w.heap.size from rfl] at h; omega
      have HG' := Lib.hid hg'
      have HB3 := Lib.hid hb3
      have HP3 := Lib.hid hp3
      have HO3 : Hid (Out (g :: F) w w3) := Lib.hid (((Out.refl (g :: F) w).drewN (q + 1)).trans ho3)
      have HF3 : Hid (∀ b ∈ F', b ∈ F ∨ w.heap.size ≤ b) := Lib.hid hf3
      have c4 := hb3.c 4 rfl
      have f4 := hb3.fz 4
      have hab : IntKind.i64.wrap (id + 1) = abv id := rfl
      clear hb3 hp3 ho3 hf3 hg' c3
      go_wp2
      go_ret
      refine ⟨rfl, F', ?_, HO3.out.setCell (.inl (List.mem_cons_self ..)) _ _, HF3.out⟩
      have hw9 := HW.out
      rw [HS.out] at hw9 ⊢
      refine ⟨a', n', cap', first', HB3.out.set 4 _, HP3.out.keep (fun b hb => heap_setCell_other _ ⟨g, 4, none⟩ b _ (fun e => HG'.out ((show b = g from e) ▸ hb))), HG'.out, hw9⟩
theorem takeS_some {s : Qs} {id : Int} {k : Nat} (h : fnd id s.l = some k) : takeS s id = ⟨s.most, s.last, s.l.eraseIdx k⟩ := by unfold takeS; rw [h]
theorem takeS_none {s : Qs} {id : Int} (h : fnd id s.l = none) : takeS s id = s := by unfold takeS; rw [h]
set_option maxHeartbeats 2000000 in
theorem take_any {w : World} {g : Nat} {F : List Nat} {s : Qs} (h : Qm w g F s) (id : Int) :
    Calls Try.prog 14 #[.pointer (some ⟨g, 0, none⟩), .int .i64 id] w (QuP (.tuple #[.int .i64 (takeX s id), .int .i64 (takeE s id)]) g F (takeS s id) w) := by
  have HFI := Lib.hid (find_any h id)
  unfold FndP at HFI
  have HQ := Lib.hid h
  have HW := Lib.hid (wf_take h.wf id)
  cases hf : fnd id s.l with
  | none =>
    have HX := Lib.hid (show takeX s id = 0 by unfold takeX; rw [hf])
    have HE := Lib.hid (show takeE s id = 121 by unfold takeE; rw [hf])
    have HS := Lib.hid (takeS_none hf)
    rw [HX.out, HE.out, HS.out]
    rw [hf] at HFI
    clear hf h
    go_enter Try.func14, Try.ntmps14
    go_wp2_with (go_at_call 16; (refine HFI.out.mono ?_); rintro e w' ⟨rfl, hb⟩; have HB := Lib.hid hb; clear hb)
    go_ret2
    exact qu_same HQ.out HB.out
  | some k =>
    obtain ⟨x, hx, _⟩ := fnd_some hf
    have hk := get_lt hx
    have HX := Lib.hid (show takeX s id = x by unfold takeX; rw [hf]; simp [List.getD_eq_getElem?_getD, hx])
    have HE := Lib.hid (show takeE s id = 0 by unfold takeE; rw [hf])
    have HS := Lib.hid (takeS_some hf)
    rw [HX.out, HE.out]
    rw [hf] at HFI
    obtain ⟨a, n, cap, first, hb, hp, hg⟩ := h.ring
    have hlf := hp.few
    obtain ⟨pb, cs, rfl, rfl, hr⟩ := hp.ring hb (by omega)
    have hne : g ≠ pb := fun e => hg (by rw [e]; exact List.mem_singleton_self _)
    have HR := Lib.hid hr
    have HNE := Lib.hid hne
    have HKX := Lib.hid hx
    clear hf h hb hp hg hx hr hne
    go_enter Try.func14, Try.ntmps14
    go_upto_region 7 with (go_at_call 16; (refine HFI.out.mono ?_); rintro e w2 ⟨rfl, hb⟩; have HB := Lib.hid hb; clear hb)
    have hr2 := HR.out.below HB.out
    have HA := Lib.hid (hr2.at hk)
    have e1 := hr2.c1 HKX.out
    have HD := Lib.hid (fun q => drop_any (hr2.below (below_drewN (Below.refl _ w2) q)) HNE.out hk)
    clear hr2
    generalize slot n first k = S at HA e1
    go_wp2_with (first
      | (go_at_call 28; (with_reducible refine HA.out.mono ?_); rintro e w' ⟨rfl, q, rfl⟩)
      | (go_at_call 29; (with_reducible refine (HD.out _).mono ?_); rintro e w3 ⟨rfl, first', cs', hr3, ho3⟩; have HR3 := Lib.hid hr3; have HO3 := Lib.hid ho3; clear hr3 ho3))
    go_ret2
    refine ⟨rfl, [pb], ?_, ((Out.of_below HB.out).drewN q).trans (HO3.out), fun b hb => .inl hb⟩
    have hw9 := HW.out
    rw [HS.out] at hw9 ⊢
    refine ⟨_, _, _, first', HR3.out.box, ⟨HR3.out.cap, HR3.out.few, .inr ⟨pb, cs', rfl, rfl, HR3.out.pls, HR3.out.rg⟩⟩, (fun e => HNE.out (List.mem_singleton.1 e)), hw9⟩
end Go.Proofs.Ytpemdfdmnbhpjaa
