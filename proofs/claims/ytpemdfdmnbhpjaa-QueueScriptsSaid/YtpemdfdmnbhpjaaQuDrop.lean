/- Queue: an item taken out. -/
import Derived.Test.YtpemdfdmnbhpjaaQuAdd
set_option linter.all false
namespace Go.Proofs.Ytpemdfdmnbhpjaa
open Go.RowKit Go.Shelf
set_option maxRecDepth 100000
/-- shifted from the front: from j on -/
structure Fr (L : List It) (k j : Nat) (L' : List It) : Prop where
  len : L'.length = L.length
  lo : ∀ i, i < j → L'[i]? = L[i]?
  hi : ∀ i, j ≤ i → L'[i + 1]? = (L.eraseIdx k)[i]?
theorem Fr.start (L : List It) (k : Nat) : Fr L k k L := ⟨rfl, fun _ _ => rfl, fun i hi => by rw [List.getElem?_eraseIdx, if_neg (by omega)]⟩
theorem Fr.step {L L' : List It} {k j : Nat} (h : Fr L k (j + 1) L') (hj : j < k) (hk : k < L.length) {x : It} (hx : L'[j]? = some x) : Fr L k j (L'.set (j + 1) x) := by
  refine ⟨by simp [h.len], fun i hi => ?_, fun i hi => ?_⟩
  · rw [List.getElem?_set_ne (by omega)]
    exact h.lo i (by omega)
  · by_cases e : i = j
    · subst e
      rw [List.getElem?_set_self (by rw [h.len]; omega), List.getElem?_eraseIdx, if_pos hj, ← h.lo i (by omega), hx]
    · rw [List.getElem?_set_ne (by omega)]
      exact h.hi i (by omega)
theorem Fr.stop {L L' : List It} {k : Nat} (h : Fr L k 0 L') : L'.drop 1 = L.eraseIdx k := by
  refine List.ext_getElem? fun i => ?_
  rw [List.getElem?_drop, Nat.add_comm]
  exact h.hi i (Nat.zero_le _)
/-- shifted from behind -/
structure Bh (L : List It) (k j : Nat) (L' : List It) : Prop where
  len : L'.length = L.length
  lo : ∀ i, i < j → L'[i]? = (L.eraseIdx k)[i]?
  hi : ∀ i, j < i → L'[i]? = L[i]?
theorem Bh.start (L : List It) (k : Nat) : Bh L k k L := ⟨rfl, fun i hi => by rw [List.getElem?_eraseIdx, if_pos hi], fun _ _ => rfl⟩
theorem Bh.step {L L' : List It} {k j : Nat} (h : Bh L k j L') (hj : k ≤ j) (hl : j + 1 < L.length) {x : It} (hx : L'[j + 1]? = some x) : Bh L k (j + 1) (L'.set j x) := by
  refine ⟨by simp [h.len], fun i hi => ?_, fun i hi => ?_⟩
  · by_cases e : i = j
    · subst e
      rw [List.getElem?_set_self (by rw [h.len]; omega), List.getElem?_eraseIdx, if_neg (by omega), ← h.hi (i + 1) (by omega), hx]
    · rw [List.getElem?_set_ne (by omega)]
      exact h.lo i (by omega)
  · rw [List.getElem?_set_ne (by omega)]
    exact h.hi i (by omega)
theorem Bh.stop {L L' : List It} {k m : Nat} (h : Bh L k m L') (hm : L.length = m + 1) (hk : k < L.length) : L'.take m = L.eraseIdx k := by
  refine List.ext_getElem? fun i => ?_
  rcases Nat.lt_or_ge i m with hi | hi
  · rw [List.getElem?_take_of_lt hi]
    exact h.lo i hi
  · rw [List.getElem?_eq_none (by simp; omega), List.getElem?_eq_none (by rw [List.length_eraseIdx_of_lt hk]; omega)]
def DropP (g : Nat) (T : TypeId) (pb n cap : Nat) (L : List It) (rest : List Value) (w : World) (e : Ending) (w' : World) : Prop :=
  e = .returned (.tuple #[]) ∧ ∃ (first : Nat) (cs : List Value), Ring w' g T pb n cap first cs L rest ∧ Out [g, pb] w w'
/-- one slot written -/
theorem Ring.put {w : World} {g pb : Nat} {T : TypeId} {n cap first : Nat} {cs : List Value} {L : List It} {rest : List Value} (h : Ring w g T pb n cap first cs L rest) (hne : g ≠ pb) {k : Nat} (hk : k < L.length) (x : It) (q : Nat) :
    Ring (((w.drewN q).setCell ⟨pb, slot n first k * 2, none⟩ (.int .i64 x.1)).setCell ⟨pb, slot n first k * 2 + 1, none⟩ (.int .i64 x.2)) g T pb n cap first (put2 cs (slot n first k) (.int .i64 x.1) (.int .i64 x.2)) (L.set k x) rest := by
  refine ⟨?_, ((h.pls.drewN q).set _ _).set _ _, h.rg.set hk x, h.cap, h.few⟩
  rw [List.length_set]
  exact ((h.box.drewN q).other hne _ _).other hne _ _
theorem Out.put {F : List Nat} {w w1 : World} {pb s : Nat} (h : Out F w w1) (hp : pb ∈ F) (u v : Value) (q : Nat) : Out F w (((w1.drewN q).setCell ⟨pb, s * 2, none⟩ u).setCell ⟨pb, s * 2 + 1, none⟩ v) :=
  ((h.drewN q).setCell (.inl hp) _ _).setCell (.inl hp) _ _
set_option maxHeartbeats 4000000 in
theorem drop_any {w : World} {g pb : Nat} {T : TypeId} {n cap first : Nat} {cs : List Value} {L : List It} {rest : List Value} (h : Ring w g T pb n cap first cs L rest) (hne : g ≠ pb) {k : Nat} (hk : k < L.length) :
    Calls Try.prog 29 #[.pointer (some ⟨g, 0, none⟩), .int .i64 (k : Int)] w (DropP g T pb n cap (L.eraseIdx k) rest w) := by
  have c2 := h.box.c 2 rfl
  have hln := h.rg.few
  have hn := h.few
  have hn0 : 0 < n := by omega
  have HR := Lib.hid h
  have HNE := Lib.hid hne
  clear h hne
  go_enter Try.func29, Try.ntmps29
  by_cases hc : k < L.length / 2
  · have t : decide ((k : Int) < (L.length : Int) / 2) = true := by simp; omega
    clear hc
    go_wp2_with fail
    clear t c2
    go_loopw [1] (fun i wr => ∃ (j : Nat) (cs' : List Value) (L' : List It), i = .int .i64 j ∧ j ≤ k ∧ Hid (Fr L k j L') ∧ Hid (Ring wr g T pb n cap first cs' L' rest) ∧ Hid (Out [g, pb] w wr)) (fun i wr => (intOf i).toNat)
    case atStart => exact ⟨k, cs, L, rfl, Nat.le_refl _, Lib.hid (Fr.start L k), HR, Lib.hid (Out.refl _ _)⟩
    case round =>
      obtain ⟨j, cs', L', rfl, hj, HF, HR', HO⟩ := hrel
      have hlen := HF.out.len
      rcases Nat.eq_zero_or_pos j with rfl | hj0
      · have HA := Lib.hid (show Calls Try.prog 28 #[.pointer (some ⟨g, 0, none⟩), .int .i64 0] wr (AtP pb (slot n first 0) wr) from HR'.out.at (k := 0) (by omega))
        have hsl := slot_lt (first := first) (k := 0) hn0
        have hroom := HR'.out.rg.room
        obtain ⟨z0, e0⟩ : ∃ z, wr.cell? ⟨pb, slot n first 0 * 2, none⟩ = some z := ⟨_, HR'.out.pls.c _ (List.getElem?_eq_getElem (by omega))⟩
        obtain ⟨z1, e1⟩ : ∃ z, wr.cell? ⟨pb, slot n first 0 * 2 + 1, none⟩ = some z := ⟨_, HR'.out.pls.c _ (List.getElem?_eq_getElem (by omega))⟩
        have g0 := HR'.out.pls.fz (slot n first 0 * 2)
        have g1 := HR'.out.pls.fz (slot n first 0 * 2 + 1)
        have HRF := Lib.hid (HR'.out.rg.first (0, 0))
        have HSL := Lib.hid hsl
        clear hroom hsl
        generalize slot n first 0 = S0 at HA e0 e1 g0 g1 HRF HSL
        go_wp2_with (go_at_call 28; (with_reducible refine HA.out.mono ?_); rintro e w' ⟨rfl, q1, rfl⟩)
        obtain ⟨W3, hW3⟩ : ∃ W3, W3 = ((wr.drewN q1).setCell ⟨pb, S0 * 2, none⟩ (.int .i64 0)).setCell ⟨pb, S0 * 2 + 1, none⟩ (.int .i64 0) := ⟨_, rfl⟩
        have HB3 : Hid (Bk W3 g T (hd (some ⟨pb, 0, none⟩) n cap first L'.length rest)) := Lib.hid (by rw [hW3]; exact ((HR'.out.box.drewN q1).other HNE.out _ _).other HNE.out _ _)
        have HP3 : Hid (Bk W3 pb 64 (put2 cs' S0 (.int .i64 0) (.int .i64 0))) := Lib.hid (by rw [hW3]; exact ((HR'.out.pls.drewN q1).set _ _).set _ _)
        have HO3 : Hid (Out [g, pb] w W3) := Lib.hid (by rw [hW3]; exact HO.out.put (List.mem_cons_of_mem _ (List.mem_singleton_self _)) _ _ q1)
        rw [← hW3]
        clear hW3 e0 e1 g0 g1 HA
        have c0 := HB3.out.c 0 rfl
        have c1 := HB3.out.c 1 rfl
        have c2 := HB3.out.c 2 rfl
        have f1 := HB3.out.fz 1
        have f2 := HB3.out.fz 2
        have hpos := HR'.out.rg.pos
        have hw2 : IntKind.i64.wrap ((first : Int) + 1) = (first : Int) + 1 := by rw [IntKind.wrap_i64]; omega
        have hm : (((first : Int) + 1).tmod (n : Int)) = ((slot n first 1 : Nat) : Int) := by
          rw [Int.tmod_eq_emod_of_nonneg (by omega)]
          unfold slot
          rw [Int.natCast_emod, Int.natCast_add]
          rfl
        have t1 : ((n : Int) == 0) = false := by simp; omega
        have hsl := slot_lt (first := first) (k := 1) hn0
        obtain ⟨F1, hF1⟩ : ∃ F1, F1 = slot n first 1 := ⟨_, rfl⟩
        rw [← hF1] at hm hsl
        have HF1 := Lib.hid hF1
        have hw3 : IntKind.i64.wrap (F1 : Int) = (F1 : Int) := by rw [IntKind.wrap_i64]; omega
        have hw4 : IntKind.i64.wrap ((L.length : Int) - 1) = (L.length : Int) - 1 := by rw [IntKind.wrap_i64]; omega
        have hlenI : ((L'.length : Nat) : Int) = (L.length : Int) := by rw [hlen]
        rw [hlenI] at c2
        have HLEN := Lib.hid hlen
        clear hF1 hlenI hlen
        go_region
        go_wp2
        go_end0
        have hE := HF.out.stop
        have hel : (L.eraseIdx k).length = L.length - 1 := List.length_eraseIdx_of_lt hk
        have hrg := HRF.out
        rw [hE, ← HF1.out] at hrg
        refine ⟨rfl, F1, _, ⟨?_, ((HP3.out.other (Ne.symm HNE.out) _ _).other (Ne.symm HNE.out) _ _).below (drew_below _), hrg, HR'.out.cap, HR'.out.few⟩, ((HO3.out.setCell (.inl (List.mem_cons_self ..)) _ _).setCell (.inl (List.mem_cons_self ..)) _ _).drew⟩
        have hb := (((HB3.out.set 1 (.int .i64 F1)).set 2 (.int .i64 ((L.length : Int) - 1))).below (drew_below _))
        have e9 : (L.length : Int) - 1 = ((L.length - 1 : Nat) : Int) := by omega
        rw [e9] at hb ⊢
        rw [hel]
        exact hb
      · obtain ⟨j, rfl⟩ : ∃ i, j = i + 1 := ⟨j - 1, by omega⟩
        obtain ⟨x, hx⟩ : ∃ x, L'[j]? = some x := ⟨_, List.getElem?_eq_getElem (by omega)⟩
        have HA1 := Lib.hid (show Calls Try.prog 28 #[.pointer (some ⟨g, 0, none⟩), .int .i64 ((j : Int) + 1)] wr (AtP pb (slot n first (j + 1)) wr) from HR'.out.at (k := j + 1) (by omega))
        have HA0 := Lib.hid (fun q => (HR'.out.below (below_drewN (Below.refl _ wr) q)).at (k := j) (by omega))
        have h0 := HR'.out.c0 hx
        have h1 := HR'.out.c1 hx
        have hsl := slot_lt (first := first) (k := j + 1) hn0
        have hroom := HR'.out.rg.room
        have hw1 : IntKind.i64.wrap (j : Int) = (j : Int) := by rw [IntKind.wrap_i64]; omega
        obtain ⟨z0, e0⟩ : ∃ z, wr.cell? ⟨pb, slot n first (j + 1) * 2, none⟩ = some z := ⟨_, HR'.out.pls.c _ (List.getElem?_eq_getElem (by omega))⟩
        obtain ⟨z1, e1⟩ : ∃ z, wr.cell? ⟨pb, slot n first (j + 1) * 2 + 1, none⟩ = some z := ⟨_, HR'.out.pls.c _ (List.getElem?_eq_getElem (by omega))⟩
        have g0 := HR'.out.pls.fz (slot n first (j + 1) * 2)
        have g1 := HR'.out.pls.fz (slot n first (j + 1) * 2 + 1)
        have HFN := Lib.hid (HF.out.step (by omega) hk hx)
        have HRN := Lib.hid (fun q => HR'.out.put HNE.out (k := j + 1) (by omega) x q)
        have HON := Lib.hid (fun q => HO.out.put (s := slot n first (j + 1)) (pb := pb) (List.mem_cons_of_mem _ (List.mem_singleton_self _)) (.int .i64 x.1) (.int .i64 x.2) q)
        clear hx hroom hsl
        generalize slot n first (j + 1) = S1 at HA1 e0 e1 g0 g1 HRN HON
        generalize slot n first j = S0 at HA0 h0 h1
        go_wp2_with (first
          | (go_at_call 28; (with_reducible refine HA1.out.mono ?_); rintro e w' ⟨rfl, q1, rfl⟩)
          | (go_at_call 28; (with_reducible refine (HA0.out _).mono ?_); rintro e w' ⟨rfl, q0, rfl⟩))
        exact ⟨⟨j, _, _, rfl, by omega, HFN, Lib.hid (HRN.out _), Lib.hid (HON.out _)⟩, by simp [intOf]⟩
  · have t : decide ((k : Int) < (L.length : Int) / 2) = false := by simp; omega
    clear hc
    obtain ⟨m, hm⟩ : ∃ m, L.length = m + 1 := ⟨L.length - 1, by omega⟩
    have HM := Lib.hid hm
    have hkm : k ≤ m := by omega
    have hml : m + 1 ≤ 4611686018427387904 := by omega
    clear hm
    go_wp2_with fail
    clear t c2
    go_loopw [1] (fun i wr => ∃ (j : Nat) (cs' : List Value) (L' : List It), i = .int .i64 j ∧ j ≤ m ∧ k ≤ j ∧ Hid (Bh L k j L') ∧ Hid (Ring wr g T pb n cap first cs' L' rest) ∧ Hid (Out [g, pb] w wr)) (fun i wr => m - (intOf i).toNat)
    case atStart => exact ⟨k, cs, L, rfl, hkm, Nat.le_refl _, Lib.hid (Bh.start L k), HR, Lib.hid (Out.refl _ _)⟩
    case round =>
      obtain ⟨j, cs', L', rfl, hj, hkj, HF, HR', HO⟩ := hrel
      have hlen := HF.out.len
      have hLm := HM.out
      have hlen' : L'.length = m + 1 := by omega
      have c2 := HR'.out.box.c 2 rfl
      rw [hlen'] at c2
      have hln' : m + 1 ≤ n := by have := HR'.out.rg.few; omega
      rcases Nat.lt_or_ge j m with hjm | hjm
      · obtain ⟨x, hx⟩ : ∃ x, L'[j + 1]? = some x := ⟨_, List.getElem?_eq_getElem (by omega)⟩
        have HA1 := Lib.hid (HR'.out.at (k := j) (by omega))
        have HA0 := Lib.hid (fun q => (show Calls Try.prog 28 #[.pointer (some ⟨g, 0, none⟩), .int .i64 ((j : Int) + 1)] (wr.drewN q) (AtP pb (slot n first (j + 1)) (wr.drewN q)) from (HR'.out.below (below_drewN (Below.refl _ wr) q)).at (k := j + 1) (by omega)))
        have h0 := HR'.out.c0 hx
        have h1 := HR'.out.c1 hx
        have hsl := slot_lt (first := first) (k := j) hn0
        have hroom := HR'.out.rg.room
        have hw1 : IntKind.i64.wrap ((j : Int) + 1) = (j : Int) + 1 := by rw [IntKind.wrap_i64]; omega
        have hw2 : IntKind.i64.wrap (m : Int) = (m : Int) := by rw [IntKind.wrap_i64]; omega
        obtain ⟨z0, e0⟩ : ∃ z, wr.cell? ⟨pb, slot n first j * 2, none⟩ = some z := ⟨_, HR'.out.pls.c _ (List.getElem?_eq_getElem (by omega))⟩
        obtain ⟨z1, e1⟩ : ∃ z, wr.cell? ⟨pb, slot n first j * 2 + 1, none⟩ = some z := ⟨_, HR'.out.pls.c _ (List.getElem?_eq_getElem (by omega))⟩
        have g0 := HR'.out.pls.fz (slot n first j * 2)
        have g1 := HR'.out.pls.fz (slot n first j * 2 + 1)
        have HFN := Lib.hid (HF.out.step hkj (by omega) hx)
        have HRN := Lib.hid (fun q => HR'.out.put HNE.out (k := j) (by omega) x q)
        have HON := Lib.hid (fun q => HO.out.put (s := slot n first j) (pb := pb) (List.mem_cons_of_mem _ (List.mem_singleton_self _)) (.int .i64 x.1) (.int .i64 x.2) q)
        clear hx hroom hsl hLm hlen hlen'
        generalize slot n first j = S1 at HA1 e0 e1 g0 g1 HRN HON
        generalize slot n first (j + 1) = S0 at HA0 h0 h1
        go_wp2_with (first
          | (go_at_call 28; (with_reducible refine HA1.out.mono ?_); rintro e w' ⟨rfl, q1, rfl⟩)
          | (go_at_call 28; (with_reducible refine (HA0.out _).mono ?_); rintro e w' ⟨rfl, q0, rfl⟩))
        exact ⟨⟨j + 1, _, _, by go_num, by omega, by omega, HFN, Lib.hid (HRN.out _), Lib.hid (HON.out _)⟩, by simp [intOf]; omega⟩
      · obtain rfl : j = m := by omega
        have HA := Lib.hid (HR'.out.at (k := j) (by omega))
        have hsl := slot_lt (first := first) (k := j) hn0
        have hroom := HR'.out.rg.room
        have hw2 : IntKind.i64.wrap (j : Int) = (j : Int) := by rw [IntKind.wrap_i64]; omega
        obtain ⟨z0, e0⟩ : ∃ z, wr.cell? ⟨pb, slot n first j * 2, none⟩ = some z := ⟨_, HR'.out.pls.c _ (List.getElem?_eq_getElem (by omega))⟩
        obtain ⟨z1, e1⟩ : ∃ z, wr.cell? ⟨pb, slot n first j * 2 + 1, none⟩ = some z := ⟨_, HR'.out.pls.c _ (List.getElem?_eq_getElem (by omega))⟩
        have g0 := HR'.out.pls.fz (slot n first j * 2)
        have g1 := HR'.out.pls.fz (slot n first j * 2 + 1)
        have HRF := Lib.hid (HR'.out.rg.last hlen' (0, 0))
        have HLEN := Lib.hid hlen'
        clear hroom hsl hLm hlen hlen'
        generalize slot n first j = S0 at HA e0 e1 g0 g1 HRF
        go_wp2_with (go_at_call 28; (with_reducible refine HA.out.mono ?_); rintro e w' ⟨rfl, q1, rfl⟩; obtain ⟨W3, hW3⟩ : ∃ W3, W3 = ((wr.drewN q1).setCell ⟨pb, S0 * 2, none⟩ (.int .i64 0)).setCell ⟨pb, S0 * 2 + 1, none⟩ (.int .i64 0) := ⟨_, rfl⟩; have HB3 : Hid (Bk W3 g T (hd (some ⟨pb, 0, none⟩) n cap first L'.length rest)) := Lib.hid (by rw [hW3]; exact ((HR'.out.box.drewN q1).other HNE.out _ _).other HNE.out _ _); have HP3 : Hid (Bk W3 pb 64 (put2 cs' S0 (.int .i64 0) (.int .i64 0))) := Lib.hid (by rw [hW3]; exact ((HR'.out.pls.drewN q1).set _ _).set _ _); have HO3 : Hid (Out [g, pb] w W3) := Lib.hid (by rw [hW3]; exact HO.out.put (List.mem_cons_of_mem _ (List.mem_singleton_self _)) _ _ q1); have c9 := HB3.out.c 2 rfl; rw [HLEN.out] at c9; have f9 := HB3.out.fz 2; rw [hW3] at c9 f9)
        go_end0
        rw [← hW3]
        have hE := HF.out.stop HM.out hk
        have hel : (L.eraseIdx k).length = j := by rw [List.length_eraseIdx_of_lt hk, HM.out]; rfl
        have hrg := HRF.out
        rw [hE] at hrg
        refine ⟨rfl, first, _, ⟨?_, HP3.out.other (Ne.symm HNE.out) _ _, hrg, HR'.out.cap, HR'.out.few⟩, HO3.out.setCell (.inl (List.mem_cons_self ..)) _ _⟩
        rw [hel]
        exact HB3.out.set 2 (.int .i64 j)
end Go.Proofs.Ytpemdfdmnbhpjaa
