/- QueueOrder: the walk. -/
import Derived.Test.YtpemdfdmnbhpjaaQuSteps
set_option linter.all false
namespace Go.Proofs.Ytpemdfdmnbhpjaa
open Go.RowKit Go.Shelf
set_option maxRecDepth 100000
/-- a queue and two rows of ints, apart -/
structure Tw (w : World) (g : Nat) (s : Qs) (l1 l2 : List Int) (F G1 G2 : List Nat) (v1 v2 : Value) (W : World) : Prop where
  q : Own W w.heap.size g F s
  r1 : Ir W w.heap.size G1 v1 l1
  r2 : Ir W w.heap.size G2 v2 l2
  ap : ∀ b ∈ G1, b ∉ G2
  bel : Below w.heap.size w W
section
variable {w W W' : World} {g : Nat} {s s' : Qs} {l1 l2 l1' l2' : List Int} {F F' G1 G2 G1' G2' : List Nat} {v1 v2 v1' v2' : Value}
theorem Tw.below (h : Tw w g s l1 l2 F G1 G2 v1 v2 W) (hb : Below W.heap.size W W') : Tw w g s l1 l2 F G1 G2 v1 v2 W' :=
  ⟨h.q.below hb, h.r1.below hb, h.r2.below hb, h.ap, h.bel.trans (hb.mono h.bel.size)⟩
theorem Tw.turn (h : Tw w g s l1 l2 F G1 G2 v1 v2 W) (hq : Own W' w.heap.size g F' s') (ho : Out (g :: F) W W') : Tw w g s' l1 l2 F' G1 G2 v1 v2 W' :=
  ⟨hq, h.r1.keep (ho.same fun x hx => ⟨h.r1.lt x hx, fun e => h.q.q.ir h.r1 x e hx⟩), h.r2.keep (ho.same fun x hx => ⟨h.r2.lt x hx, fun e => h.q.q.ir h.r2 x e hx⟩), h.ap, h.bel.trans (ho.toBelow h.bel.size h.q.new)⟩
theorem Tw.own (h : Tw w g s l1 l2 F G1 G2 v1 v2 W) {G : List Nat} {v : Value} {l : List Int} (hr : Ir W w.heap.size G v l) (ho : Out G W W') : Own W' w.heap.size g F s :=
  ⟨h.q.q.keep (ho.same fun x hx => ⟨h.q.q.lt x hx, h.q.q.ir hr x hx⟩), h.q.new⟩
theorem Tw.first (h : Tw w g s l1 l2 F G1 G2 v1 v2 W) (hr : Ir W' w.heap.size G1' v1' l1') (ho : Out G1 W W') (hn : ∀ b ∈ G1', b ∈ G1 ∨ W.heap.size ≤ b) : Tw w g s l1' l2 F G1' G2 v1' v2 W' :=
  ⟨h.own h.r1 ho, hr, h.r2.keep (ho.same fun x hx => ⟨h.r2.lt x hx, fun e => h.ap x e hx⟩), fun b hb e => by
    rcases hn b hb with h1 | h1
    · exact h.ap b h1 e
    · have := h.r2.lt b e
      omega, h.bel.trans (ho.toBelow h.bel.size fun x hx => (h.r1.ty x hx).1)⟩
theorem Tw.second (h : Tw w g s l1 l2 F G1 G2 v1 v2 W) (hr : Ir W' w.heap.size G2' v2' l2') (ho : Out G2 W W') (hn : ∀ b ∈ G2', b ∈ G2 ∨ W.heap.size ≤ b) : Tw w g s l1 l2' F G1 G2' v1 v2' W' :=
  ⟨h.own h.r2 ho, h.r1.keep (ho.same fun x hx => ⟨h.r1.lt x hx, fun e => h.ap x hx e⟩), hr, fun b hb e => by
    rcases hn b e with h1 | h1
    · exact h.ap b hb h1
    · have := h.r1.lt b hb
      omega, h.bel.trans (ho.toBelow h.bel.size fun x hx => (h.r2.ty x hx).1)⟩
/-- two new rows in the place of these -/
theorem Tw.other (h : Tw w g s l1 l2 F G1 G2 v1 v2 W) (k : Tw w g s l1' l2' F G1' G2' v1' v2' W) : Tw w g s l1' l2' F G1' G2' v1' v2' W := k
end
/-- between two steps -/
structure OrI (w : World) (most : Int) (g : Nat) (k : Nat) (s : Qs) (F G1 G2 : List Nat) (v1 v2 : Value) (W : World) : Prop where
  tw : Tw w g s (s.l.map (·.1)) (s.l.map (·.2)) F G1 G2 v1 v2 W
  most : s.most = most
  few : s.l.length ≤ k
theorem OrI.below {w : World} {most : Int} {g k : Nat} {s : Qs} {F G1 G2 : List Nat} {v1 v2 : Value} {W W' : World} (h : OrI w most g k s F G1 G2 v1 v2 W) (hb : Below W.heap.size W W') : OrI w most g k s F G1 G2 v1 v2 W' :=
  ⟨h.tw.below hb, h.most, h.few⟩
theorem OrI.more {w : World} {most : Int} {g k j : Nat} {s : Qs} {F G1 G2 : List Nat} {v1 v2 : Value} {W : World} (h : OrI w most g k s F G1 G2 v1 v2 W) (hj : k ≤ j) : OrI w most g j s F G1 G2 v1 v2 W :=
  ⟨h.tw, h.most, Nat.le_trans h.few hj⟩
theorem OrI.slice1 {w : World} {most : Int} {g k : Nat} {s : Qs} {F G1 G2 : List Nat} {v1 v2 : Value} {W : World} (h : OrI w most g k s F G1 G2 v1 v2 W) : ∃ a c, v1 = .slice a s.l.length c := by
  have := h.tw.r1.slice
  rwa [List.length_map] at this
theorem OrI.slice2 {w : World} {most : Int} {g k : Nat} {s : Qs} {F G1 G2 : List Nat} {v1 v2 : Value} {W : World} (h : OrI w most g k s F G1 G2 v1 v2 W) : ∃ a c, v2 = .slice a s.l.length c := by
  have := h.tw.r2.slice
  rwa [List.length_map] at this
/-- what a step ends with: all that the law looks at -/
theorem or_looks {w : World} {most : Int} {g k : Nat} {s : Qs} {F G1 G2 : List Nat} {v1 v2 : Value} {W : World} (h : OrI w most g k s F G1 G2 v1 v2 W) :
    Calls Try.prog 23 #[.pointer (some ⟨g, 0, none⟩)] W (fun e w' => e = .returned (.int .i64 (s.l.length : Int)) ∧ W = w') ∧
    Calls Try.prog 24 #[.pointer (some ⟨g, 0, none⟩)] W (fun e w' => e = .returned (.int .i64 (s.most - s.l.length)) ∧ ∃ q, w' = W.drewN q) ∧
    (∀ q, Calls Try.prog 25 #[.pointer (some ⟨g, 0, none⟩)] (W.drewN q) (fun e w' => e = .returned (.int .i64 s.last) ∧ W.drewN q = w')) ∧
    IntKind.i64.wrap ((s.l.length : Int) + (s.most - (s.l.length : Int))) = s.most ∧ (s.most != most) = false ∧ (s.last != s.last) = false := by
  have hf := h.tw.q.q.wf.few
  have hm := h.tw.q.q.wf.most
  exact ⟨len_any h.tw.q.q, room_any h.tw.q.q, fun q => last_any (h.tw.q.q.below (below_drewN (Below.refl _ W) q)), by rw [IntKind.wrap_i64]; omega, by simp [h.most], by simp⟩
/-- the place that the law's own search has found -/
def atV (kk j : Nat) : Int := if kk < j then (kk : Int) else -1
theorem atV_hit (kk : Nat) : atV kk (kk + 1) = (kk : Int) := by unfold atV; rw [if_pos (by omega)]
theorem atV_on {kk j : Nat} (h : j ≠ kk) : atV kk (j + 1) = atV kk j := by unfold atV; split <;> split <;> first | rfl | omega
theorem atV_end {kk j : Nat} (h : kk < j) : atV kk j = (kk : Int) := by unfold atV; rw [if_pos h]
theorem map_erase (l : List It) (k : Nat) (f : It → Int) : (l.map f).take k ++ (l.map f).drop (k + 1) = (l.eraseIdx k).map f := by
  rw [List.eraseIdx_eq_take_drop_succ, List.map_append, List.map_take, List.map_drop]
/-- what is made behind a world, and written over, leaves it as it is -/
theorem Out.far {F : List Nat} {a b c : World} (h : Below a.heap.size a b) (k : Out F b c) (hF : ∀ x ∈ F, a.heap.size ≤ x) : Below a.heap.size a c := h.trans (k.toBelow h.size hF)
set_option maxHeartbeats 8000000 in
theorem queueorder_yes (most : Int) (a : Option Addr) (n cap : Nat) (L : List S3) (w : World) (hm : 1 ≤ most ∧ most ≤ 9223372036854775807) (hS : Stps w a n cap L) (hn : n ≤ 8796093022000) :
    Calls Try.prog 4 #[.int .i64 most, .slice a n cap] w fun e w' => e = .returned (.bool true) ∧ Below w.heap.size w w' := by
  have HA := Lib.hid (awake_any w)
  have HST := Lib.hid hS
  have hnc := hS.room
  have hcm := hS.top
  unfold maxLen at hcm
  clear hS
  go_enter Try.func4, Try.ntmps4
  go_upto_region 3 with (go_at_call 22; (with_reducible refine HA.out.mono ?_); rintro e w1 ⟨rfl, hb1⟩; have HB1 := Lib.hid hb1; clear hb1)
  have HN := Lib.hid (new_any most w1 hm)
  go_wp2_with (go_at_call 7; (with_reducible refine HN.out.mono ?_); rintro e w2 ⟨rfl, hq2, hb2⟩; have HB2 := Lib.hid hb2; have HO2 := Lib.hid (own_new hq2); clear hq2 hb2)
  have HI : Hid (OrI w most w1.heap.size 0 (newQ most) [] [] [] (.slice none 0 0) (.slice none 0 0) w2) := Lib.hid ⟨⟨⟨HO2.out.q, fun b hb => Nat.le_trans HB1.out.size (HO2.out.new b hb)⟩, Ir.nil _ _, Ir.nil _ _, (fun b hb => by cases hb), HB1.out.trans (HB2.out.mono HB1.out.size)⟩, rfl, Nat.le_refl _⟩
  generalize w1.heap.size = g at HI
  clear HO2 HB1 HB2 HN HA
  go_loopw [7, 8, 9, 10] (fun vi vt vl vk wr => ∃ (k : Nat) (s : Qs) (F G1 G2 : List Nat), vl = .int .i64 s.last ∧ vk = .int .i64 (k : Int) ∧ k ≤ n ∧ Hid (OrI w most g k s F G1 G2 vi vt wr)) (fun _ _ _ vk _ => n - (intOf vk).toNat)
  case atStart => exact ⟨0, newQ most, [], [], [], rfl, rfl, Nat.zero_le _, HI⟩
  case round =>
    obtain ⟨k, s, F, G1, G2, rfl, rfl, hk, HR⟩ := hrel
    clear HI
    obtain ⟨a1, c1, rfl⟩ := HR.out.slice1
    obtain ⟨a2, c2, rfl⟩ := HR.out.slice2
    obtain ⟨wo, rfl⟩ : ∃ wo : World, wo = wr := ⟨_, rfl⟩
    rcases Nat.lt_or_ge k n with hlt | hge
    · obtain ⟨st, hst⟩ : ∃ st, L[k]? = some st := ⟨_, List.getElem?_eq_getElem (by rw [HST.out.len]; exact hlt)⟩
      obtain ⟨i1, i2, i3⟩ := HST.out.ins st (List.mem_of_getElem? hst)
      have HI1 := Lib.hid i1
      have HI2 := Lib.hid i2
      have HI3 := Lib.hid i3
      obtain ⟨y, rfl, hyb, y0, y1, y2⟩ := (HST.out.below HR.out.tw.bel (Nat.le_refl _)).at0 k st hst
      clear i1 i2 i3 hst hyb
      obtain ⟨W1, hW1⟩ : ∃ W1, W1 = wo.alloc (.cells #[.int .i64 st.k, .int .i64 st.id, .int .i64 st.x] 34) := ⟨_, rfl⟩
      have hb1 : Below wo.heap.size wo W1 := by rw [hW1]; exact (Below.refl _ wo).alloc (Nat.le_refl _) _
      have HR1 := Lib.hid (HR.out.below hb1)
      have HS1 := Lib.hid (show Bk W1 wo.heap.size 34 [.int .i64 st.k, .int .i64 st.id, .int .i64 st.x] by rw [hW1]; exact Bk.new wo _ _)
      obtain ⟨sb, hsb⟩ : ∃ sb, sb = wo.heap.size := ⟨_, rfl⟩
      rw [← hsb] at HS1
      have HSB := Lib.hid hsb
      have HE1 := Lib.hid hW1.symm
      clear hW1 hb1 hsb
      go_upto_region 12 with (fail)
      rw [HE1.out, ← HSB.out]
      have s0 := HS1.out.c 0 rfl
      have s1 := HS1.out.c 1 rfl
      have s2 := HS1.out.c 2 rfl
      clear y0 y1 y2
      by_cases h0 : st.k = 0
      · have t0 : (st.k == 0) = true := by simpa using h0
        have t1 : (st.k == 1) = false := by simp; omega
        have HP := Lib.hid (put_any HR1.out.tw.q.q (by have := HR1.out.few; omega) HI2.out HI3.out)
        have hmo := HR1.out.most
        have HMO := Lib.hid hmo
        clear h0 hmo
        by_cases hpe : putE s st.id = 0
        · have HLE := Lib.hid (show decide (st.id ≤ s.last) = false by
            unfold putE at hpe
            split at hpe
            · simp at hpe
            · simpa using ‹¬ st.id ≤ s.last›)
          rw [putS_yes hpe, hpe] at HP
          clear hpe
          go_upto_region 14 with (go_at_call 12; refine HP.out.mono ?_; rintro e W2 hq; obtain ⟨rfl, F2, ho2, hb2, hx2, hn2⟩ := HR1.out.tw.q.step HR1.out.tw.bel.size hq; have HO2 := Lib.hid ho2; have HX2 := Lib.hid hx2; have HT2 := Lib.hid (HR1.out.tw.turn ho2 hx2); have s1' := (HS1.out.out hx2 (fun e => by have := HSB.out; have := HR.out.tw.q.q.lt sb e; omega)); have HS2 := Lib.hid s1'; clear hq ho2 hb2 hx2 hn2 s1')
          clear s0 s1 s2
          have s0 := HS2.out.c 0 rfl
          have s1 := HS2.out.c 1 rfl
          have s2 := HS2.out.c 2 rfl
          have hle := HLE.out
          have hcnt := HR1.out.few
          go_wp2_with (first
            | (at_builtin; refine wpList_ir1 (w0 := W2) rfl (.tmp 65) (.tmp 68) rfl HT2.out.r1 st.id rfl rfl rfl (by simp; omega) HT2.out.bel.size ?_; intro v3 G3 w3 hr3 ho3 hn3; have HT3 := Lib.hid (HT2.out.first hr3 ho3 hn3); have hs3 := HS2.out.out ho3 (fun e => by have h9 := HR.out.tw.r1.lt sb e; have := HSB.out; omega); have HS3 := Lib.hid hs3; have s0' := hs3.c 0 rfl; have s1' := hs3.c 1 rfl; have s2' := hs3.c 2 rfl; clear hr3 ho3 hn3 hs3 s0 s1 s2)
            | (at_builtin; refine wpList_ir1 (w0 := w3) rfl (.tmp 70) (.tmp 73) rfl HT3.out.r2 st.x rfl rfl rfl (by simp; omega) HT3.out.bel.size ?_; intro v4 G4 w4 hr4 ho4 hn4; have HT4 := Lib.hid (HT3.out.second hr4 ho4 hn4); have hs4 := HS3.out.out ho4 (fun e => by have h9 := HR.out.tw.r2.lt sb e; have := HSB.out; omega); have s0'' := hs4.c 0 rfl; have s1'' := hs4.c 1 rfl; have s2'' := hs4.c 2 rfl; clear hr4 ho4 hn4 hs4 s0' s1' s2'))
          have hor : OrI w most g (k + 1) ⟨s.most, st.id, s.l ++ [(st.id, st.x)]⟩ F2 G3 G4 v3 v4 w4 := ⟨by simpa using HT4.out, HMO.out, by simp; omega⟩
          obtain ⟨a3, c3, hv3⟩ := hor.slice1
          obtain ⟨a4, c4, hv4⟩ := hor.slice2
          subst hv3 hv4
          generalize hsn : (⟨s.most, st.id, s.l ++ [(st.id, st.x)]⟩ : Qs) = sn at hor
          have hsl : st.id = sn.last := by rw [← hsn]
          obtain ⟨hl, hro, hla, hw1, t2, t3⟩ := or_looks hor
          have HOR := Lib.hid hor
          have HL := Lib.hid hl
          have HRO := Lib.hid hro
          have HLA := Lib.hid hla
          have hk1 : IntKind.i64.wrap ((k : Int) + 1) = (k : Int) + 1 := by rw [IntKind.wrap_i64]; omega
          rw [hsl]
          clear hl hro hla hor hsn hsl s0'' s1'' s2'' hle hcnt HT4 HT3 HT2 HO2 HP HLE
          refine HL.out.mono ?_
          rintro e w' ⟨rfl, rfl⟩
          go_wp2_with (first
            | (go_at_call 23; (refine HL.out.mono ?_); rintro e w' ⟨rfl, rfl⟩)
            | (go_at_call 24; (refine HRO.out.mono ?_); rintro e w' ⟨rfl, q, rfl⟩)
            | (go_at_call 25; (refine (HLA.out _).mono ?_); rintro e w' ⟨rfl, rfl⟩))
          exact ⟨⟨k + 1, sn, F2, G3, G4, rfl, by go_num, by omega, Lib.hid (HOR.out.below (below_drewN (Below.refl _ w4) q))⟩, by simp [intOf]; omega⟩
        · rw [putS_no hpe] at HP
          have hpe2 : (putE s st.id == 0) = false := by simpa using hpe
          generalize putE s st.id = pe at HP hpe2
          clear hpe
          go_upto_region 19 with (go_at_call 12; refine HP.out.mono ?_; rintro e W2 hq; obtain ⟨rfl, F2, ho2, hb2, hx2, hn2⟩ := HR1.out.tw.q.step HR1.out.tw.bel.size hq; have HT2 := Lib.hid (HR1.out.tw.turn ho2 hx2); have HS2 := Lib.hid (HS1.out.out hx2 (fun e => by have := HSB.out; have := HR.out.tw.q.q.lt sb e; omega)); clear hq ho2 hb2 hx2 hn2)
          clear s0 s1 s2
          have s0 := HS2.out.c 0 rfl
          have hor : OrI w most g (k + 1) s F2 G1 G2 (.slice a1 s.l.length c1) (.slice a2 s.l.length c2) W2 := ⟨HT2.out, HMO.out, by have := HR1.out.few; omega⟩
          obtain ⟨hl, hro, hla, hw1, t2, t3⟩ := or_looks hor
          have HOR := Lib.hid hor
          have HL := Lib.hid hl
          have HRO := Lib.hid hro
          have HLA := Lib.hid hla
          have hk1 : IntKind.i64.wrap ((k : Int) + 1) = (k : Int) + 1 := by rw [IntKind.wrap_i64]; omega
          clear hl hro hla hor HP hpe2
          go_wp2_with (first
            | (go_at_call 23; (refine HL.out.mono ?_); rintro e w' ⟨rfl, rfl⟩)
            | (go_at_call 24; (refine HRO.out.mono ?_); rintro e w' ⟨rfl, q, rfl⟩)
            | (go_at_call 25; (refine (HLA.out _).mono ?_); rintro e w' ⟨rfl, rfl⟩))
          exact ⟨⟨k + 1, s, F2, G1, G2, rfl, by go_num, by omega, Lib.hid (HOR.out.below (below_drewN (Below.refl _ W2) q))⟩, by simp [intOf]; omega⟩
      · have t0 : (st.k == 0) = false := by simpa using h0
        by_cases h1 : st.k = 1
        · have t1 : (st.k == 1) = true := by simpa using h1
          have HT := Lib.hid (take_any HR1.out.tw.q.q st.id)
          have HMO := Lib.hid HR1.out.most
          have hrise := HR1.out.tw.q.q.wf.rise
          have HRI := Lib.hid hrise
          have HS0 := Lib.hid (show s.l.length ≤ k from HR1.out.few)
          have hslk : s.l.length ≤ 8796093022000 := by have := HR1.out.few; omega
          clear h0 h1 hrise
          cases hf : fnd st.id s.l with
          | none =>
            have e1 : takeX s st.id = 0 := by unfold takeX; rw [hf]
            have e2 : takeE s st.id = 121 := by unfold takeE; rw [hf]
            rw [e1, e2, takeS_none hf] at HT
            have HNO := Lib.hid (fnd_none hf)
            clear e1 e2 hf
            go_upto_region 21 with (go_at_call 14; refine HT.out.mono ?_; rintro e W2 hq; obtain ⟨rfl, F2, ho2, hb2, hx2, hn2⟩ := HR1.out.tw.q.step HR1.out.tw.bel.size hq; have HT2 := Lib.hid (HR1.out.tw.turn ho2 hx2); have HS2 := Lib.hid (HS1.out.out hx2 (fun e => by have := HSB.out; have := HR.out.tw.q.q.lt sb e; omega)); clear hq ho2 hb2 hx2 hn2)
            clear s0 s1 s2
            have s0 := HS2.out.c 0 rfl
            have s1 := HS2.out.c 1 rfl
            go_wp2_with fail
            go_loopw [14, 15] (fun va vj wr => ∃ (j q : Nat), va = .int .i64 (-1) ∧ vj = .int .i64 (j : Int) ∧ j ≤ s.l.length ∧ wr = W2.drewN q) (fun _ vj _ => s.l.length - (intOf vj).toNat)
            case atStart => exact ⟨0, 0, rfl, rfl, Nat.zero_le _, rfl⟩
            case round =>
              obtain ⟨j, q, rfl, rfl, hj, rfl⟩ := hrel
              rcases Nat.lt_or_ge j s.l.length with hjl | hjl
              · obtain ⟨it, hit⟩ : ∃ it, s.l[j]? = some it := ⟨_, List.getElem?_eq_getElem hjl⟩
                have hne : (it.1 == st.id) = false := by simpa using HNO.out j it hit
                obtain ⟨b, c, he, hcc, hcell⟩ := HT2.out.r1.cell (k := j) (x := it.1) (by rw [List.getElem?_map, hit]; rfl)
                rw [List.length_map] at he hcc
                cases he
                have hj1 : IntKind.i64.wrap ((j : Int) + 1) = (j : Int) + 1 := by rw [IntKind.wrap_i64]; omega
                clear hit
                go_wp2_with fail
                go_quiet (fail)
                go_wp2
                go_roundw
                case rel => exact ⟨j + 1, _, rfl, by go_num, by omega, rfl⟩
                case measure => simp [intOf]; omega
              · have hor : OrI w most g (k + 1) s F2 G1 G2 (.slice a1 s.l.length c1) (.slice a2 s.l.length c2) (W2.drewN q) := ⟨HT2.out.below (below_drewN (Below.refl _ W2) q), HMO.out, by have := HS0.out; omega⟩
                have s0d : (W2.drewN q).cell? ⟨sb, 0, none⟩ = some (.int .i64 st.k) := s0
                generalize W2.drewN q = Wd at hor s0d ⊢
                clear s0 s1
                obtain ⟨hl, hro, hla, hw1, t2, t3⟩ := or_looks hor
                have HOR := Lib.hid hor
                have HL := Lib.hid hl
                have HRO := Lib.hid hro
                have HLA := Lib.hid hla
                have hk1 : IntKind.i64.wrap ((k : Int) + 1) = (k : Int) + 1 := by rw [IntKind.wrap_i64]; omega
                clear hl hro hla hor
                go_wp2_with (first
                  | (go_at_call 23; (refine HL.out.mono ?_); rintro e w' ⟨rfl, rfl⟩)
                  | (go_at_call 24; (refine HRO.out.mono ?_); rintro e w' ⟨rfl, q3, rfl⟩)
                  | (go_at_call 25; (refine (HLA.out _).mono ?_); rintro e w' ⟨rfl, rfl⟩))
                exact ⟨⟨k + 1, s, F2, G1, G2, rfl, by go_num, by omega, Lib.hid (HOR.out.below (below_drewN (Below.refl _ Wd) q3))⟩, by simp [intOf]; omega⟩
          | some kk =>
            obtain ⟨xx, hxx, _⟩ := fnd_some hf
            have hkl := get_lt hxx
            have e1 : takeX s st.id = xx := by unfold takeX; rw [hf]; simp [List.getD_eq_getElem?_getD, hxx]
            have e2 : takeE s st.id = 0 := by unfold takeE; rw [hf]
            rw [e1, e2, takeS_some hf] at HT
            have HXX := Lib.hid hxx
            clear e1 e2 hf hxx
            go_upto_region 21 with (go_at_call 14; refine HT.out.mono ?_; rintro e W2 hq; obtain ⟨rfl, F2, ho2, hb2, hx2, hn2⟩ := HR1.out.tw.q.step HR1.out.tw.bel.size hq; have HT2 := Lib.hid (HR1.out.tw.turn ho2 hx2); have HS2 := Lib.hid (HS1.out.out hx2 (fun e => by have := HSB.out; have := HR.out.tw.q.q.lt sb e; omega)); clear hq ho2 hb2 hx2 hn2)
            clear s0 s1 s2
            have s0 := HS2.out.c 0 rfl
            have s1 := HS2.out.c 1 rfl
            obtain ⟨b1, c1', he1, hcc1, _⟩ := HT2.out.r1.cell (k := kk) (x := st.id) (by rw [List.getElem?_map, HXX.out]; rfl)
            obtain ⟨b2, c2', he2, hcc2, hx2⟩ := HT2.out.r2.cell (k := kk) (x := xx) (by rw [List.getElem?_map, HXX.out]; rfl)
            rw [List.length_map] at he1 hcc1 he2 hcc2
            cases he1
            cases he2
            go_wp2_with fail
            go_loopw [14, 15] (fun va vj wr => ∃ (j q : Nat), va = .int .i64 (atV kk j) ∧ vj = .int .i64 (j : Int) ∧ j ≤ s.l.length ∧ wr = W2.drewN q) (fun _ vj _ => s.l.length - (intOf vj).toNat)
            case atStart => exact ⟨0, 0, rfl, rfl, Nat.zero_le _, rfl⟩
            case round =>
              obtain ⟨j, q, rfl, rfl, hj, rfl⟩ := hrel
              rcases Nat.lt_or_ge j s.l.length with hjl | hjl
              · obtain ⟨it, hit⟩ : ∃ it, s.l[j]? = some it := ⟨_, List.getElem?_eq_getElem hjl⟩
                obtain ⟨b, c, he, _, hcell⟩ := HT2.out.r1.cell (k := j) (x := it.1) (by rw [List.getElem?_map, hit]; rfl)
                rw [List.length_map] at he
                cases he
                have hj1 : IntKind.i64.wrap ((j : Int) + 1) = (j : Int) + 1 := by rw [IntKind.wrap_i64]; omega
                by_cases hjk : j = kk
                · subst hjk
                  have hit2 := HXX.out
                  rw [hit] at hit2
                  cases hit2
                  have heq : (st.id == st.id) = true := by simp
                  clear hit
                  go_wp2_with fail
                  go_quiet (fail)
                  go_wp2
                  go_roundw
                  case rel => exact ⟨j + 1, _, by rw [atV_hit], by go_num, by omega, rfl⟩
                  case measure => simp [intOf]; omega
                · have heq : (it.1 == st.id) = false := by
                    have h9 := HXX.out
                    rcases Nat.lt_or_ge j kk with h8 | h8
                    · have := HRI.out j kk it (st.id, xx) h8 hit h9
                      simp; omega
                    · have := HRI.out kk j (st.id, xx) it (by omega) h9 hit
                      simp; omega
                  have HAV := Lib.hid (atV_on hjk)
                  clear hit hjk
                  go_wp2_with fail
                  go_quiet (fail)
                  go_wp2
                  go_roundw
                  case rel => exact ⟨j + 1, _, by rw [HAV.out], by go_num, by omega, rfl⟩
                  case measure => simp [intOf]; omega
              · rw [atV_end (show kk < j by omega)]
                have HT5 := Lib.hid (HT2.out.below (below_drewN (Below.refl _ W2) q))
                have s0d : (W2.drewN q).cell? ⟨sb, 0, none⟩ = some (.int .i64 st.k) := s0
                have hx2d : (W2.drewN q).cell? ⟨b2, kk, none⟩ = some (.int .i64 xx) := hx2
                have HS5 := Lib.hid (HS2.out.drewN q)
                generalize W2.drewN q = W5 at HT5 s0d hx2d HS5 ⊢
                have txx : (xx != xx) = false := by simp
                clear s0 s1 hx2
                have hkw : IntKind.i64.wrap ((kk : Int) + 1) = (kk : Int) + 1 := by rw [IntKind.wrap_i64]; omega
                have HL1 := Lib.hid (show ((s.l.map (·.1)).take kk).length = kk by simp; omega)
                have HL2 := Lib.hid (show ((s.l.map (·.2)).take kk).length = kk by simp; omega)
                have HD1 := Lib.hid (show ((s.l.map (·.1)).drop (kk + 1)).length = s.l.length - (kk + 1) by simp)
                have HD2 := Lib.hid (show ((s.l.map (·.2)).drop (kk + 1)).length = s.l.length - (kk + 1) by simp)
                have HV1 := Lib.hid (fun (W : World) (hW : Below W5.heap.size W5 W) => (show Ir W w.heap.size G1 (.slice (some ⟨b1, 0, none⟩) (s.l.map (·.1)).length c1) (s.l.map (·.1)) by rw [List.length_map]; exact (HT5.out.below hW).r1))
                have HV2 := Lib.hid (fun (W : World) (hW : Below W5.heap.size W5 W) => (show Ir W w.heap.size G2 (.slice (some ⟨b2, 0, none⟩) (s.l.map (·.2)).length c2) (s.l.map (·.2)) by rw [List.length_map]; exact (HT5.out.below hW).r2))
                have hlen1 : (s.l.map (·.1)).length = s.l.length := List.length_map _
                have hlen2 : (s.l.map (·.2)).length = s.l.length := List.length_map _
                have HLN1 := Lib.hid hlen1
                have HLN2 := Lib.hid hlen2
                clear hlen1 hlen2
                go_wp2_with (first
                  | (at_builtin; refine wpList_ir (w := W5) rfl (.tmp 118) (.tmp 121) rfl (Ir.nil W5 w.heap.size) rfl (some ⟨b1, 0, none⟩) kk c1 ((s.l.map (·.1)).take kk) HL1.out rfl (.inr ((HV1.out W5 (Below.refl _ _)).part kk)) (by rw [HL1.out]; show 0 + kk ≤ _; omega) HT5.out.bel.size ?_; intro v6 H6 w6 hr6 ho6 hn6; rw [List.nil_append] at hr6; have HR6 := Lib.hid hr6; have HB6 := Lib.hid ho6.toB; have HN6 : Hid (∀ b ∈ H6, W5.heap.size ≤ b) := Lib.hid (fun b hb => (hn6 b hb).elim (fun e => by cases e) id); clear hr6 ho6 hn6)
                  | (at_builtin; refine wpList_ir (w := w6) rfl (.tmp 123) (.tmp 127) rfl HR6.out rfl (if c1 = kk + 1 then some ⟨b1, 0, none⟩ else some ⟨b1, kk + 1, none⟩) (s.l.length - (kk + 1)) (c1 - (kk + 1)) ((s.l.map (·.1)).drop (kk + 1)) HD1.out rfl (.inr ((HV1.out w6 HB6.out).tail (kk + 1))) (by rw [HL1.out, HD1.out]; omega) (Nat.le_trans HT5.out.bel.size HB6.out.size) ?_; intro v7 H7 w7 hr7 ho7 hn7; rw [map_erase] at hr7; have HR7 := Lib.hid hr7; have HB7 := Lib.hid (ho7.far HB6.out HN6.out); have HN7 : Hid (∀ b ∈ H7, W5.heap.size ≤ b) := Lib.hid (fun b hb => (hn7 b hb).elim (HN6.out b) (fun e => Nat.le_trans HB6.out.size e)); clear hr7 ho7 hn7)
                  | (at_builtin; refine wpList_ir (w := w7) rfl (.tmp 129) (.tmp 132) rfl (Ir.nil w7 w.heap.size) rfl (some ⟨b2, 0, none⟩) kk c2 ((s.l.map (·.2)).take kk) HL2.out rfl (.inr ((HV2.out w7 HB7.out).part kk)) (by rw [HL2.out]; show 0 + kk ≤ _; omega) (Nat.le_trans HT5.out.bel.size HB7.out.size) ?_; intro v8 H8 w8 hr8 ho8 hn8; rw [List.nil_append] at hr8; have HR8 := Lib.hid hr8; have HB78 := Lib.hid ho8.toB; have HN8 : Hid (∀ b ∈ H8, w7.heap.size ≤ b) := Lib.hid (fun b hb => (hn8 b hb).elim (fun e => by cases e) id); have HB8 := Lib.hid (HB7.out.trans (HB78.out.mono HB7.out.size)); clear hr8 ho8 hn8)
                  | (at_builtin; refine wpList_ir (w := w8) rfl (.tmp 134) (.tmp 138) rfl HR8.out rfl (if c2 = kk + 1 then some ⟨b2, 0, none⟩ else some ⟨b2, kk + 1, none⟩) (s.l.length - (kk + 1)) (c2 - (kk + 1)) ((s.l.map (·.2)).drop (kk + 1)) HD2.out rfl (.inr ((HV2.out w8 HB8.out).tail (kk + 1))) (by rw [HL2.out, HD2.out]; omega) (Nat.le_trans HT5.out.bel.size HB8.out.size) ?_; intro v9 H9 w9 hr9 ho9 hn9; rw [map_erase] at hr9; have HR9 := Lib.hid hr9; have HB79 := Lib.hid (ho9.far HB78.out HN8.out); have HB9 := Lib.hid (HB7.out.trans (HB79.out.mono HB7.out.size)); have HN9 : Hid (∀ b ∈ H9, w7.heap.size ≤ b) := Lib.hid (fun b hb => (hn9 b hb).elim (HN8.out b) (fun e => Nat.le_trans HB78.out.size e)); clear hr9 ho9 hn9))
                all_goals
                  have hor : OrI w most g (k + 1) ⟨s.most, s.last, s.l.eraseIdx kk⟩ F2 H7 H9 v7 v9 w9 := ⟨⟨(HT5.out.below HB9.out).q, HR7.out.below HB79.out, HR9.out, (fun b hb e => by have h1 := HR7.out.lt b hb; have h2 := HN9.out b e; omega), HT5.out.bel.trans (HB9.out.mono HT5.out.bel.size)⟩, HMO.out, by have := HS0.out; have := List.length_eraseIdx_le s.l kk; show (s.l.eraseIdx kk).length ≤ k + 1; omega⟩
                  obtain ⟨a3, c3, hv3⟩ := hor.slice1
                  obtain ⟨a4, c4, hv4⟩ := hor.slice2
                  subst hv3 hv4
                  have hsl : s.last = (⟨s.most, s.last, s.l.eraseIdx kk⟩ : Qs).last := rfl
                  rw [hsl]
                  generalize (⟨s.most, s.last, s.l.eraseIdx kk⟩ : Qs) = sn at hor ⊢
                  obtain ⟨hl, hro, hla, hw1, t2, t3⟩ := or_looks hor
                  have HOR := Lib.hid hor
                  have HL := Lib.hid hl
                  have HRO := Lib.hid hro
                  have HLA := Lib.hid hla
                  have hk1 : IntKind.i64.wrap ((k : Int) + 1) = (k : Int) + 1 := by rw [IntKind.wrap_i64]; omega
                  clear hl hro hla hor s0d hx2d HR6 HR7 HR8 HR9 HT5
                  refine HL.out.mono ?_
                  rintro e w' ⟨rfl, rfl⟩
                  go_wp2_with (first
                    | (go_at_call 23; (refine HL.out.mono ?_); rintro e w' ⟨rfl, rfl⟩)
                    | (go_at_call 24; (refine HRO.out.mono ?_); rintro e w' ⟨rfl, q3, rfl⟩)
                    | (go_at_call 25; (refine (HLA.out _).mono ?_); rintro e w' ⟨rfl, rfl⟩))
                  exact ⟨⟨k + 1, sn, F2, H7, H9, rfl, by go_num, by omega, Lib.hid (HOR.out.below (below_drewN (Below.refl _ w9) q3))⟩, by simp [intOf]; omega⟩
        · have t1 : (st.k == 1) = false := by simpa using h1
          obtain ⟨hl, hro, hla, hw1, t2, t3⟩ := or_looks HR1.out
          have HL := Lib.hid hl
          have HRO := Lib.hid hro
          have HLA := Lib.hid hla
          clear hl hro hla
          have hk1 : IntKind.i64.wrap ((k : Int) + 1) = (k : Int) + 1 := by rw [IntKind.wrap_i64]; omega
          clear h0 h1
          go_wp2_with (first
            | (go_at_call 23; (refine HL.out.mono ?_); rintro e w' ⟨rfl, rfl⟩)
            | (go_at_call 24; (refine HRO.out.mono ?_); rintro e w' ⟨rfl, q, rfl⟩)
            | (go_at_call 25; (refine (HLA.out _).mono ?_); rintro e w' ⟨rfl, rfl⟩))
          exact ⟨⟨k + 1, s, F, G1, G2, rfl, by go_num, by omega, Lib.hid ((HR1.out.below (below_drewN (Below.refl _ W1) q)).more (by omega))⟩, by simp [intOf]; omega⟩
    · have hfew : s.l.length ≤ 9223372036854775807 := by have := HR.out.few; omega
      have tk1 : decide ((k : Int) < (n : Int)) = false := by simp; omega
      have tk2 : decide (k < n) = false := by simp; omega
      go_wp2_with fail
      clear tk1 tk2
      go_loopw [18] (fun vj wr => ∃ j : Nat, vj = .int .i64 (j : Int) ∧ j ≤ s.l.length ∧ Hid (OrI w most g k s F G1 G2 (.slice a1 s.l.length c1) (.slice a2 s.l.length c2) wr)) (fun vj _ => s.l.length - (intOf vj).toNat)
      case atStart => exact ⟨0, rfl, Nat.zero_le _, HR⟩
      case round =>
        obtain ⟨j, rfl, hj, HRj⟩ := hrel
        clear HR
        obtain ⟨wj, rfl⟩ : ∃ wj : World, wj = wr := ⟨_, rfl⟩
        rcases Nat.lt_or_ge j s.l.length with hjl | hjl
        · obtain ⟨it, hit⟩ : ∃ it, s.l[j]? = some it := ⟨_, List.getElem?_eq_getElem hjl⟩
          have HAT := Lib.hid (at_yes HRj.out.tw.q.q hit)
          have hf : fnd it.1 s.l = some j := fnd_at (x := it.2) hit (fun t y ht hy => by have := HRj.out.tw.q.q.wf.rise t j y it ht hy hit; omega)
          have hfi := fun q => find_any (HRj.out.tw.q.q.below (below_drewN (Below.refl _ wj) q)) it.1
          unfold FndP at hfi
          rw [hf] at hfi
          have HFI := Lib.hid hfi
          obtain ⟨b1, c1', he1, hcc1, y1⟩ := HRj.out.tw.r1.cell (k := j) (x := it.1) (by rw [List.getElem?_map, hit]; rfl)
          obtain ⟨b2, c2', he2, hcc2, y2⟩ := HRj.out.tw.r2.cell (k := j) (x := it.2) (by rw [List.getElem?_map, hit]; rfl)
          rw [List.length_map] at he1 hcc1 he2 hcc2
          cases he1
          cases he2
          have hj1 : IntKind.i64.wrap ((j : Int) + 1) = (j : Int) + 1 := by rw [IntKind.wrap_i64]; omega
          have t1 : (it.1 != it.1) = false := by simp
          have t2 : (it.2 != it.2) = false := by simp
          have t3 : ((j : Int) != (j : Int)) = false := by simp
          have HIT := Lib.hid hit
          clear hf hfi hit
          go_wp2_with (first
            | (go_at_call 18; (with_reducible refine HAT.out.mono ?_); rintro e w' ⟨rfl, q, rfl⟩)
            | (go_at_call 16; (with_reducible refine (HFI.out _).mono ?_); rintro e w6 ⟨rfl, hb6⟩; have hor6 := (HRj.out.below (below_drewN (Below.refl _ wj) q)).below hb6; have HOR6 := Lib.hid hor6; obtain ⟨b1', c1', he1', _, y1'⟩ := hor6.tw.r1.cell (k := j) (x := it.1) (by rw [List.getElem?_map, HIT.out]; rfl); obtain ⟨b2', c2', he2', _, y2'⟩ := hor6.tw.r2.cell (k := j) (x := it.2) (by rw [List.getElem?_map, HIT.out]; rfl); rw [List.length_map] at he1' he2'; cases he1'; cases he2'; clear hb6 hor6 y1 y2))
          exact ⟨⟨j + 1, by go_num, by omega, HOR6⟩, by simp [intOf]; omega⟩
        · go_wp2
          go_ret
          exact ⟨rfl, HRj.out.tw.bel⟩
end Go.Proofs.Ytpemdfdmnbhpjaa
