/- QueueTwo: the walk. -/
import Derived.Test.YtpemdfdmnbhpjaaQuSteps
set_option linter.all false
namespace Go.Proofs.Ytpemdfdmnbhpjaa
open Go.RowKit Go.Shelf
set_option maxRecDepth 100000
/-- a queue, another one, and two rows of ints, all apart -/
structure Tq (w : World) (g gc : Nat) (s sc : Qs) (l1 l2 : List Int) (F Fc G1 G2 : List Nat) (v1 v2 : Value) (W : World) : Prop where
  q : Own W w.heap.size g F s
  c : Own W w.heap.size gc Fc sc
  r1 : Ir W w.heap.size G1 v1 l1
  r2 : Ir W w.heap.size G2 v2 l2
  apq : ∀ b ∈ g :: F, b ∉ gc :: Fc
  ap : ∀ b ∈ G1, b ∉ G2
  bel : Below w.heap.size w W
section
variable {w W W' : World} {g gc : Nat} {s sc sc' : Qs} {l1 l2 l1' l2' : List Int} {F Fc Fc' G1 G2 G1' G2' : List Nat} {v1 v2 v1' v2' : Value}
theorem Tq.below (h : Tq w g gc s sc l1 l2 F Fc G1 G2 v1 v2 W) (hb : Below W.heap.size W W') : Tq w g gc s sc l1 l2 F Fc G1 G2 v1 v2 W' :=
  ⟨h.q.below hb, h.c.below hb, h.r1.below hb, h.r2.below hb, h.apq, h.ap, h.bel.trans (hb.mono h.bel.size)⟩
theorem Tq.turn (h : Tq w g gc s sc l1 l2 F Fc G1 G2 v1 v2 W) (hq : Own W' w.heap.size gc Fc' sc') (ho : Out (gc :: Fc) W W') (hn : ∀ b ∈ Fc', b ∈ Fc ∨ W.heap.size ≤ b) : Tq w g gc s sc' l1 l2 F Fc' G1 G2 v1 v2 W' :=
  ⟨⟨h.q.q.keep (ho.same fun x hx => ⟨h.q.q.lt x hx, h.apq x hx⟩), h.q.new⟩, hq, h.r1.keep (ho.same fun x hx => ⟨h.r1.lt x hx, fun e => h.c.q.ir h.r1 x e hx⟩), h.r2.keep (ho.same fun x hx => ⟨h.r2.lt x hx, fun e => h.c.q.ir h.r2 x e hx⟩), fun b hb e => by
    rcases List.mem_cons.1 e with rfl | e
    · exact h.apq _ hb (List.mem_cons_self ..)
    · rcases hn b e with h1 | h1
      · exact h.apq _ hb (List.mem_cons_of_mem _ h1)
      · have := h.q.q.lt b hb
        omega, h.ap, h.bel.trans (ho.toBelow h.bel.size h.c.new)⟩
theorem Tq.first (h : Tq w g gc s sc l1 l2 F Fc G1 G2 v1 v2 W) (hr : Ir W' w.heap.size G1' v1' l1') (ho : Out G1 W W') (hn : ∀ b ∈ G1', b ∈ G1 ∨ W.heap.size ≤ b) : Tq w g gc s sc l1' l2 F Fc G1' G2 v1' v2 W' :=
  ⟨⟨h.q.q.keep (ho.same fun x hx => ⟨h.q.q.lt x hx, h.q.q.ir h.r1 x hx⟩), h.q.new⟩, ⟨h.c.q.keep (ho.same fun x hx => ⟨h.c.q.lt x hx, h.c.q.ir h.r1 x hx⟩), h.c.new⟩, hr, h.r2.keep (ho.same fun x hx => ⟨h.r2.lt x hx, fun e => h.ap x e hx⟩), h.apq, fun b hb e => by
    rcases hn b hb with h1 | h1
    · exact h.ap b h1 e
    · have := h.r2.lt b e
      omega, h.bel.trans (ho.toBelow h.bel.size fun x hx => (h.r1.ty x hx).1)⟩
theorem Tq.second (h : Tq w g gc s sc l1 l2 F Fc G1 G2 v1 v2 W) (hr : Ir W' w.heap.size G2' v2' l2') (ho : Out G2 W W') (hn : ∀ b ∈ G2', b ∈ G2 ∨ W.heap.size ≤ b) : Tq w g gc s sc l1 l2' F Fc G1 G2' v1 v2' W' :=
  ⟨⟨h.q.q.keep (ho.same fun x hx => ⟨h.q.q.lt x hx, h.q.q.ir h.r2 x hx⟩), h.q.new⟩, ⟨h.c.q.keep (ho.same fun x hx => ⟨h.c.q.lt x hx, h.c.q.ir h.r2 x hx⟩), h.c.new⟩, h.r1.keep (ho.same fun x hx => ⟨h.r1.lt x hx, fun e => h.ap x hx e⟩), hr, h.apq, fun b hb e => by
    rcases hn b e with h1 | h1
    · exact h.ap b hb h1
    · have := h.r1.lt b hb
      omega, h.bel.trans (ho.toBelow h.bel.size fun x hx => (h.r2.ty x hx).1)⟩
end
theorem Stps.get {w : World} {a : Option Addr} {n cap : Nat} {L : List S3} (h : Stps w a n cap L) {i : Nat} {s : S3} (hi : L[i]? = some s) : ∃ x : Addr, a = some x ∧ ∀ W, Below w.heap.size w W → W.cell? (x.add (i * 3)) = some (.int .i64 s.k) ∧ W.cell? ⟨(x.add (i * 3)).block, (x.add (i * 3)).off + 1, none⟩ = some (.int .i64 s.id) ∧ W.cell? ⟨(x.add (i * 3)).block, (x.add (i * 3)).off + 2, none⟩ = some (.int .i64 s.x) := by
  obtain ⟨x, rfl, hx, c0, c1, c2⟩ := h.at0 i s hi
  exact ⟨x, rfl, fun W hb => ⟨(hb.cell hx).trans c0, (hb.cell (p := ⟨(x.add (i * 3)).block, (x.add (i * 3)).off + 1, none⟩) hx).trans c1, (hb.cell (p := ⟨(x.add (i * 3)).block, (x.add (i * 3)).off + 2, none⟩) hx).trans c2⟩⟩
theorem putS_len (s : Qs) (id x : Int) : (putS s id x).l.length ≤ s.l.length + 1 := by
  unfold putS
  split
  · simp
  · omega
theorem takeS_len (s : Qs) (id : Int) : (takeS s id).l.length ≤ s.l.length := by
  unfold takeS
  split
  · exact Nat.le_refl _
  · exact List.length_eraseIdx_le _ _
set_option maxHeartbeats 8000000 in
theorem queuetwo_yes (most : Int) (a1 a2 : Option Addr) (n1 cap1 n2 cap2 : Nat) (L1 L2 : List S3) (w : World) (hm : 1 ≤ most ∧ most ≤ 9223372036854775807) (hS1 : Stps w a1 n1 cap1 L1) (hS2 : Stps w a2 n2 cap2 L2) (hn1 : n1 ≤ 1048576) (hn2 : n2 ≤ 1048576) :
    Calls Try.prog 6 #[.int .i64 most, .slice a1 n1 cap1, .slice a2 n2 cap2] w fun e w' => e = .returned (.bool true) ∧ Below w.heap.size w w' := by
  have HA := Lib.hid (awake_any w)
  have HS1 := Lib.hid hS1
  have HS2 := Lib.hid hS2
  have hnc1 := hS1.room
  have hcm1 := hS1.top
  have hnc2 := hS2.room
  have hcm2 := hS2.top
  unfold maxLen at hcm1 hcm2
  clear hS1 hS2
  go_enter Try.func6, Try.ntmps6
  go_upto_region 3 with (go_at_call 22; (with_reducible refine HA.out.mono ?_); rintro e w1 ⟨rfl, hb1⟩; have HB1 := Lib.hid hb1; clear hb1)
  have HN := Lib.hid (new_any most w1 hm)
  go_wp2_with (go_at_call 7; (with_reducible refine HN.out.mono ?_); rintro e w2 ⟨rfl, hq2, hb2⟩; have HB2 := Lib.hid hb2; have HO2 := Lib.hid (own_new hq2); clear hq2 hb2)
  have HI : Hid (Own w2 w.heap.size w1.heap.size [] (newQ most) ∧ Below w.heap.size w w2) := Lib.hid ⟨⟨HO2.out.q, fun b hb => Nat.le_trans HB1.out.size (HO2.out.new b hb)⟩, HB1.out.trans (HB2.out.mono HB1.out.size)⟩
  generalize w1.heap.size = g at HI
  clear HO2 HB1 HB2 HN HA
  go_loopw [9] (fun vk wr => ∃ (k : Nat) (s : Qs) (F : List Nat), vk = .int .i64 (k : Int) ∧ k ≤ n1 ∧ s.l.length ≤ k ∧ Hid (Own wr w.heap.size g F s ∧ Below w.heap.size w wr)) (fun vk _ => n1 - (intOf vk).toNat)
  case atStart => exact ⟨0, newQ most, [], rfl, Nat.zero_le _, Nat.le_refl _, HI⟩
  case round =>
    obtain ⟨k, s, F, rfl, hk, hsk, HR⟩ := hrel
    clear HI
    obtain ⟨wo, rfl⟩ : ∃ wo : World, wo = wr := ⟨_, rfl⟩
    have hk1 : IntKind.i64.wrap ((k : Int) + 1) = (k : Int) + 1 := by rw [IntKind.wrap_i64]; omega
    rcases Nat.lt_or_ge k n1 with hlt | hge
    · obtain ⟨st, hst⟩ : ∃ st, L1[k]? = some st := ⟨_, List.getElem?_eq_getElem (by rw [HS1.out.len]; exact hlt)⟩
      obtain ⟨i1, i2, i3⟩ := HS1.out.ins st (List.mem_of_getElem? hst)
      have HI2 := Lib.hid i2
      have HI3 := Lib.hid i3
      obtain ⟨y, rfl, hy⟩ := HS1.out.get hst
      have HY := Lib.hid hy
      obtain ⟨y0, y1, y2⟩ := hy wo HR.out.2
      clear i1 i2 i3 hst hy
      by_cases h0 : st.k = 0
      · have t0 : (st.k == 0) = true := by simpa using h0
        have HP := Lib.hid (put_any (HR.out.1.below (drew_below wo)).q (by omega) HI2.out HI3.out)
        clear h0
        go_wp2_with fail
        go_region_held3 (fun W => W.cell? ⟨(y.add (k * 3)).block, (y.add (k * 3)).off + 1, none⟩ = some (.int .i64 st.id) ∧ W.cell? ⟨(y.add (k * 3)).block, (y.add (k * 3)).off + 2, none⟩ = some (.int .i64 st.x))
          (first | (refine ⟨?_, ?_⟩ <;> assumption) | go_keep)
          (first | (go_at_call 12; refine HP.out.mono ?_; rintro e W2 hq; obtain ⟨rfl, F2, ho2, hb2, hx2, hn2⟩ := (HR.out.1.below (drew_below wo)).step (show w.heap.size ≤ wo.drew.heap.size from HR.out.2.size) hq; have HO2 := Lib.hid ho2; have HB2 := Lib.hid (HR.out.2.drew.trans hb2); obtain ⟨y0', y1', y2'⟩ := HY.out W2 HB2.out; clear hq ho2 hb2 hx2 hn2))
        rename_i hHeld
        clear hHeld y0 y1 y2 y0' y1' y2'
        go_wp2
        go_roundw
        case rel => exact ⟨k + 1, putS s st.id st.x, F2, by go_num, by omega, by have := putS_len s st.id st.x; omega, Lib.hid ⟨HO2.out, HB2.out⟩⟩
        case measure => simp [intOf]; omega
      · have t0 : (st.k == 0) = false := by simpa using h0
        clear h0
        go_wp2
        go_roundw
        case rel => exact ⟨k + 1, s, F, by go_num, by omega, by omega, HR⟩
        case measure => simp [intOf]; omega
    · have tk1 : decide ((k : Int) < (n1 : Int)) = false := by simp; omega
      have tk2 : decide (k < n1) = false := by simp; omega
      have HC := Lib.hid (copy_any HR.out.1.q (by omega))
      go_wp2_with (go_at_call 10; refine HC.out.mono ?_; rintro e w3 ⟨gc, Fc, rfl, hqc, hbc, hnc⟩; have HT : Hid (Tq w g gc s s [] [] F Fc [] [] (.slice none 0 0) (.slice none 0 0) w3) := Lib.hid ⟨HR.out.1.below hbc, ⟨hqc, fun b hb => Nat.le_trans HR.out.2.size (hnc b hb)⟩, Ir.nil _ _, Ir.nil _ _, (fun b hb e => by have h1 := HR.out.1.q.lt b hb; have h2 := hnc b e; omega), (fun b hb => by cases hb), HR.out.2.trans (hbc.mono HR.out.2.size)⟩; clear hqc hbc hnc)
      clear tk1 tk2 hk1
      go_loopw [11, 12, 13] (fun v1 v2 vj wr => ∃ (j : Nat) (G1 G2 : List Nat), vj = .int .i64 (j : Int) ∧ j ≤ s.l.length ∧ Hid (Tq w g gc s s ((s.l.take j).map (·.1)) ((s.l.take j).map (·.2)) F Fc G1 G2 v1 v2 wr)) (fun _ _ vj _ => s.l.length - (intOf vj).toNat)
      case atStart => exact ⟨0, [], [], rfl, Nat.zero_le _, HT⟩
      case round =>
        obtain ⟨j, G1, G2, rfl, hj, HTj⟩ := hrel
        clear HT
        obtain ⟨wj, rfl⟩ : ∃ wj : World, wj = wr := ⟨_, rfl⟩
        have HL := Lib.hid (len_any HTj.out.q.q)
        have hj1 : IntKind.i64.wrap ((j : Int) + 1) = (j : Int) + 1 := by rw [IntKind.wrap_i64]; omega
        rcases Nat.lt_or_ge j s.l.length with hjl | hjl
        · obtain ⟨it, hit⟩ : ∃ it, s.l[j]? = some it := ⟨_, List.getElem?_eq_getElem hjl⟩
          have HAT := Lib.hid (at_yes HTj.out.q.q hit)
          have HTS := Lib.hid (show s.l.take (j + 1) = s.l.take j ++ [it] by obtain ⟨h1, rfl⟩ := List.getElem?_eq_some_iff.1 hit; exact (List.take_append_getElem h1).symm)
          have hjs : j ≤ 1048576 := by omega
          clear hit
          go_wp2_with (first
            | (go_at_call 23; (refine HL.out.mono ?_); rintro e w' ⟨rfl, rfl⟩)
            | (go_at_call 18; (with_reducible refine HAT.out.mono ?_); rintro e w' ⟨rfl, q, rfl⟩; have hd := HTj.out.below (below_drewN (Below.refl _ wj) q); generalize wj.drewN q = wd at hd ⊢; have HD := Lib.hid hd; clear hd)
            | (at_builtin; refine wpList_ir1 (w0 := wd) rfl (.tmp 75) (.tmp 77) rfl HD.out.r1 it.1 rfl rfl rfl (by simp; omega) HD.out.bel.size ?_; intro v3 G3 w3 hr3 ho3 hn3; have HT3 := Lib.hid (HD.out.first hr3 ho3 hn3); clear hr3 ho3 hn3)
            | (at_builtin; refine wpList_ir1 (w0 := w3) rfl (.tmp 79) (.tmp 81) rfl HT3.out.r2 it.2 rfl rfl rfl (by simp; omega) HT3.out.bel.size ?_; intro v4 G4 w4 hr4 ho4 hn4; have HT4 := Lib.hid (HT3.out.second hr4 ho4 hn4); clear hr4 ho4 hn4))
          exact ⟨⟨j + 1, G3, G4, by go_num, by omega, Lib.hid (by rw [HTS.out, List.map_append, List.map_append]; exact HT4.out)⟩, by simp [intOf]; omega⟩
        · have htk : s.l.take j = s.l := List.take_of_length_le hjl
          have ht := HTj.out
          rw [htk] at ht
          obtain ⟨b1, d1, hv1⟩ := ht.r1.slice
          obtain ⟨b2, d2, hv2⟩ := ht.r2.slice
          rw [List.length_map] at hv1 hv2
          subst hv1 hv2
          have HTa := Lib.hid ht
          have tj1 : decide ((j : Int) < (s.l.length : Int)) = false := by simp; omega
          have tj2 : decide (j < s.l.length) = false := by simp; omega
          clear ht htk hj1
          go_wp2_with (go_at_call 23; (refine HL.out.mono ?_); rintro e w' ⟨rfl, rfl⟩)
          clear tj1 tj2
          go_loopw [17] (fun vk wr => ∃ (k2 : Nat) (sc : Qs) (Fc2 : List Nat), vk = .int .i64 (k2 : Int) ∧ k2 ≤ n2 ∧ sc.l.length ≤ s.l.length + k2 ∧ Hid (Tq w g gc s sc (s.l.map (·.1)) (s.l.map (·.2)) F Fc2 G1 G2 (.slice b1 s.l.length d1) (.slice b2 s.l.length d2) wr)) (fun vk _ => n2 - (intOf vk).toNat)
          case atStart => exact ⟨0, s, Fc, rfl, Nat.zero_le _, Nat.le_refl _, HTa⟩
          case round =>
            obtain ⟨k2, sc, Fc2, rfl, hk2, hsc, HTk⟩ := hrel
            clear HTa HTj HL
            obtain ⟨wk, rfl⟩ : ∃ wk : World, wk = wr := ⟨_, rfl⟩
            have hk21 : IntKind.i64.wrap ((k2 : Int) + 1) = (k2 : Int) + 1 := by rw [IntKind.wrap_i64]; omega
            rcases Nat.lt_or_ge k2 n2 with hlt2 | hge2
            · obtain ⟨st, hst⟩ : ∃ st, L2[k2]? = some st := ⟨_, List.getElem?_eq_getElem (by rw [HS2.out.len]; exact hlt2)⟩
              obtain ⟨i1, i2, i3⟩ := HS2.out.ins st (List.mem_of_getElem? hst)
              have HI2 := Lib.hid i2
              have HI3 := Lib.hid i3
              obtain ⟨y, rfl, hy⟩ := HS2.out.get hst
              have HY := Lib.hid hy
              obtain ⟨y0, y1, y2⟩ := hy wk HTk.out.bel
              clear i1 i2 i3 hst hy
              by_cases h0 : st.k = 0
              · have t0 : (st.k == 0) = true := by simpa using h0
                have t1 : (st.k == 1) = false := by simp; omega
                have HP := Lib.hid (put_any (HTk.out.c.below (drew_below wk)).q (by omega) HI2.out HI3.out)
                clear h0
                go_wp2_with fail
                go_region_held3 (fun W => W.cell? ⟨(y.add (k2 * 3)).block, (y.add (k2 * 3)).off + 1, none⟩ = some (.int .i64 st.id) ∧ W.cell? ⟨(y.add (k2 * 3)).block, (y.add (k2 * 3)).off + 2, none⟩ = some (.int .i64 st.x))
                  (first | (refine ⟨?_, ?_⟩ <;> assumption) | go_keep)
                  (first | (go_at_call 12; refine HP.out.mono ?_; rintro e W2 hq; obtain ⟨rfl, F2, ho2, hb2, hx2, hn2⟩ := (HTk.out.c.below (drew_below wk)).step (show w.heap.size ≤ wk.drew.heap.size from HTk.out.bel.size) hq; have ht2 := (HTk.out.below (drew_below wk)).turn ho2 hx2 hn2; have HT2 := Lib.hid ht2; obtain ⟨y0', y1', y2'⟩ := HY.out W2 ht2.bel; clear hq ho2 hb2 hx2 hn2 ht2))
                rename_i hHeld
                clear hHeld y0 y1 y2
                go_wp2
                go_roundw
                case rel => exact ⟨k2 + 1, putS sc st.id st.x, F2, by go_num, by omega, by have := putS_len sc st.id st.x; omega, HT2⟩
                case measure => simp [intOf]; omega
              · have t0 : (st.k == 0) = false := by simpa using h0
                by_cases h1 : st.k = 1
                · have t1 : (st.k == 1) = true := by simpa using h1
                  have HP := Lib.hid (take_any HTk.out.c.q st.id)
                  clear h0 h1
                  go_wp2_with (go_at_call 14; refine HP.out.mono ?_; rintro e W2 hq; obtain ⟨rfl, F2, ho2, hb2, hx2, hn2⟩ := HTk.out.c.step HTk.out.bel.size hq; have HT2 := Lib.hid (HTk.out.turn ho2 hx2 hn2); clear hq ho2 hb2 hx2 hn2)
                  go_roundw
                  case rel => exact ⟨k2 + 1, takeS sc st.id, F2, by go_num, by omega, by have := takeS_len sc st.id; omega, HT2⟩
                  case measure => simp [intOf]; omega
                · have t1 : (st.k == 1) = false := by simpa using h1
                  clear h0 h1
                  go_wp2
                  go_roundw
                  case rel => exact ⟨k2 + 1, sc, Fc2, by go_num, by omega, by omega, HTk⟩
                  case measure => simp [intOf]; omega
            · have tk1 : decide ((k2 : Int) < (n2 : Int)) = false := by simp; omega
              have tk2 : decide (k2 < n2) = false := by simp; omega
              have HL := Lib.hid (len_any HTk.out.q.q)
              have t9 : ((s.l.length : Int) != (s.l.length : Int)) = false := by simp
              clear hk21
              go_wp2_with (go_at_call 23; (refine HL.out.mono ?_); rintro e w' ⟨rfl, rfl⟩)
              clear tk1 tk2
              go_loopw [18] (fun vj wr => ∃ j2 : Nat, vj = .int .i64 (j2 : Int) ∧ j2 ≤ s.l.length ∧ ∃ q, wr = wk.drewN q) (fun vj _ => s.l.length - (intOf vj).toNat)
              case atStart => exact ⟨0, rfl, Nat.zero_le _, 0, rfl⟩
              case round =>
                obtain ⟨j2, rfl, hj2, q, rfl⟩ := hrel
                clear HL
                rcases Nat.lt_or_ge j2 s.l.length with hjl2 | hjl2
                · obtain ⟨it, hit⟩ : ∃ it, s.l[j2]? = some it := ⟨_, List.getElem?_eq_getElem hjl2⟩
                  have htd := HTk.out.below (below_drewN (Below.refl _ wk) q)
                  have HAT := Lib.hid (at_yes htd.q.q hit)
                  obtain ⟨e1, f1, he1, hcc1, y1⟩ := HTk.out.r1.cell (k := j2) (x := it.1) (by rw [List.getElem?_map, hit]; rfl)
                  obtain ⟨e2, f2, he2, hcc2, y2⟩ := HTk.out.r2.cell (k := j2) (x := it.2) (by rw [List.getElem?_map, hit]; rfl)
                  rw [List.length_map] at he1 hcc1 he2 hcc2
                  cases he1
                  cases he2
                  have hj21 : IntKind.i64.wrap ((j2 : Int) + 1) = (j2 : Int) + 1 := by rw [IntKind.wrap_i64]; omega
                  have t1 : (it.1 != it.1) = false := by simp
                  have t2 : (it.2 != it.2) = false := by simp
                  clear hit htd
                  go_wp2_with (go_at_call 18; (with_reducible refine HAT.out.mono ?_); rintro e w' ⟨rfl, q3, rfl⟩)
                  go_roundw
                  case rel => exact ⟨j2 + 1, by go_num, by omega, _, rfl⟩
                  case measure => simp [intOf]; omega
                · go_wp2
                  go_ret
                  exact ⟨rfl, below_drewN HTk.out.bel q⟩
end Go.Proofs.Ytpemdfdmnbhpjaa
