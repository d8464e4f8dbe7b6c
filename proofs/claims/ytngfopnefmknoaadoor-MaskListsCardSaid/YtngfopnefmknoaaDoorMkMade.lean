/- Masks: the reference's set of a list of numbers. -/
import Derived.Test.YtngfopnefmknoaaDoorMkOfs
import Derived.Test.YtngfopnefmknoaaDoorMkRef
import Derived.Laws.ResultCell
set_option linter.all false
namespace Go.Proofs.YtngfopnefmknoaaDoor
open Go.RowKit Go.Shelf
set_option maxRecDepth 100000
/-- a list of numbers that is handed over: wherever it lies -/
structure Sg (w : World) (a : Option Addr) (l : List Int) : Prop where
  few : l.length ≤ 4611686018427387904
  ins : ∀ x ∈ l, In x
  at' : l = [] ∨ ∃ ad, a = some ad ∧ ad.block < w.heap.size ∧ ∀ j x, l[j]? = some x → w.cell? (ad.add j) = some (.int .i64 x)
theorem add_block (ad : Addr) (j : Nat) : (ad.add j).block = ad.block := by unfold Addr.add; split <;> rfl
theorem cell_same {w w' : World} {p : Addr} {v : Value} (h : w.cell? p = some v) (hb : w'.heap[p.block]? = w.heap[p.block]?) : w'.cell? p = some v := by
  unfold World.cell? at h ⊢
  rw [← h]
  simp only [hb]
theorem Sg.get {w : World} {a : Option Addr} {l : List Int} (h : Sg w a l) {k : Nat} {x : Int} (hx : l[k]? = some x) : ∃ ad, a = some ad ∧ ad.block < w.heap.size ∧ w.cell? (ad.add k) = some (.int .i64 x) := by
  rcases h.at' with rfl | ⟨ad, rfl, hb, hc⟩
  · simp at hx
  · exact ⟨ad, rfl, hb, hc k x hx⟩
theorem Sg.keep {w w' : World} {B : Nat} {a : Option Addr} {l : List Int} (h : Sg w a l) (hB : w.heap.size ≤ B) (hb : Below B w w') : Sg w' a l := by
  refine ⟨h.few, h.ins, ?_⟩
  rcases h.at' with e | ⟨ad, rfl, h1, hc⟩
  · exact .inl e
  · exact .inr ⟨ad, rfl, Nat.lt_of_lt_of_le h1 hb.size, fun j x hx => cell_same (hc j x hx) (by rw [add_block]; exact hb.block _ (by omega))⟩
def madeF (l : List Int) : Nat → Bool := if okL l = true then fun j => decide ((j : Int) ∈ l) else fun _ => false
theorem made_word (l : List Int) : wordF (madeF l) 64 = ofW l := by
  refine word_eq (wd_ofW l) fun j hj => ?_
  unfold madeF ofW
  split
  · rw [wordL_bit l j hj]
  · rw [Nat.zero_testBit]
theorem res_set_tmp {fn : Func} {p q : Tmp} {tmps : Array Value} {w : World} {b : Nat} {f : Nat → Bool} {v : Value} (h : fn.results = #[.cell p 25, .tmp q]) (hp : tmps.getD p undef = .pointer (some ⟨b, 0, none⟩)) (hq : tmps.getD q undef = v) (hb : Bk w b 25 (setL f)) : (results fn tmps).run Tryd.prog w = .ok (.tuple #[setV f, v]) w := by
  have hi := (zero_of_info info_set).2
  have hld := run_loadVar_row (P := Tryd.prog) w b 25 25 (setL f).toArray (0, 0) _ hb Tryd.underlying25 rfl (by rw [hi]; simp [set_len])
  rw [results_cell_tmp h, hp, hq]
  simp [asAddr, Result.andThen, hld]
set_option maxHeartbeats 1000000 in
theorem made_any {w : World} {a : Option Addr} {l : List Int} (h : Sg w a l) (c : Nat) : Calls Tryd.prog 25 #[.slice a l.length c] w fun e w' => e = .returned (.tuple #[setV (madeF l), .int .i64 (ofE l)]) ∧ Below w.heap.size w w' := by
  obtain ⟨W, hW⟩ : ∃ W, W = zw (zw w) := ⟨_, rfl⟩
  obtain ⟨P, hP⟩ : ∃ P, P = w.heap.size := ⟨_, rfl⟩
  have HN := Lib.hid (two_new w)
  have HS := Lib.hid h
  rw [← hW, ← hP] at HN
  have HP := Lib.hid hP
  have hfew := h.few
  have hins := h.ins
  obtain ⟨n, hn⟩ : ∃ n, n = l.length := ⟨_, rfl⟩
  rw [← hn] at hfew ⊢
  have HNN := Lib.hid hn
  have HI := Lib.hid hins
  clear h hn hins
  go_enter Tryd.func25, Tryd.ntmps25
  go_wp2
  change Code.wp _ _ _ _ (zw (zw w))
  rw [← hW, ← HP.out]
  clear hW hP
  go_loopw [5] (fun v5 wr => ∃ k : Nat, v5 = .int .i64 (k : Int) ∧ k ≤ n ∧ Hid (okL (l.take k) = true ∧ Bk wr P 25 (setL fun _ => false) ∧ Bk wr (P + 1) 25 (setL fun j => decide ((j : Int) ∈ l.take k)) ∧ Below P w wr)) (fun v5 _ => n - (intOf v5).toNat)
  case atStart => exact ⟨0, rfl, by omega, Lib.hid ⟨rfl, HN.out.1, by simpa using HN.out.2.1, HN.out.2.2⟩⟩
  case round =>
    obtain ⟨k, rfl, hk, HR⟩ := hrel
    clear HN
    rcases Nat.lt_or_ge k n with hlt | hge
    · obtain ⟨x, hx⟩ : ∃ x, l[k]? = some x := ⟨_, List.getElem?_eq_getElem (by rw [← HNN.out]; exact hlt)⟩
      obtain ⟨ad, rfl, hadb, hc0⟩ := HS.out.get hx
      rw [← HP.out] at hadb
      have hc := cell_same (w' := wr) hc0 (by rw [add_block]; exact HR.out.2.2.2.block _ hadb)
      clear hc0
      have hnx : IntKind.i64.wrap ((k : Int) + 1) = (k : Int) + 1 := by rw [IntKind.wrap_i64]; omega
      by_cases hok : 0 ≤ x ∧ x ≤ 63
      · obtain ⟨h0, h1⟩ := hok
        obtain ⟨y, rfl⟩ := Int.eq_ofNat_of_zero_le h0
        have hf := HR.out.2.2.1.fz y
        have hy := HR.out.2.2.1.c y (set_at _ (show y < 64 by omega))
        have HX := Lib.hid (show setL (updF (fun j => decide ((j : Int) ∈ l.take k)) y true) = setL (fun j => decide ((j : Int) ∈ l.take (k + 1))) from set_ext fun j hj => by
          unfold updF
          rw [take_snoc hx]
          by_cases e : j = y
          · rw [if_pos e, e]; simp
          · rw [if_neg e]
            have e2 : ¬ (j : Int) = (y : Int) := by omega
            simp [e2])
        have HO := Lib.hid (show okL (l.take (k + 1)) = true by rw [okL_take hx, HR.out.1, decide_eq_true (show 0 ≤ (y : Int) ∧ (y : Int) < 64 by omega)]; rfl)
        clear hx
        go_wp2
        go_roundw
        case rel =>
          refine ⟨k + 1, by go_num, by omega, Lib.hid ⟨HO.out, HR.out.2.1.other (by omega) _ _, ?_, HR.out.2.2.2.setCell (p := ⟨P + 1, y, none⟩) (by show P ≤ P + 1; omega) _⟩⟩
          rw [← HX.out, ← set_set]
          exact HR.out.2.2.1.set _ _
        case measure => simp [intOf]; omega
      · have HB := Lib.hid (okL_bad hx (by omega))
        have HF := Lib.hid (show setV (madeF l) = setV (fun _ => false) ∧ ofE l = 2 by unfold madeF ofE; rw [HB.out]; exact ⟨rfl, rfl⟩)
        rcases (show x < 0 ∨ (0 ≤ x ∧ 63 < x) by omega) with h1 | ⟨h1, h2⟩
        all_goals
          clear hx hok
          go_wp2_with (refine wpList_store_set (f := fun _ => false) rfl (.tmp 2) (.tmp 24) rfl rfl rfl HR.out.2.1 (set_len _) ?_; intro w2 k1 k2 k3; have K1 := Lib.hid k1; have K3 := Lib.hid (HR.out.2.2.2.trans (k3 P (Nat.le_refl _))); clear k1 k2 k3)
          exact bodyPost_ret (res_set_tmp rfl rfl rfl K1.out) rfl ⟨by rw [HF.out.1, HF.out.2]; rfl, by rw [← HP.out]; exact K3.out⟩
    · obtain rfl : k = n := by omega
      have ht : l.take k = l := List.take_of_length_le (by rw [← HNN.out]; exact Nat.le_refl _)
      have HR2 := HR.out
      rw [ht] at HR2
      have HF := Lib.hid (show madeF l = (fun j : Nat => decide ((j : Int) ∈ l)) ∧ ofE l = 0 by unfold madeF ofE; rw [HR2.1]; exact ⟨rfl, rfl⟩)
      have H2 := Lib.hid HR2.2.2.1
      clear HR2 ht
      go_wp2_with (first
        | (refine wpList_load_set rfl (.tmp 4) rfl rfl H2.out ?_)
        | (refine wpList_store_set rfl (.tmp 2) (.tmp 30) rfl rfl rfl HR.out.2.1 (set_len _) ?_; intro w2 k1 k2 k3; have K1 := Lib.hid k1; have K3 := Lib.hid (HR.out.2.2.2.trans (k3 P (Nat.le_refl _))); clear k1 k2 k3))
      exact bodyPost_ret (res_set_tmp rfl rfl rfl K1.out) rfl ⟨by rw [HF.out.1, HF.out.2]; rfl, by rw [← HP.out]; exact K3.out⟩
set_option maxHeartbeats 1000000 in
/-- lists compared: the second one lies wherever it lies -/
theorem ints_far {w : World} {a b : Option Addr} {la lb : List Int} (ha : Sl w a la) (hb : Sg w b lb) (he : la = lb) (ca cb : Nat) : Calls Tryd.prog 26 #[.slice a la.length ca, .slice b lb.length cb] w fun e w' => e = .returned (.bool true) ∧ ∃ q, w' = w.drewN q := by
  subst he
  have HA := Lib.hid ha
  have HB := Lib.hid hb
  have hfew := ha.few
  obtain ⟨n, hn⟩ : ∃ n, n = la.length := ⟨_, rfl⟩
  rw [← hn] at hfew ⊢
  have HN := Lib.hid hn
  clear ha hb hn
  have t0 : ((n : Int) != (n : Int)) = false := by simp
  go_enter Tryd.func26, Tryd.ntmps26
  go_wp2
  go_loopw [5] (fun v5 wr => ∃ k : Nat, v5 = .int .i64 (k : Int) ∧ k ≤ n ∧ Hid (∃ q, wr = w.drewN q)) (fun v5 _ => n - (intOf v5).toNat)
  case atStart => exact ⟨0, rfl, by omega, Lib.hid ⟨0, by rw [World.drewN_zero]⟩⟩
  case round =>
    obtain ⟨k, rfl, hk, HR⟩ := hrel
    obtain ⟨q, rfl⟩ := HR.out
    clear t0
    rcases Nat.lt_or_ge k n with hlt | hge
    · obtain ⟨x, hx⟩ : ∃ x, la[k]? = some x := ⟨_, List.getElem?_eq_getElem (by rw [← HN.out]; exact hlt)⟩
      obtain ⟨b1, o1, rfl, hc1⟩ := HA.out.get hx
      obtain ⟨ad, rfl, _, hc2⟩ := HB.out.get hx
      have t1 : (x != x) = false := by simp
      clear hx HR
      go_wp2_with fail
      go_quiet (fail)
      go_wp2
      go_roundw
      case rel => exact ⟨k + 1, by go_num, by omega, Lib.hid ⟨_, rfl⟩⟩
      case measure => simp [intOf]; omega
    · clear HR
      go_wp2
      go_ret
      exact ⟨rfl, q, rfl⟩
end Go.Proofs.YtngfopnefmknoaaDoor
