/- Masks: the reference's calls of a set: Has, Put, Not, Rank, Select, Next. -/
import Derived.Test.YtngfopnefmknoaaDoorMkOf
import Derived.Deep.Cut
import Derived.Deep.DeepCutAuto
set_option linter.all false
namespace Go.Proofs.YtngfopnefmknoaaDoor
open Go.RowKit
set_option maxRecDepth 100000
/-- a whole set loaded, where the operation is guarded -/
theorem wpList_load_setG {w : World} {ops : Array Oper} {rest : List Oper} {o : Oper} {a : Act} {Q : Exit → Act → World → Prop} {b : Nat} {f : Nat → Bool} (x : Operand) (ho : o.op = .load 25 x) (hx : a.eval x = .pointer (some ⟨b, 0, none⟩)) (h : Bk w b 25 (setL f)) (hw : Region.wanted o (yielded ops a.tmps) = true)
    (hK : wpList Tryd.prog ops Q rest (a.put o.dst (setV f)) w) : wpList Tryd.prog ops Q (o :: rest) a w := by
  refine wpList_step fun K hK' => ?_
  rw [if_pos hw]
  unfold Oper.wp execOp
  simp only [ho, hx, Sem.run_bind, Sem.run_pure, run_load_set h, Result.andThen_ok]
  exact hK' _ _ hK
abbrev sw (f : Nat → Bool) (w : World) : World := w.alloc (.cells (setL f).toArray 25)
theorem one_new (f : Nat → Bool) (w : World) : Bk (sw f w) w.heap.size 25 (setL f) ∧ Below w.heap.size w (sw f w) := ⟨Bk.new w _ _, (Below.refl _ w).alloc (Nat.le_refl _) _⟩
theorem pair_new (f : Nat → Bool) (w : World) : Bk (zw (sw f w)) w.heap.size 25 (setL f) ∧ Bk (zw (sw f w)) (w.heap.size + 1) 25 (setL fun _ => false) ∧ Below w.heap.size w (zw (sw f w)) := by
  refine ⟨(Bk.new w _ _).alloc _, ?_, ((Below.refl _ w).alloc (Nat.le_refl _) _).alloc (by simp) _⟩
  have := Bk.new (sw f w) 25 (setL fun _ => false)
  rwa [World.size_alloc] at this
theorem rhas_any (f : Nat → Bool) (i : Int) (w : World) : Calls Tryd.prog 14 #[setV f, .int .i64 i] w fun e w' => e = .returned (.bool (hasF f i)) ∧ Below w.heap.size w w' := by
  obtain ⟨P, hP⟩ : ∃ P, P = w.heap.size := ⟨_, rfl⟩
  obtain ⟨W, hW⟩ : ∃ W, W = sw f w := ⟨_, rfl⟩
  have HN := Lib.hid (one_new f w)
  rw [← hW, ← hP] at HN
  have HP := Lib.hid hP
  by_cases h0 : 0 ≤ i
  · by_cases h1 : i ≤ 63
    · obtain ⟨k, rfl⟩ := Int.eq_ofNat_of_zero_le h0
      have e : hasF f (k : Int) = f k := by unfold hasF; rw [decide_eq_true (by omega), Int.toNat_natCast, Bool.true_and]
      rw [e]
      have hc := HN.out.1.c k (set_at f (show k < 64 by omega))
      clear e h0
      generalize f k = v at hc
      go_enter Tryd.func14, Tryd.ntmps14
      go_upto_region 1 with (fail)
      change Code.wp _ _ _ _ (sw f w)
      rw [← hW, ← HP.out]
      clear hW hP
      go_wp2
      go_ret
      exact ⟨rfl, by rw [← HP.out]; exact HN.out.2⟩
    · have e : hasF f i = false := by unfold hasF; rw [decide_eq_false (by omega)]; rfl
      rw [e]
      clear e
      go_enter Tryd.func14, Tryd.ntmps14
      go_upto_region 1 with (fail)
      change Code.wp _ _ _ _ (sw f w)
      rw [← hW, ← HP.out]
      clear hW hP
      go_wp2
      go_ret
      exact ⟨rfl, by rw [← HP.out]; exact HN.out.2⟩
  · have e : hasF f i = false := by unfold hasF; rw [decide_eq_false (by omega)]; rfl
    rw [e]
    clear e
    go_enter Tryd.func14, Tryd.ntmps14
    go_upto_region 1 with (fail)
    change Code.wp _ _ _ _ (sw f w)
    rw [← hW, ← HP.out]
    clear hW hP
    go_wp2
    go_ret
    exact ⟨rfl, by rw [← HP.out]; exact HN.out.2⟩
/-- with a number, or without it -/
def putF (f : Nat → Bool) (i : Int) (b : Bool) : Nat → Bool := fun j => if (j : Int) = i then b else f j
theorem put_far (f : Nat → Bool) (i : Int) (b : Bool) (h : ¬ (0 ≤ i ∧ i ≤ 63)) : setL (putF f i b) = setL f := set_ext fun j hj => by unfold putF; rw [if_neg (by omega)]
set_option maxHeartbeats 1000000 in
theorem rput_any (f : Nat → Bool) (i : Int) (b : Bool) (w : World) : Calls Tryd.prog 16 #[setV f, .int .i64 i, .bool b] w fun e w' => e = .returned (setV (putF f i b)) ∧ Below w.heap.size w w' := by
  obtain ⟨P, hP⟩ : ∃ P, P = w.heap.size := ⟨_, rfl⟩
  obtain ⟨W, hW⟩ : ∃ W, W = zw (sw f w) := ⟨_, rfl⟩
  have HN := Lib.hid (pair_new f w)
  rw [← hW, ← hP] at HN
  have HP := Lib.hid hP
  by_cases h : 0 ≤ i ∧ i ≤ 63
  · obtain ⟨h0, h1⟩ := h
    obtain ⟨k, rfl⟩ := Int.eq_ofNat_of_zero_le h0
    have hc := HN.out.1.c k (set_at f (show k < 64 by omega))
    have hf := HN.out.1.fz k
    have HS := Lib.hid (show setL (updF f k b) = setL (putF f (k : Int) b) from set_ext fun j hj => by unfold updF putF; by_cases e : j = k <;> simp [e] <;> omega)
    go_enter Tryd.func16, Tryd.ntmps16
    go_upto_region 1 with (fail)
    change Code.wp _ _ _ _ (zw (sw f w))
    rw [← hW, ← HP.out]
    clear hW hP
    go_upto_region 3 with (fail)
    obtain ⟨V, hV⟩ : ∃ V, V = W.setCell ⟨P, k, none⟩ (.bool b) := ⟨_, rfl⟩
    have hbV : Below P w V := by rw [hV]; exact HN.out.2.2.setCell (p := ⟨P, k, none⟩) (Nat.le_refl _) _
    have H1 := Lib.hid (show Bk V P 25 (setL (putF f (k : Int) b)) by rw [← HS.out, ← set_set, hV]; exact HN.out.1.set _ _)
    have H2 := Lib.hid (show Bk V (P + 1) 25 (setL fun _ => false) by rw [hV]; exact HN.out.2.1.other (by omega) _ _)
    have HB := Lib.hid hbV
    rw [← hV]
    clear hV hbV hc hf
    go_wp2_with (first
      | (refine wpList_load_set rfl (.tmp 3) rfl rfl H1.out ?_)
      | (refine wpList_store_set rfl (.tmp 6) (.tmp 16) rfl rfl rfl H2.out (set_len _) ?_; intro w2 k1 k2 k3; have K1 := Lib.hid k1; have K3 := Lib.hid (HB.out.trans (k3 P (by omega))); clear k1 k2 k3))
    exact bodyPost_ret (res_set rfl rfl K1.out) rfl ⟨rfl, by rw [← HP.out]; exact K3.out⟩
  · rw [show setV (putF f i b) = setV f by unfold setV; rw [put_far f i b h]]
    have H1 := Lib.hid HN.out.1
    have H2 := Lib.hid HN.out.2.1
    have HB := Lib.hid HN.out.2.2
    by_cases h0 : 0 ≤ i
    · have h1 : ¬ i ≤ 63 := by omega
      clear h
      go_enter Tryd.func16, Tryd.ntmps16
      go_upto_region 1 with (fail)
      change Code.wp _ _ _ _ (zw (sw f w))
      rw [← hW, ← HP.out]
      clear hW hP
      go_wp2_with (first
        | (refine wpList_load_set rfl (.tmp 3) rfl rfl H1.out ?_)
        | (refine wpList_store_set rfl (.tmp 6) (.tmp 16) rfl rfl rfl H2.out (set_len _) ?_; intro w2 k1 k2 k3; have K1 := Lib.hid k1; have K3 := Lib.hid (HB.out.trans (k3 P (by omega))); clear k1 k2 k3))
      exact bodyPost_ret (res_set rfl rfl K1.out) rfl ⟨rfl, by rw [← HP.out]; exact K3.out⟩
    · clear h
      go_enter Tryd.func16, Tryd.ntmps16
      go_upto_region 1 with (fail)
      change Code.wp _ _ _ _ (zw (sw f w))
      rw [← hW, ← HP.out]
      clear hW hP
      go_wp2_with (first
        | (refine wpList_load_set rfl (.tmp 3) rfl rfl H1.out ?_)
        | (refine wpList_store_set rfl (.tmp 6) (.tmp 16) rfl rfl rfl H2.out (set_len _) ?_; intro w2 k1 k2 k3; have K1 := Lib.hid k1; have K3 := Lib.hid (HB.out.trans (k3 P (by omega))); clear k1 k2 k3))
      exact bodyPost_ret (res_set rfl rfl K1.out) rfl ⟨rfl, by rw [← HP.out]; exact K3.out⟩
def notF (f : Nat → Bool) (n : Int) : Nat → Bool := fun j => decide ((j : Int) < n) && !f j
set_option maxHeartbeats 1000000 in
theorem rnot_any (f : Nat → Bool) (n : Int) (w : World) : Calls Tryd.prog 20 #[setV f, .int .i64 n] w fun e w' => e = .returned (setV (notF f n)) ∧ Below w.heap.size w w' := by
  obtain ⟨P, hP⟩ : ∃ P, P = w.heap.size := ⟨_, rfl⟩
  obtain ⟨W, hW⟩ : ∃ W, W = zw (sw f w) := ⟨_, rfl⟩
  have HN := Lib.hid (pair_new f w)
  rw [← hW, ← hP] at HN
  have HP := Lib.hid hP
  go_enter Tryd.func20, Tryd.ntmps20
  go_upto_region 1 with (fail)
  change Code.wp _ _ _ _ (zw (sw f w))
  rw [← hW, ← HP.out]
  clear hW hP
  go_wp2_with fail
  go_loopw [5] (fun v5 wr => ∃ k : Nat, v5 = .int .i64 (k : Int) ∧ k ≤ 64 ∧ Hid (Bk wr P 25 (setL fun j => if j < k then notF f n j else f j) ∧ Bk wr (P + 1) 25 (setL fun _ => false) ∧ Below P w wr)) (fun v5 _ => 64 - (intOf v5).toNat)
  case atStart => exact ⟨0, rfl, by omega, Lib.hid ⟨by simpa using HN.out.1, HN.out.2.1, HN.out.2.2⟩⟩
  case round =>
    obtain ⟨k, rfl, hk, HR⟩ := hrel
    clear HN
    rcases Nat.lt_or_ge k 64 with hlt | hge
    · have hc := HR.out.1.c k (set_at _ hlt)
      rw [if_neg (Nat.lt_irrefl k)] at hc
      have hfz := HR.out.1.fz k
      have hnx : ∀ v, v = notF f n k → Hid (setL (updF (fun j => if j < k then notF f n j else f j) k v) = setL (fun j => if j < k + 1 then notF f n j else f j)) := fun v hv => Lib.hid (set_ext fun j hj => by
        unfold updF
        by_cases e : j = k
        · subst e; rw [if_pos rfl, if_pos (by omega), hv]
        · rw [if_neg e]
          show (if j < k then notF f n j else f j) = _
          by_cases e2 : j < k
          · rw [if_pos e2, if_pos (by omega)]
          · rw [if_neg e2, if_neg (by omega)])
      by_cases hin : (k : Int) < n
      · have HX := hnx (!f k) (by unfold notF; rw [decide_eq_true hin, Bool.true_and])
        clear hnx
        generalize f k = v at hc HX
        cases v
        all_goals
          go_wp2
          go_roundw
          case rel =>
            refine ⟨k + 1, by go_num, by omega, Lib.hid ⟨?_, HR.out.2.1.other (by omega) _ _, HR.out.2.2.setCell (p := ⟨P, k, none⟩) (Nat.le_refl _) _⟩⟩
            rw [← HX.out, ← set_set]
            exact HR.out.1.set _ _
          case measure => simp [intOf]; omega
      · have HX := hnx false (by unfold notF; rw [decide_eq_false hin, Bool.false_and])
        clear hnx
        go_wp2
        go_roundw
        case rel =>
          refine ⟨k + 1, by go_num, by omega, Lib.hid ⟨?_, HR.out.2.1.other (by omega) _ _, HR.out.2.2.setCell (p := ⟨P, k, none⟩) (Nat.le_refl _) _⟩⟩
          rw [← HX.out, ← set_set]
          exact HR.out.1.set _ _
        case measure => simp [intOf]; omega
    · obtain rfl : k = 64 := by omega
      have HS := Lib.hid (set_ext (f := fun j => if j < 64 then notF f n j else f j) (g := notF f n) fun j hj => by rw [if_pos hj])
      have h2 := HR.out.1
      rw [HS.out] at h2
      have H2 := Lib.hid h2
      clear h2
      go_wp2_with (first
        | (refine wpList_load_set rfl (.tmp 2) rfl rfl H2.out ?_)
        | (refine wpList_store_set rfl (.tmp 4) (.tmp 21) rfl rfl rfl HR.out.2.1 (set_len _) ?_; intro w2 k1 k2 k3; have K1 := Lib.hid k1; have K3 := Lib.hid (HR.out.2.2.trans (k3 P (by omega))); clear k1 k2 k3))
      exact bodyPost_ret (res_set rfl rfl K1.out) rfl ⟨rfl, by rw [← HP.out]; exact K3.out⟩
set_option maxHeartbeats 1000000 in
theorem rrank_any (f : Nat → Bool) (i : Int) (w : World) : Calls Tryd.prog 22 #[setV f, .int .i64 i] w fun e w' => e = .returned (.int .i64 ((cntF f (min i.toNat 64) : Nat) : Int)) ∧ Below w.heap.size w w' := by
  obtain ⟨P, hP⟩ : ∃ P, P = w.heap.size := ⟨_, rfl⟩
  obtain ⟨W, hW⟩ : ∃ W, W = sw f w := ⟨_, rfl⟩
  have HN := Lib.hid (one_new f w)
  rw [← hW, ← hP] at HN
  have HP := Lib.hid hP
  obtain ⟨t, ht⟩ : ∃ t, t = min i.toNat 64 := ⟨_, rfl⟩
  rw [← ht]
  go_enter Tryd.func22, Tryd.ntmps22
  go_upto_region 1 with (fail)
  change Code.wp _ _ _ _ (sw f w)
  rw [← hW, ← HP.out]
  clear hW hP
  go_wp2_with fail
  go_loopw [5, 6] (fun v5 v6 wr => ∃ k c : Nat, v5 = .int .i64 (c : Int) ∧ v6 = .int .i64 (k : Int) ∧ k ≤ t ∧ c ≤ k ∧ Hid (c = cntF f k ∧ wr = W)) (fun _ v6 _ => t - (intOf v6).toNat)
  case atStart => exact ⟨0, 0, rfl, rfl, by omega, by omega, Lib.hid ⟨rfl, rfl⟩⟩
  case round =>
    obtain ⟨k, c, rfl, rfl, hk, hck, HR⟩ := hrel
    obtain ⟨e1, rfl⟩ := HR.out
    clear HR
    rcases Nat.lt_or_ge k t with hlt | hge
    · have hc := HN.out.1.c k (set_at f (show k < 64 by omega))
      have t1 : decide ((k : Int) < 64) = true := by rw [decide_eq_true_eq]; omega
      have t2 : decide ((k : Int) < i) = true := by rw [decide_eq_true_eq]; omega
      have k64 : (k : Int) < 64 := by omega
      have n1 : IntKind.i64.wrap ((k : Int) + 1) = (k : Int) + 1 := by rw [IntKind.wrap_i64]; omega
      have n2 : IntKind.i64.wrap ((c : Int) + 1) = (c : Int) + 1 := by rw [IntKind.wrap_i64]; omega
      have HC := Lib.hid e1
      clear e1
      cases hf : f k with
      | true =>
        rw [hf] at hc
        have HF := Lib.hid hf
        clear hf ht
        go_wp2
        go_roundw
        case rel => exact ⟨k + 1, c + 1, by go_num, by go_num, by omega, by omega, Lib.hid ⟨by rw [cntF, HF.out, HC.out]; rfl, by first | trivial | rfl⟩⟩
        case measure => simp [intOf]; omega
      | false =>
        rw [hf] at hc
        have HF := Lib.hid hf
        clear hf ht
        go_wp2
        go_roundw
        case rel => exact ⟨k + 1, c, rfl, by go_num, by omega, by omega, Lib.hid ⟨by rw [cntF, HF.out, HC.out]; rfl, by first | trivial | rfl⟩⟩
        case measure => simp [intOf]; omega
    · have HE := Lib.hid (show c = cntF f t by rw [e1, show k = t by omega])
      by_cases h64 : (k : Int) < 64
      · have t1 : decide ((k : Int) < 64) = true := by rw [decide_eq_true_eq]; exact h64
        have t2 : decide ((k : Int) < i) = false := by rw [decide_eq_false_iff_not]; omega
        clear e1 ht h64
        go_wp2
        go_ret
        exact ⟨by rw [HE.out]; rfl, by rw [← HP.out]; exact HN.out.2⟩
      · have t1 : decide ((k : Int) < 64) = false := by rw [decide_eq_false_iff_not]; exact h64
        clear e1 ht h64
        go_wp2
        go_ret
        exact ⟨by rw [HE.out]; rfl, by rw [← HP.out]; exact HN.out.2⟩
abbrev optR (r : Option Nat) : Value := .tuple #[.int .i64 ((r.getD 0 : Nat) : Int), .bool r.isSome]
set_option maxHeartbeats 1000000 in
theorem rnext_any (f : Nat → Bool) (i : Int) (w : World) : Calls Tryd.prog 12 #[setV f, .int .i64 i] w fun e w' => e = .returned (optR (nextF f i)) ∧ Below w.heap.size w w' := by
  obtain ⟨P, hP⟩ : ∃ P, P = w.heap.size := ⟨_, rfl⟩
  obtain ⟨W, hW⟩ : ∃ W, W = sw f w := ⟨_, rfl⟩
  have HN := Lib.hid (one_new f w)
  rw [← hW, ← hP] at HN
  have HP := Lib.hid hP
  go_enter Tryd.func12, Tryd.ntmps12
  go_upto_region 1 with (fail)
  change Code.wp _ _ _ _ (sw f w)
  rw [← hW, ← HP.out]
  clear hW hP
  go_wp2_with fail
  go_loopw [6] (fun v6 wr => ∃ k : Nat, v6 = .int .i64 (k : Int) ∧ k ≤ 64 ∧ Hid ((∀ l, (i + 1).toNat ≤ l → l < k → f l = false) ∧ wr = W)) (fun v6 _ => 64 - (intOf v6).toNat)
  case atStart => exact ⟨0, rfl, by omega, Lib.hid ⟨fun l _ h => by omega, rfl⟩⟩
  case round =>
    obtain ⟨k, rfl, hk, HR⟩ := hrel
    obtain ⟨e1, rfl⟩ := HR.out
    clear HR
    rcases Nat.lt_or_ge k 64 with hlt | hge
    · have hc := HN.out.1.c k (set_at f hlt)
      have k64 : (k : Int) < 64 := by omega
      have n1 : IntKind.i64.wrap ((k : Int) + 1) = (k : Int) + 1 := by rw [IntKind.wrap_i64]; omega
      by_cases hi : i < (k : Int)
      · cases hf : f k with
        | true =>
          rw [hf] at hc
          have HE := Lib.hid (show nextF f i = some k from next_eq (r := some k) ⟨by omega, hlt, hf, fun l h1 h2 => e1 l h1 h2⟩)
          clear e1 hf
          go_wp2
          go_ret2
          exact ⟨by rw [HE.out]; rfl, by rw [← HP.out]; exact HN.out.2⟩
        | false =>
          rw [hf] at hc
          have HX := Lib.hid (show ∀ l, (i + 1).toNat ≤ l → l < k + 1 → f l = false from fun l h1 h2 => by
            rcases Nat.lt_or_ge l k with h | h
            · exact e1 l h1 h
            · rw [show l = k by omega]; exact hf)
          clear e1 hf
          go_wp2
          go_roundw
          case rel => exact ⟨k + 1, by go_num, by omega, Lib.hid ⟨HX.out, by first | trivial | rfl⟩⟩
          case measure => simp [intOf]; omega
      · have HX := Lib.hid (show ∀ l, (i + 1).toNat ≤ l → l < k + 1 → f l = false from fun l h1 h2 => by omega)
        clear e1
        go_wp2
        go_roundw
        case rel => exact ⟨k + 1, by go_num, by omega, Lib.hid ⟨HX.out, by first | trivial | rfl⟩⟩
        case measure => simp [intOf]; omega
    · have HE := Lib.hid (show nextF f i = none from next_eq (r := none) fun l h1 h2 => e1 l h1 (by omega))
      obtain rfl : k = 64 := by omega
      clear e1
      go_wp2
      go_ret2
      exact ⟨by rw [HE.out]; rfl, by rw [← HP.out]; exact HN.out.2⟩
set_option maxHeartbeats 1000000 in
theorem rsel_any (f : Nat → Bool) (i : Int) (w : World) : Calls Tryd.prog 10 #[setV f, .int .i64 i] w fun e w' => e = .returned (optR (selF f i)) ∧ Below w.heap.size w w' := by
  obtain ⟨P, hP⟩ : ∃ P, P = w.heap.size := ⟨_, rfl⟩
  obtain ⟨W, hW⟩ : ∃ W, W = sw f w := ⟨_, rfl⟩
  have HN := Lib.hid (one_new f w)
  rw [← hW, ← hP] at HN
  have HP := Lib.hid hP
  go_enter Tryd.func10, Tryd.ntmps10
  go_upto_region 1 with (fail)
  change Code.wp _ _ _ _ (sw f w)
  rw [← hW, ← HP.out]
  clear hW hP
  go_wp2_with fail
  go_loopw [6] (fun v6 wr => ∃ k : Nat, v6 = .int .i64 (k : Int) ∧ k ≤ 64 ∧ Hid ((∀ l, l < k → f l = true → (cntF f l : Int) ≠ i) ∧ Bk wr P 25 (setL f) ∧ Below P w wr)) (fun v6 _ => 64 - (intOf v6).toNat)
  case atStart => exact ⟨0, rfl, by omega, Lib.hid ⟨fun l h => by omega, HN.out.1, HN.out.2⟩⟩
  case round =>
    obtain ⟨k, rfl, hk, HR⟩ := hrel
    clear HN
    rcases Nat.lt_or_ge k 64 with hlt | hge
    · have hc := HR.out.2.1.c k (set_at f hlt)
      have k64 : (k : Int) < 64 := by omega
      have n1 : IntKind.i64.wrap ((k : Int) + 1) = (k : Int) + 1 := by rw [IntKind.wrap_i64]; omega
      have HRK := Lib.hid (rrank_any f (k : Int) wr)
      rw [show min (k : Int).toNat 64 = k by omega] at HRK
      cases hf : f k with
      | true =>
        rw [hf] at hc
        by_cases he : (cntF f k : Int) = i
        · have HE := Lib.hid (show selF f i = some k from sel_some hlt hf he)
          have t0 : ((cntF f k : Int) == i) = true := by rw [beq_iff_eq]; exact he
          generalize cntF f k = c at t0 HRK
          clear he hf
          go_wp2_with (first
            | (refine wpList_load_setG (.tmp 2) rfl rfl HR.out.2.1 rfl ?_)
            | (go_at_call 22; (with_reducible refine HRK.out.mono ?_); rintro e w3 ⟨rfl, hb3⟩; have HB3 := Lib.hid (HR.out.2.2.trans (hb3.mono (by have := HR.out.2.1.lt; omega))); clear hb3))
          go_ret2
          exact ⟨by rw [HE.out]; rfl, by rw [← HP.out]; exact HB3.out⟩
        · have t0 : ((cntF f k : Int) == i) = false := by rw [beq_eq_false_iff_ne]; exact he
          have HX := Lib.hid (show ∀ l, l < k + 1 → f l = true → (cntF f l : Int) ≠ i from fun l h1 h2 => by
            rcases Nat.lt_or_ge l k with h | h
            · exact HR.out.1 l h h2
            · rw [show l = k by omega]; exact he)
          generalize cntF f k = c at t0 HRK
          clear he hf
          go_wp2_with (first
            | (refine wpList_load_setG (.tmp 2) rfl rfl HR.out.2.1 rfl ?_)
            | (go_at_call 22; (with_reducible refine HRK.out.mono ?_); rintro e w3 ⟨rfl, hb3⟩; have HB3 := Lib.hid (HR.out.2.2.trans (hb3.mono (by have := HR.out.2.1.lt; omega))); have H3 := Lib.hid (HR.out.2.1.below hb3); clear hb3))
          go_roundw
          case rel => exact ⟨k + 1, by go_num, by omega, Lib.hid ⟨HX.out, H3.out, HB3.out⟩⟩
          case measure => simp [intOf]; omega
      | false =>
        rw [hf] at hc
        have HX := Lib.hid (show ∀ l, l < k + 1 → f l = true → (cntF f l : Int) ≠ i from fun l h1 h2 => by
          rcases Nat.lt_or_ge l k with h | h
          · exact HR.out.1 l h h2
          · rw [show l = k by omega, hf] at h2; cases h2)
        clear hf HRK
        go_wp2
        go_roundw
        case rel => exact ⟨k + 1, by go_num, by omega, Lib.hid ⟨HX.out, HR.out.2.1, HR.out.2.2⟩⟩
        case measure => simp [intOf]; omega
    · have HE := Lib.hid (show selF f i = none from sel_none fun l h1 h2 => HR.out.1 l (by omega) h2)
      obtain rfl : k = 64 := by omega
      go_wp2
      go_ret2
      exact ⟨by rw [HE.out]; rfl, by rw [← HP.out]; exact HR.out.2.2⟩
end Go.Proofs.YtngfopnefmknoaaDoor
