/- Wire: payloads as bytes; Value, Payload, Message. -/
import Derived.Test.YtloofajopgbfmaaWjAdd3
namespace Go.Proofs.Ytloofajopgbfmaa
set_option linter.all false
open Go.RowKit
set_option maxRecDepth 100000
theorem own_kt {w w' : World} {B n sz : Nat} {T : TypeId} {v : Value} {xs : List Value} (h : w.ownsRow B T sz v n xs) (hT : T ≠ 5) (hk : KT w w') : w'.ownsRow B T sz v n xs := by
  refine ⟨h.1, ?_⟩
  rcases h.2 with hn | ⟨g, cap, cur, hv, hbs, hg, rest⟩
  · exact .inl hn
  · exact .inr ⟨g, cap, cur, hv, hbs, hk g _ T _ hT hg, rest⟩
theorem formV_len {x : V9} (h : Plain9 x) : (formV x).length ≤ 300 := by
  have hl := h.len
  unfold formV
  rw [List.length_cons]
  split
  · rw [beW_len]; omega
  · split
    · rw [beW_len]; omega
    · split
      · rw [List.length_append, beW_len, beW_len]; omega
      · rw [List.length_append, beW_len]; omega
theorem formVs_snoc (l : List V9) (x : V9) : formVs (l ++ [x]) = formVs l ++ formV x := by simp [formVs]
theorem formVs_len {l : List V9} (h : ∀ x ∈ l, Plain9 x) : (formVs l).length ≤ 300 * l.length := by
  induction l with
  | nil => simp [formVs]
  | cons x l ih =>
    have h1 := formV_len (h x (by simp))
    have h2 := ih (fun y hy => h y (by simp [hy]))
    unfold formVs at h2 ⊢
    rw [List.flatMap_cons, List.length_append, List.length_cons]
    omega
set_option maxHeartbeats 4000000 in
theorem addPayload_any (vs : List V9) (hp : ∀ x ∈ vs, Plain9 x) (hl : vs.length ≤ 6) (a : Option Addr) (cap B Bv : Nat) (v : Value) (n : Nat) (xs : List UInt8) (w : World) (hrow : w.ownsRow Bv 27 5 (.slice a vs.length cap) vs.length (cellsP vs)) (hown : w.ownsRow B 5 1 v n (u8s xs)) (hn : n ≤ 50000) (hB : B ≤ w.heap.size) :
    Calls Try.prog 45 #[v, .slice a vs.length cap] w (AdP B w (n + (formP vs).length) (xs ++ formP vs)) := by
  have hc1 := addNumber_any 1 B (.inl rfl) v n vs.length xs (by omega) w hown (by omega) hB
  have HC1 := Lib.hid hc1
  have HP := Lib.hid hp
  have HRW := Lib.hid hrow
  obtain ⟨m, hm⟩ : ∃ m, m = vs.length := ⟨_, rfl⟩
  have HM := Lib.hid hm
  rw [← hm] at hl HC1 ⊢
  have hu : IntKind.u64.wrap (m : Int) = ((m : Nat) : Int) := by rw [IntKind.wrap_u64]; omega
  have sf : ∀ (p : Addr) (b : Nat) (mo : Mode) (w' : World), (store p (.float .f64 b) mo).run Try.prog w' = stored Try.prog w' p (.float .f64 b) mo := fun p b mo w' => run_store _ w' p _ mo rfl
  have sc : ∀ (p : Addr) (b c : Nat) (mo : Mode) (w' : World), (store p (.complex .f64 b c) mo).run Try.prog w' = stored Try.prog w' p (.complex .f64 b c) mo := fun p b c mo w' => run_store _ w' p _ mo rfl
  unfold AdP at HC1 ⊢
  clear hc1 hp hrow hm hown
  go_enter Try.func45, Try.ntmps45
  go_upto_region 2 with (go_at_call 46; (refine HC1.out.mono ?_); rintro e w1 ⟨v1, rfl, ho1, hb1, hk1⟩; have HO1 := Lib.hid ho1; have HB1 := Lib.hid hb1; have HK1 := Lib.hid hk1; clear ho1 hb1 hk1)
  have hb9 : beW 1 m = [UInt8.ofNat m] := by
    have h1 : beW 1 m = [UInt8.ofNat (m % 256)] := by simp [beW]
    rw [h1, Nat.mod_eq_of_lt (by omega)]
  have HB9 := Lib.hid hb9
  clear hb9
  go_wp2_with fail
  go_loopw [14, 0] (fun ii bb wr => ∃ (i N : Nat), ii = .int .i64 i ∧ i ≤ m ∧ N ≤ n + 1 + 300 * i ∧ Hid (N = n + 1 + (formVs (vs.take i)).length) ∧ Hid (wr.ownsRow B 5 1 bb N (u8s ((xs ++ beW 1 m) ++ formVs (vs.take i)))) ∧ Hid (Below B w wr) ∧ Hid (KT w wr)) (fun ii _ _ => m - (intOf ii).toNat)
  case atStart => exact ⟨0, n + 1, rfl, Nat.zero_le _, Nat.le_refl _, Lib.hid rfl, Lib.hid (by rw [show formVs (vs.take 0) = [] from rfl, List.append_nil]; exact HO1.out), HB1, HK1⟩
  case round =>
    clear HO1 HB1 HK1 HC1
    obtain ⟨i, N, rfl, hi, hN, HN, HO, HB, HK⟩ := hrel
    rcases Nat.lt_or_ge i m with hlt | hge
    · have hil : i < vs.length := by rw [← HM.out]; exact hlt
      obtain ⟨x, hx⟩ : ∃ x, vs[i]? = some x := ⟨_, List.getElem?_eq_getElem hil⟩
      have hpx := HP.out x (List.mem_of_getElem? hx)
      obtain ⟨g, rfl, hg, e0, e1, e2, e3, e4⟩ := row_cells (own_kt HRW.out (by decide) HK.out) hx
      go_upto_region 5 with (fail)
      obtain ⟨W2, hW2⟩ : ∃ W2, W2 = wr.alloc (.cells #[.int .i64 x.kd, .int .i64 x.iv, .float .f64 x.rl, .complex .f64 x.re x.im, .string ⟨x.tx.toArray⟩] 27) := ⟨_, rfl⟩
      have hx2 : Bk W2 wr.heap.size 27 (cellsO x) := by rw [hW2]; exact Bk.new wr _ _
      have hba : Below wr.heap.size wr W2 := by rw [hW2]; exact (Below.refl _ wr).alloc (Nat.le_refl _) _
      have hc := addValue_any x hpx B _ N ((xs ++ beW 1 m) ++ formVs (vs.take i)) W2 (own_keep9 HO.out hba) (by omega) (Nat.le_trans hB (Nat.le_trans HB.out.size hba.size))
      unfold AdP at hc
      have HC := Lib.hid hc
      have HB2 := Lib.hid (HB.out.trans (hba.mono (Nat.le_trans hB HB.out.size)))
      have HK2 := Lib.hid (HK.out.trans (KT.of_below hba))
      have hfl := formV_len hpx
      have hts : formVs (vs.take (i + 1)) = formVs (vs.take i) ++ formV x := by rw [take_at hx, formVs_snoc]
      have HTS := Lib.hid hts
      rw [← hW2]
      have d0 := hx2.c 0 rfl
      have d1 := hx2.c 1 rfl
      have d2 := hx2.c 2 rfl
      have d3 := hx2.c 3 rfl
      have d4 := hx2.c 4 rfl
      clear hW2 hx2 hba hc hts e0 e1 e2 e3 e4
      go_wp2_with fail
      refine HC.out.mono ?_
      rintro e w3 ⟨v3, rfl, ho3, hb3, hk3⟩
      have HO3 : Hid (w3.ownsRow B 5 1 v3 (N + (formV x).length) (u8s ((xs ++ beW 1 m) ++ formVs (vs.take (i + 1))))) := Lib.hid (by rw [HTS.out, ← List.append_assoc]; exact ho3)
      have HB3 := Lib.hid (HB2.out.trans hb3)
      have HK3 := Lib.hid (HK2.out.trans hk3)
      clear ho3 hb3 hk3 d0 d1 d2 d3 d4
      go_wp2_with fail
      go_roundw
      case rel => exact ⟨i + 1, N + (formV x).length, by go_num, by omega, by omega, Lib.hid (by rw [HN.out, HTS.out, List.length_append]; omega), HO3, HB3, HK3⟩
      case measure => simp [intOf]; omega
    · obtain rfl : i = m := by omega
      have hts : vs.take i = vs := by rw [HM.out]; exact List.take_length
      have HE : Hid (N = n + (formP vs).length) := Lib.hid (by rw [HN.out, hts]; unfold formP; rw [List.length_cons]; omega)
      have HF : Hid ((xs ++ beW 1 i) ++ formVs (vs.take i) = xs ++ formP vs) := Lib.hid (by rw [hts, HB9.out, List.append_assoc]; unfold formP; rw [← HM.out]; rfl)
      clear hts
      go_wp2_with fail
      go_ret
      exact ⟨_, rfl, by rw [← HE.out, ← HF.out]; exact HO.out, HB.out, HK.out⟩
/-- what is written: new bytes -/
def WrA (w : World) (l : List UInt8) (e : Ending) (w' : World) : Prop := ∃ a cap, e = .returned (.tuple #[.slice a l.length cap, .int .i64 0]) ∧ w'.ownsRow w.heap.size 5 1 (.slice a l.length cap) l.length (u8s l) ∧ Below w.heap.size w w'
theorem own_slice {w : World} {B n sz : Nat} {T : TypeId} {v : Value} {xs : List Value} (h : w.ownsRow B T sz v n xs) : ∃ a cap, v = .slice a n cap := by
  rcases h.2 with ⟨rfl, h0⟩ | ⟨g, cap, cur, rfl, _⟩
  · exact ⟨none, 0, by rw [h0]⟩
  · exact ⟨_, _, rfl⟩
set_option maxHeartbeats 4000000 in
theorem wValue_any (x : V9) (hp : Plain9 x) (w : World) : Calls Try.prog 20 #[fVal9 x] w (WrA w (formV x)) := by
  have hm := fun W => mayValue_any x.kd x.iv x.rl x.re x.im ⟨x.tx.toArray⟩ W
  rw [plain_may hp] at hm
  unfold valV at hm
  have HM := Lib.hid hm
  obtain ⟨W0, hW0⟩ : ∃ W0, W0 = w.alloc (.cells #[.int .i64 x.kd, .int .i64 x.iv, .float .f64 x.rl, .complex .f64 x.re x.im, .string ⟨x.tx.toArray⟩] 27) := ⟨_, rfl⟩
  have hb0 : Below w.heap.size w W0 := by rw [hW0]; exact (Below.refl _ w).alloc (Nat.le_refl _) _
  have hx0 : Bk W0 w.heap.size 27 (cellsO x) := by rw [hW0]; exact Bk.new w _ _
  have HW0 := Lib.hid hW0
  have HB0 := Lib.hid hb0
  have HX0 := Lib.hid hx0
  have HA := Lib.hid (fun W (hW : Below w.heap.size w W) => addValue_any x hp w.heap.size (.slice none 0 0) 0 [] W (World.ownsRow_nil _ _ _ _) (by omega) hW.size)
  have x0 := hx0.c 0 rfl
  have x1 := hx0.c 1 rfl
  have x2 := hx0.c 2 rfl
  have x3 := hx0.c 3 rfl
  have x4 := hx0.c 4 rfl
  unfold WrA
  clear hm hW0 hb0 hx0 hp
  go_enter Try.func20, Try.ntmps20
  go_upto_region 1 with (fail)
  rw [← HW0.out]
  go_wp2_with fail
  refine (HM.out _).mono ?_
  rintro e w1 ⟨rfl, hb1⟩
  have hx1 := HX0.out.keep hb1 HX0.out.lt
  have HB1 := Lib.hid (HB0.out.trans (hb1.mono HB0.out.size))
  clear hb1 x0 x1 x2 x3 x4
  have x0 := hx1.c 0 rfl
  have x1 := hx1.c 1 rfl
  have x2 := hx1.c 2 rfl
  have x3 := hx1.c 3 rfl
  have x4 := hx1.c 4 rfl
  have hc := HA.out w1 HB1.out
  unfold AdP at hc
  have HC := Lib.hid hc
  clear hx1 hc
  go_wp2_with fail
  refine HC.out.mono ?_
  rintro e w2 ⟨v2, rfl, ho2, hb2, _⟩
  rw [Nat.zero_add, List.nil_append] at ho2
  obtain ⟨a2, c2, rfl⟩ := own_slice ho2
  have HO2 := Lib.hid ho2
  have HB2 := Lib.hid (HB1.out.trans hb2)
  clear ho2 hb2
  go_wp2_with fail
  go_ret2
  exact ⟨a2, c2, rfl, HO2.out, HB2.out⟩
set_option maxHeartbeats 4000000 in
theorem wPayload_any (vs : List V9) (hp : PlainP vs) (a : Option Addr) (cap Bv : Nat) (w : World) (hrow : w.ownsRow Bv 27 5 (.slice a vs.length cap) vs.length (cellsP vs)) : Calls Try.prog 22 #[.slice a vs.length cap] w (WrA w (formP vs)) := by
  have hm := mayPayload_any vs _ w hp.all (own_base9 hrow (Nat.zero_le _)) (by have := hp.few; omega)
  rw [decide_eq_true (And.intro hp.few hp.size)] at hm
  have HM := Lib.hid hm
  have HA := Lib.hid (fun W (hW : Below w.heap.size w W) => addPayload_any vs hp.all hp.few a cap w.heap.size Bv (.slice none 0 0) 0 [] W (own_keep9 hrow hW) (World.ownsRow_nil _ _ _ _) (by omega) hW.size)
  unfold WrA
  clear hm hrow hp
  go_enter Try.func22, Try.ntmps22
  go_wp2_with fail
  refine HM.out.mono ?_
  rintro e w1 ⟨rfl, hb1⟩
  have hc := HA.out w1 hb1
  unfold AdP at hc
  have HC := Lib.hid hc
  have HB1 := Lib.hid hb1
  clear hb1 hc
  go_wp2_with fail
  refine HC.out.mono ?_
  rintro e w2 ⟨v2, rfl, ho2, hb2, _⟩
  rw [Nat.zero_add, List.nil_append] at ho2
  obtain ⟨a2, c2, rfl⟩ := own_slice ho2
  have HO2 := Lib.hid ho2
  have HB2 := Lib.hid (HB1.out.trans hb2)
  clear ho2 hb2
  go_wp2_with fail
  go_ret2
  exact ⟨a2, c2, rfl, HO2.out, HB2.out⟩
end Go.Proofs.Ytloofajopgbfmaa
