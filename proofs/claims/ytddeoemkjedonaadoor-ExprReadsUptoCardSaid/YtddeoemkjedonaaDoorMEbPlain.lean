/- A node with nothing but what its kind names: what a reader lists is so. -/
import Derived.Test.YtddeoemkjedonaaDoorEbLeaf
namespace Go.Proofs.YtddeoemkjedonaaDoor
open Go.RowKit Go.Shelf
set_option maxRecDepth 100000

theorem store_float (p : Addr) (b : Nat) (mo : Mode) (w' : World) : (store p (.float .f64 b) mo).run Tryd.prog w' = stored Tryd.prog w' p (.float .f64 b) mo := run_store _ w' p _ mo rfl
theorem store_cplx (p : Addr) (b c : Nat) (mo : Mode) (w' : World) : (store p (.complex .f64 b c) mo).run Tryd.prog w' = stored Tryd.prog w' p (.complex .f64 b c) mo := run_store _ w' p _ mo rfl
theorem shape_ch (x y z : Value) (w : World) : (Instr.field 61 (.agg #[x, y, z]) 2).run Tryd.prog w = .ok z w := by kernel_rfl
theorem fin_self {b : Nat} (h : b < 9218868437227405312) : eqB b b = true := by
  show (Ieee.double.order b b == some Ordering.eq) = true
  have hn : nanB b = false := by unfold nanB rungB; exact decide_eq_false (by omega)
  rw [order_key _ _ hn hn, show compare (keyI b) (keyI b) = .eq from cmp_eq _]
  rfl
set_option maxHeartbeats 1000000 in
theorem plainReal_any (b : Nat) (h : b < 9218868437227405312) (w : World) : Calls Tryd.prog 54 #[.float .f64 b] w fun e w' => e = .returned (.float .f64 b) ∧ w = w' := by
  have HN := Lib.hid (fun W => isNaN_any b W)
  have HE : Hid ((!eqB b b) = false) := Lib.hid (by rw [fin_self h]; rfl)
  clear h
  go_enter Tryd.func54, Tryd.ntmps54
  go_wp2_with (go_at_call 59; refine (HN.out _).mono ?_; rintro e w' ⟨rfl, rfl⟩; rw [HE.out])
  go_ret
  exact ⟨rfl, rfl⟩
set_option maxHeartbeats 1000000 in
theorem clone_any (t : ByteArray) (w : World) (h : t.size ≤ 256) : Calls Tryd.prog 55 #[.string t] w fun e w' => e = .returned (.string t) ∧ Below w.heap.size w w' := by
  have HC := Lib.hid (Tryd.stringslite_Clone t w (by omega))
  clear h
  go_enter Tryd.func55, Tryd.ntmps55
  go_wp2_with (go_at_call 61; refine HC.out.mono ?_; rintro e w1 ⟨rfl, hb1⟩; have HB := Lib.hid hb1; clear hb1)
  go_ret
  exact ⟨rfl, HB.out⟩
/-- a value's five cells -/
def vCells (kd iv : Int) (rl : Nat) (tx : ByteArray) : List Value := [.int .i64 kd, .int .i64 iv, .float .f64 rl, .complex .f64 0 0, .string tx]
theorem vput {W : World} {g : Nat} (h : ∃ cs, cs.length = 5 ∧ Bx W g 53 cs) (kd iv : Int) (rl : Nat) (tx : ByteArray) :
    Bx (((((W.setCell ⟨g, 0, none⟩ (.int .i64 kd)).setCell ⟨g, 1, none⟩ (.int .i64 iv)).setCell ⟨g, 2, none⟩ (.float .f64 rl)).setCell ⟨g, 3, none⟩ (.complex .f64 0 0)).setCell ⟨g, 4, none⟩ (.string tx)) g 53 (vCells kd iv rl tx) := by
  obtain ⟨cs, hl, hb⟩ := h
  have h5 := ((((hb.set 0 (.int .i64 kd)).set 1 (.int .i64 iv)).set 2 (.float .f64 rl)).set 3 (.complex .f64 0 0)).set 4 (.string tx)
  match cs, hl with
  | [a, b, c, d, e], _ => exact h5
theorem vres {fn : Func} {p : Tmp} {tmps : Array Value} {W : World} {g : Nat} {kd iv : Int} {rl : Nat} {tx : ByteArray} (hf : fn.results = #[.cell p 53]) (hp : tmps.getD p undef = .pointer (some ⟨g, 0, none⟩)) (h : Bx W g 53 (vCells kd iv rl tx)) :
    (results fn tmps).run Tryd.prog W = .ok (valV kd iv rl 0 0 tx) W := results_cell_row hf _ _ g 53 _ (0, 0) _ hp h Tryd.underlying53 rfl (by kernel_rfl)
theorem below_vput {B : Nat} {w W : World} {g : Nat} (hb : Below B w W) (hg : B ≤ g) (a b c d e : Value) : Below B w (((((W.setCell ⟨g, 0, none⟩ a).setCell ⟨g, 1, none⟩ b).setCell ⟨g, 2, none⟩ c).setCell ⟨g, 3, none⟩ d).setCell ⟨g, 4, none⟩ e) :=
  ((((hb.setCell hg _).setCell hg _).setCell hg _).setCell hg _).setCell hg _
set_option maxHeartbeats 2000000 in
theorem vPlain_any (l : Lf) (hv : ∀ t, l ≠ .var t) (hl : okL l = true) (w : World) :
    Calls Tryd.prog 47 #[litV l] w fun e w' => e = .returned (litV l) ∧ Below w.heap.size w w' := by
  have hk : ((leafN l).vk = 1 ∨ (leafN l).vk = 5 ∨ (leafN l).vk = 2 ∨ (leafN l).vk = 4) ∧ mayB (leafN l).vk (leafN l).vi (leafN l).tx = true ∧ (leafN l).rl < 9218868437227405312 ∧ (leafN l).tx.size ≤ 256 ∧
      ((leafN l).vk = 1 ∨ (leafN l).vk = 5 → (leafN l).rl = 0 ∧ (leafN l).tx = ⟨#[]⟩) ∧ ((leafN l).vk = 2 → (leafN l).vi = 0 ∧ (leafN l).tx = ⟨#[]⟩) ∧ ((leafN l).vk = 4 → (leafN l).vi = 0 ∧ (leafN l).rl = 0) := by
    cases l with
    | var t => exact absurd rfl (hv t)
    | int v => exact ⟨.inl rfl, rfl, (by decide : 0 < 9218868437227405312), (by decide : 0 ≤ 256), fun _ => ⟨rfl, rfl⟩, fun h => (by cases h), fun h => (by cases h)⟩
    | real b => exact ⟨.inr (.inr (.inl rfl)), rfl, of_decide_eq_true hl, (by decide : 0 ≤ 256), fun h => (by rcases h with h | h <;> cases h), fun _ => ⟨rfl, rfl⟩, fun h => (by cases h)⟩
    | text t => exact ⟨.inr (.inr (.inr rfl)), hl, (by decide : 0 < 9218868437227405312), of_decide_eq_true hl, fun h => (by rcases h with h | h <;> cases h), fun h => (by cases h), fun _ => ⟨rfl, rfl⟩⟩
    | bool b => exact ⟨.inr (.inl rfl), by cases b <;> rfl, (by decide : 0 < 9218868437227405312), (by decide : 0 ≤ 256), fun _ => ⟨rfl, rfl⟩, fun h => (by cases h), fun h => (by cases h)⟩
  unfold litV
  obtain ⟨hk1, hm, hr, ht, h15, h2, h4⟩ := hk
  generalize (leafN l).vk = vk at *
  generalize (leafN l).vi = vi at *
  generalize (leafN l).rl = rl at *
  generalize (leafN l).tx = tx at *
  have sf := store_float
  have sc := store_cplx
  have HM := Lib.hid (fun W => may_any vk vi rl 0 0 tx W)
  have HMB := Lib.hid hm
  have HP := Lib.hid (fun W => plainReal_any rl hr W)
  have HT := Lib.hid ht
  unfold valV at HM ⊢
  obtain ⟨W0, hW0⟩ : ∃ W0, W0 = ((w.alloc (.cells #[.int .i64 vk, .int .i64 vi, .float .f64 rl, .complex .f64 0 0, .string tx] 53)).alloc (.cells #[.int .i64 0, .int .i64 0, .float .f64 0, .complex .f64 0 0, .string ⟨#[]⟩] 53)) := ⟨_, rfl⟩
  have hB0 : Below w.heap.size w W0 := by rw [hW0]; exact ((Below.refl w.heap.size w).alloc (Nat.le_refl _) _).alloc (by simp) _
  have hv0 : Bx W0 w.heap.size 53 (vCells vk vi rl tx) := by rw [hW0]; exact (Bx.new w 53 (vCells vk vi rl tx)).keep ((Below.refl _ _).alloc (Nat.le_refl _) _) (by simp)
  have hr0 : Bx W0 (w.heap.size + 1) 53 (vCells 0 0 0 ⟨#[]⟩) := by rw [hW0]; have := Bx.new (w.alloc (.cells #[.int .i64 vk, .int .i64 vi, .float .f64 rl, .complex .f64 0 0, .string tx] 53)) 53 (vCells 0 0 0 ⟨#[]⟩); rw [show (w.alloc (.cells #[.int .i64 vk, .int .i64 vi, .float .f64 rl, .complex .f64 0 0, .string tx] 53)).heap.size = w.heap.size + 1 by simp] at this; exact this
  have v0 := hv0.c 0 rfl
  have v1 := hv0.c 1 rfl
  have v2 := hv0.c 2 rfl
  have v3 := hv0.c 3 rfl
  have v4 := hv0.c 4 rfl
  have HW0 := Lib.hid hW0
  have HB0 := Lib.hid hB0
  have HV0 := Lib.hid hv0
  have HR0 := Lib.hid hr0
  have H15 := Lib.hid h15
  have H2 := Lib.hid h2
  have H4 := Lib.hid h4
  have HK := Lib.hid hk1
  clear hW0 hB0 hv0 hr0 h15 h2 h4 hm hr ht hv hl hk1
  go_enter Tryd.func47, Tryd.ntmps47
  go_upto_region 1 with (fail)
  rw [← HW0.out]
  go_upto_region 3 with (go_at_call 53; refine (HM.out _).mono ?_; rintro e w1 ⟨rfl, hb1⟩; rw [HMB.out]; have HB1 := Lib.hid (HB0.out.trans (hb1.mono HB0.out.size)); have HV1 := Lib.hid (HV0.out.keep hb1 HV0.out.lt); have HR1 := Lib.hid (HR0.out.keep hb1 HR0.out.lt); clear hb1)
  clear v0 v1 v2 v3 v4
  have v0 := HV1.out.c 0 rfl
  have v1 := HV1.out.c 1 rfl
  have v2 := HV1.out.c 2 rfl
  have v4 := HV1.out.c 4 rfl
  have n0 := HR1.out.c 0 rfl
  have n1 := HR1.out.c 1 rfl
  have n2 := HR1.out.c 2 rfl
  have n3 := HR1.out.c 3 rfl
  have n4 := HR1.out.c 4 rfl
  have f0 := HR1.out.fz 0
  have f1 := HR1.out.fz 1
  have f2 := HR1.out.fz 2
  have f3 := HR1.out.fz 3
  have f4 := HR1.out.fz 4
  have hgr : w.heap.size < w1.heap.size := HV1.out.lt
  rcases HK.out with rfl | rfl | rfl | rfl
  · obtain ⟨rfl, rfl⟩ := H15.out (.inl rfl)
    go_wp2
    exact bodyPost_ret (vres rfl rfl (vput ⟨_, rfl, HR1.out⟩ _ _ _ _)) rfl ⟨rfl, below_vput HB1.out (by omega) _ _ _ _ _⟩
  · obtain ⟨rfl, rfl⟩ := H15.out (.inr rfl)
    go_wp2
    exact bodyPost_ret (vres rfl rfl (vput ⟨_, rfl, HR1.out⟩ _ _ _ _)) rfl ⟨rfl, below_vput HB1.out (by omega) _ _ _ _ _⟩
  · obtain ⟨rfl, rfl⟩ := H2.out rfl
    go_wp2_with (go_at_call 54; refine (HP.out _).mono ?_; rintro e w' ⟨rfl, rfl⟩)
    exact bodyPost_ret (vres rfl rfl (vput ⟨_, rfl, HR1.out⟩ _ _ _ _)) rfl ⟨rfl, below_vput HB1.out (by omega) _ _ _ _ _⟩
  · obtain ⟨rfl, rfl⟩ := H4.out rfl
    have HCL := Lib.hid (clone_any tx w1 HT.out)
    clear n0 n1 n2 n3 n4 f0 f1 f2 f3 f4
    go_wp2_with (go_at_call 55; refine HCL.out.mono ?_; rintro e w2 ⟨rfl, hb2⟩; have HB2 := Lib.hid (HB1.out.trans (hb2.mono HB1.out.size)); have HR2 := Lib.hid (HR1.out.keep hb2 HR1.out.lt); clear hb2; have n0 := HR2.out.c 0 rfl; have n1 := HR2.out.c 1 rfl; have n2 := HR2.out.c 2 rfl; have n3 := HR2.out.c 3 rfl; have n4 := HR2.out.c 4 rfl; have f0 := HR2.out.fz 0; have f1 := HR2.out.fz 1; have f2 := HR2.out.fz 2; have f3 := HR2.out.fz 3; have f4 := HR2.out.fz 4)
    exact bodyPost_ret (vres rfl rfl (vput ⟨_, rfl, HR2.out⟩ _ _ _ _)) rfl ⟨rfl, below_vput HB2.out (by omega) _ _ _ _ _⟩
end Go.Proofs.YtddeoemkjedonaaDoor
/- A node, plain: what its kind names and nothing else; in memory of its own. -/
namespace Go.Proofs.YtddeoemkjedonaaDoor
open Go.RowKit Go.Shelf
set_option maxRecDepth 100000

def zNd : Nd := ⟨0, 0, 0, ⟨#[]⟩, 0, 0, 0, 0, 0, ⟨#[]⟩⟩
theorem nput {W : World} {g : Nat} (h : ∃ cs, cs.length = 9 ∧ Bx W g 55 cs) (n : Nd) :
    Bx (((((((((W.setCell ⟨g, 0, none⟩ (.int .i64 n.k)).setCell ⟨g, 1, none⟩ (.int .i64 n.a)).setCell ⟨g, 2, none⟩ (.int .i64 n.b)).setCell ⟨g, 3, none⟩ (.string n.nm)).setCell ⟨g, 4, none⟩ (.int .i64 n.vk)).setCell ⟨g, 5, none⟩ (.int .i64 n.vi)).setCell ⟨g, 6, none⟩ (.float .f64 n.rl)).setCell ⟨g, 7, none⟩ (.complex .f64 n.re n.im)).setCell ⟨g, 8, none⟩ (.string n.tx)) g 55 (ndCells n) := by
  obtain ⟨cs, hl, hb⟩ := h
  have h9 := ((((((((hb.set 0 (.int .i64 n.k)).set 1 (.int .i64 n.a)).set 2 (.int .i64 n.b)).set 3 (.string n.nm)).set 4 (.int .i64 n.vk)).set 5 (.int .i64 n.vi)).set 6 (.float .f64 n.rl)).set 7 (.complex .f64 n.re n.im)).set 8 (.string n.tx)
  match cs, hl with
  | [_, _, _, _, _, _, _, _, _], _ => exact h9
theorem nres {fn : Func} {p : Tmp} {tmps : Array Value} {W : World} {g : Nat} {n : Nd} (hf : fn.results = #[.cell p 55]) (hp : tmps.getD p undef = .pointer (some ⟨g, 0, none⟩)) (h : Bx W g 55 (ndCells n)) :
    (results fn tmps).run Tryd.prog W = .ok (ndV n) W := results_cell_row hf _ _ g 55 _ (0, 0) _ hp h Tryd.underlying55 rfl (by kernel_rfl)
theorem below_nput {B : Nat} {w W : World} {g : Nat} (hb : Below B w W) (hg : B ≤ g) (a b c d e f i j k : Value) :
    Below B w (((((((((W.setCell ⟨g, 0, none⟩ a).setCell ⟨g, 1, none⟩ b).setCell ⟨g, 2, none⟩ c).setCell ⟨g, 3, none⟩ d).setCell ⟨g, 4, none⟩ e).setCell ⟨g, 5, none⟩ f).setCell ⟨g, 6, none⟩ i).setCell ⟨g, 7, none⟩ j).setCell ⟨g, 8, none⟩ k) :=
  ((((((((hb.setCell hg _).setCell hg _).setCell hg _).setCell hg _).setCell hg _).setCell hg _).setCell hg _).setCell hg _).setCell hg _
theorem new2 (w : World) (T : TypeId) (a b : List Value) : ∃ W, W = ((w.alloc (.cells a.toArray T)).alloc (.cells b.toArray T)) ∧ Bx W w.heap.size T a ∧ Bx W (w.heap.size + 1) T b ∧ Below w.heap.size w W ∧ W.heap.size = w.heap.size + 2 := by
  refine ⟨_, rfl, ?_, ?_, ?_, ?_⟩
  · exact (Bx.new w T a).keep ((Below.refl _ _).alloc (by simp) _) (Nat.lt_succ_self _)
  · have := (Bx.new (w.alloc (.cells a.toArray T)) T b)
    rw [show (w.alloc (.cells a.toArray T)).heap.size = w.heap.size + 1 by simp] at this
    exact this
  · exact ((Below.refl w.heap.size w).alloc (Nat.le_refl _) _).alloc (by simp) _
  · simp
theorem bx_ne {w : World} {g h : Nat} {T : TypeId} {cs : List Value} (hx : Bx w g T cs) (hne : g ≠ h) (a b c d e f i j k : Value) :
    Bx (((((((((w.setCell ⟨h, 0, none⟩ a).setCell ⟨h, 1, none⟩ b).setCell ⟨h, 2, none⟩ c).setCell ⟨h, 3, none⟩ d).setCell ⟨h, 4, none⟩ e).setCell ⟨h, 5, none⟩ f).setCell ⟨h, 6, none⟩ i).setCell ⟨h, 7, none⟩ j).setCell ⟨h, 8, none⟩ k) g T cs :=
  ((((((((hx.other hne _ _).other hne _ _).other hne _ _).other hne _ _).other hne _ _).other hne _ _).other hne _ _).other hne _ _).other hne _ _

/-- a node that a reader lists -/
inductive PlainN (K : Nat) (n : Nd) : Prop
  | val (l : Lf) (hv : ∀ t, l ≠ .var t) (hl : okL l = true) (hK : K = 1) (hn : n = leafN l)
  | var (t : ByteArray) (hK : K = 2) (hn : n = leafN (.var t))
  | one (x : Int) (hx : -9223372036854775808 ≤ x ∧ x ≤ 9223372036854775807) (hc : shCh K = 1) (hn : n = pairN K x 0)
  | two (x y : Int) (hx : -9223372036854775808 ≤ x ∧ x ≤ 9223372036854775807) (hy : -9223372036854775808 ≤ y ∧ y ≤ 9223372036854775807) (hc : shCh K = 2) (hn : n = pairN K x y)
set_option maxHeartbeats 8000000 in
theorem plain_any (K : Nat) (n : Nd) (hK : K < 27) (hP : PlainN K n) (w : World) (hT : Tab w) (hg : 0 < w.heap.size) :
    Calls Tryd.prog 38 #[ndV n, .int .i64 0] w fun e w' => e = .returned (ndV n) ∧ Below w.heap.size w w' := by
  have sf := store_float
  have sc := store_cplx
  have sh := shape_ch
  have hnk : n.k = K := by
    cases hP with
    | val l hv hl hK hn =>
      rw [hn, hK]
      cases l with
      | var t => exact absurd rfl (hv t)
      | int v => rfl
      | real v => rfl
      | text v => rfl
      | bool v => rfl
    | var t hK hn => rw [hn, hK]; rfl
    | one x hx hc hn => rw [hn]; rfl
    | two x y hx hy hc hn => rw [hn]; rfl
  obtain ⟨W0, hW0, ha, hb, hB, hsz⟩ := new2 w 55 (ndCells n) (ndCells zNd)
  have HW0 : Hid (W0 = (w.alloc (.cells #[.int .i64 K, .int .i64 n.a, .int .i64 n.b, .string n.nm, .int .i64 n.vk, .int .i64 n.vi, .float .f64 n.rl, .complex .f64 n.re n.im, .string n.tx] 55)).alloc (.cells #[.int .i64 0, .int .i64 0, .int .i64 0, .string ⟨#[]⟩, .int .i64 0, .int .i64 0, .float .f64 0, .complex .f64 0 0, .string ⟨#[]⟩] 55)) := Lib.hid (by rw [← hnk]; exact hW0)
  have k0 := ha.c 0 rfl
  rw [hnk] at k0
  have hgr0 : w.heap.size < W0.heap.size := by omega
  have hgr1 : w.heap.size + 1 < W0.heap.size := by omega
  have hB1 : Below W0.heap.size W0 (W0.alloc (.cells #[.int .i64 K, .int .i64 0, .int .i64 0, .string ⟨#[]⟩, .int .i64 0, .int .i64 0, .float .f64 0, .complex .f64 0 0, .string ⟨#[]⟩] 55)) := (Below.refl _ _).alloc (Nat.le_refl _) _
  have hc1 : Bx (W0.alloc (.cells #[.int .i64 K, .int .i64 0, .int .i64 0, .string ⟨#[]⟩, .int .i64 0, .int .i64 0, .float .f64 0, .complex .f64 0 0, .string ⟨#[]⟩] 55)) W0.heap.size 55 (ndCells ⟨K, 0, 0, ⟨#[]⟩, 0, 0, 0, 0, 0, ⟨#[]⟩⟩) := Bx.new W0 _ _
  have hsz1 : (W0.alloc (.cells #[.int .i64 K, .int .i64 0, .int .i64 0, .string ⟨#[]⟩, .int .i64 0, .int .i64 0, .float .f64 0, .complex .f64 0 0, .string ⟨#[]⟩] 55)).heap.size = W0.heap.size + 1 := by simp
  have HSZ1 := Lib.hid hsz1
  have HA1 := Lib.hid (ha.keep hB1 hgr0)
  have HB1 := Lib.hid (hb.keep hB1 hgr1)
  have HC1 := Lib.hid hc1
  have hBW1 := hB.trans (hB1.mono (by omega))
  have HBW1 := Lib.hid hBW1
  have HT1 := Lib.hid (hT.of_block (hBW1.block _ hg))
  have HGR := Lib.hid hsz
  have HNK := Lib.hid hnk
  have HPP := Lib.hid hP
  have HKK := Lib.hid hK
  clear hP ha hb hB hsz hB1 hc1 hsz1 hBW1 hW0 hT
  unfold ndV
  rw [hnk]
  clear hnk
  go_enter Tryd.func38, Tryd.ntmps38
  go_upto_region 1 with (fail)
  rw [← HW0.out]
  go_upto_region 2 with (fail)
  generalize W0.alloc (.cells #[.int .i64 K, .int .i64 0, .int .i64 0, .string ⟨#[]⟩, .int .i64 0, .int .i64 0, .float .f64 0, .complex .f64 0 0, .string ⟨#[]⟩] 55) = W1 at HSZ1 HA1 HB1 HC1 HBW1 HT1 ⊢
  obtain ⟨P, hP⟩ : ∃ P, P = W0.heap.size := ⟨_, rfl⟩
  rw [← hP] at HSZ1 HC1 hgr0 hgr1 ⊢
  clear k0 HW0
  have k0 := HA1.out.c 0 rfl
  rw [HNK.out] at k0
  have HSH := Lib.hid (shapeOf_any K HKK.out W1 HT1.out (by have := HBW1.out.size; omega))
  have hPs : P < W1.heap.size := HC1.out.lt
  have hP2 : w.heap.size + 2 = P := by rw [hP]; exact HGR.out.symm
  clear hP
  have HP2 := Lib.hid hP2
  clear hP2
  rcases HPP.out with ⟨l, hv, hl, hK1, hn⟩ | ⟨t, hK1, hn⟩ | ⟨x, hx, hch, hn⟩ | ⟨x, y, hx, hy, hch, hn⟩
  · subst hK1
    have hlf : n.a = 0 ∧ n.b = 0 ∧ n.nm = ⟨#[]⟩ ∧ n.re = 0 ∧ n.im = 0 := by
      rw [hn]
      cases l with
      | var t => exact absurd rfl (hv t)
      | int v => exact ⟨rfl, rfl, rfl, rfl, rfl⟩
      | real v => exact ⟨rfl, rfl, rfl, rfl, rfl⟩
      | text v => exact ⟨rfl, rfl, rfl, rfl, rfl⟩
      | bool v => exact ⟨rfl, rfl, rfl, rfl, rfl⟩
    obtain ⟨h1, h2, h3, h4, h5⟩ := hlf
    have HVP := Lib.hid (fun W => vPlain_any l hv hl W)
    unfold litV valV at HVP
    rw [← hn] at HVP
    have HN := Lib.hid (show n = ⟨1, 0, 0, ⟨#[]⟩, n.vk, n.vi, n.rl, 0, 0, n.tx⟩ by rw [← h1, ← h4]; cases n; simp_all; exact HNK.out)
    generalize n.vk = vk at HVP HN
    generalize n.vi = vi at HVP HN
    generalize n.rl = rl at HVP HN
    generalize n.tx = tx at HVP HN
    clear h1 h2 h3 h4 h5 hn hl hv
    have hn := HN.out
    clear HN HNK HPP
    subst hn
    rw [show shCh 1 = 0 from rfl] at HSH
    go_upto_region 7 with (go_at_call 46; refine HSH.out.mono ?_; rintro e w2 ⟨rfl, hb2⟩; have HA2 := Lib.hid (HA1.out.keep hb2 HA1.out.lt); have HB2 := Lib.hid (HB1.out.keep hb2 HB1.out.lt); have HC2 := Lib.hid (HC1.out.keep hb2 HC1.out.lt); have HBW2 := Lib.hid (HBW1.out.trans (hb2.mono HBW1.out.size)); have hP3 : P < w2.heap.size := HC2.out.lt; have k2 := HA2.out.c 0 rfl; clear hb2)
    clear k0
    have k0 := HA2.out.c 0 rfl
    have v4 := HA2.out.c 4 rfl
    have v5 := HA2.out.c 5 rfl
    have v6 := HA2.out.c 6 rfl
    have v7 := HA2.out.c 7 rfl
    have v8 := HA2.out.c 8 rfl
    go_upto_region 12 with (go_at_call 47; refine (HVP.out _).mono ?_; rintro e w3 ⟨rfl, hb3⟩; have HB3 := Lib.hid (HB2.out.keep hb3 HB2.out.lt); have HC3 := Lib.hid (HC2.out.keep hb3 HC2.out.lt); have HBW3 := Lib.hid (HBW2.out.trans (hb3.mono HBW2.out.size)); have hP4 : P < w3.heap.size := HC3.out.lt; clear hb3; have n4 := HC3.out.c 4 rfl; have n5 := HC3.out.c 5 rfl; have n6 := HC3.out.c 6 rfl; have n7 := HC3.out.c 7 rfl; have n8 := HC3.out.c 8 rfl;have f4 := HC3.out.fz 4; have f5 := HC3.out.fz 5; have f6 := HC3.out.fz 6; have f7 := HC3.out.fz 7; have f8 := HC3.out.fz 8)
    have HC4 : Hid (Bx (((((w3.setCell ⟨P, 4, none⟩ (.int .i64 vk)).setCell ⟨P, 5, none⟩ (.int .i64 vi)).setCell ⟨P, 6, none⟩ (.float .f64 rl)).setCell ⟨P, 7, none⟩ (.complex .f64 0 0)).setCell ⟨P, 8, none⟩ (.string tx)) P 55 (ndCells ⟨1, 0, 0, ⟨#[]⟩, vk, vi, rl, 0, 0, tx⟩)) := Lib.hid (((((HC3.out.set 4 _).set 5 _).set 6 _).set 7 _).set 8 _)
    have HB4 : Hid (Bx (((((w3.setCell ⟨P, 4, none⟩ (.int .i64 vk)).setCell ⟨P, 5, none⟩ (.int .i64 vi)).setCell ⟨P, 6, none⟩ (.float .f64 rl)).setCell ⟨P, 7, none⟩ (.complex .f64 0 0)).setCell ⟨P, 8, none⟩ (.string tx)) (w.heap.size + 1) 55 (ndCells zNd)) := Lib.hid (((((HB3.out.other (by omega) _ _).other (by omega) _ _).other (by omega) _ _).other (by omega) _ _).other (by omega) _ _)
    have HBW4 : Hid (Below w.heap.size w (((((w3.setCell ⟨P, 4, none⟩ (.int .i64 vk)).setCell ⟨P, 5, none⟩ (.int .i64 vi)).setCell ⟨P, 6, none⟩ (.float .f64 rl)).setCell ⟨P, 7, none⟩ (.complex .f64 0 0)).setCell ⟨P, 8, none⟩ (.string tx))) := Lib.hid (((((HBW3.out.setCell (by show _ ≤ P; omega) _).setCell (by show _ ≤ P; omega) _).setCell (by show _ ≤ P; omega) _).setCell (by show _ ≤ P; omega) _).setCell (by show _ ≤ P; omega) _)
    generalize ((((w3.setCell ⟨P, 4, none⟩ (.int .i64 vk)).setCell ⟨P, 5, none⟩ (.int .i64 vi)).setCell ⟨P, 6, none⟩ (.float .f64 rl)).setCell ⟨P, 7, none⟩ (.complex .f64 0 0)).setCell ⟨P, 8, none⟩ (.string tx) = W4 at HC4 HB4 HBW4 ⊢
    clear n4 n5 n6 n7 n8 f4 f5 f6 f7 f8 v4 v5 v6 v7 v8
    clear k0
    have v0 := HC4.out.c 0 rfl
    have v1 := HC4.out.c 1 rfl
    have v2 := HC4.out.c 2 rfl
    have v3 := HC4.out.c 3 rfl
    have v4 := HC4.out.c 4 rfl
    have v5 := HC4.out.c 5 rfl
    have v6 := HC4.out.c 6 rfl
    have v7 := HC4.out.c 7 rfl
    have v8 := HC4.out.c 8 rfl
    have n0 := HB4.out.c 0 rfl
    have n1 := HB4.out.c 1 rfl
    have n2 := HB4.out.c 2 rfl
    have n3 := HB4.out.c 3 rfl
    have n4 := HB4.out.c 4 rfl
    have n5 := HB4.out.c 5 rfl
    have n6 := HB4.out.c 6 rfl
    have n7 := HB4.out.c 7 rfl
    have n8 := HB4.out.c 8 rfl
    have f0 := HB4.out.fz 0
    have f1 := HB4.out.fz 1
    have f2 := HB4.out.fz 2
    have f3 := HB4.out.fz 3
    have f4 := HB4.out.fz 4
    have f5 := HB4.out.fz 5
    have f6 := HB4.out.fz 6
    have f7 := HB4.out.fz 7
    have f8 := HB4.out.fz 8
    go_wp2
    exact bodyPost_ret (nres rfl rfl (nput ⟨_, rfl, HB4.out⟩ ⟨1, 0, 0, ⟨#[]⟩, vk, vi, rl, 0, 0, tx⟩)) rfl ⟨rfl, below_nput HBW4.out (by omega) _ _ _ _ _ _ _ _ _⟩
  · subst hK1
    clear HNK HPP
    subst hn
    rw [show shCh 2 = 0 from rfl] at HSH
    go_upto_region 7 with (go_at_call 46; refine HSH.out.mono ?_; rintro e w2 ⟨rfl, hb2⟩; have HA2 := Lib.hid (HA1.out.keep hb2 HA1.out.lt); have HB2 := Lib.hid (HB1.out.keep hb2 HB1.out.lt); have HC2 := Lib.hid (HC1.out.keep hb2 HC1.out.lt); have HBW2 := Lib.hid (HBW1.out.trans (hb2.mono HBW1.out.size)); have hP3 : P < w2.heap.size := HC2.out.lt; have k2 := HA2.out.c 0 rfl; clear hb2)
    clear k0
    have k0 := HA2.out.c 0 rfl
    have v3 : w2.cell? ⟨w.heap.size, 3, none⟩ = some (.string t) := HA2.out.c 3 rfl
    have n3 := HC2.out.c 3 rfl
    have f3 := HC2.out.fz 3
    go_upto_region 12 with (fail)
    have HC4 : Hid (Bx (w2.setCell ⟨P, 3, none⟩ (.string t)) P 55 (ndCells ⟨2, 0, 0, t, 0, 0, 0, 0, 0, ⟨#[]⟩⟩)) := Lib.hid (HC2.out.set 3 _)
    have HB4 : Hid (Bx (w2.setCell ⟨P, 3, none⟩ (.string t)) (w.heap.size + 1) 55 (ndCells zNd)) := Lib.hid (HB2.out.other (by omega) _ _)
    have HBW4 : Hid (Below w.heap.size w (w2.setCell ⟨P, 3, none⟩ (.string t))) := Lib.hid (HBW2.out.setCell (by show _ ≤ P; omega) _)
    generalize w2.setCell ⟨P, 3, none⟩ (.string t) = W4 at HC4 HB4 HBW4 ⊢
    clear n3 f3 v3
    clear k0
    have v0 := HC4.out.c 0 rfl
    have v1 := HC4.out.c 1 rfl
    have v2 := HC4.out.c 2 rfl
    have v3 := HC4.out.c 3 rfl
    have v4 := HC4.out.c 4 rfl
    have v5 := HC4.out.c 5 rfl
    have v6 := HC4.out.c 6 rfl
    have v7 := HC4.out.c 7 rfl
    have v8 := HC4.out.c 8 rfl
    have n0 := HB4.out.c 0 rfl
    have n1 := HB4.out.c 1 rfl
    have n2 := HB4.out.c 2 rfl
    have n3 := HB4.out.c 3 rfl
    have n4 := HB4.out.c 4 rfl
    have n5 := HB4.out.c 5 rfl
    have n6 := HB4.out.c 6 rfl
    have n7 := HB4.out.c 7 rfl
    have n8 := HB4.out.c 8 rfl
    have f0 := HB4.out.fz 0
    have f1 := HB4.out.fz 1
    have f2 := HB4.out.fz 2
    have f3 := HB4.out.fz 3
    have f4 := HB4.out.fz 4
    have f5 := HB4.out.fz 5
    have f6 := HB4.out.fz 6
    have f7 := HB4.out.fz 7
    have f8 := HB4.out.fz 8
    go_wp2
    exact bodyPost_ret (nres rfl rfl (nput ⟨_, rfl, HB4.out⟩ ⟨2, 0, 0, t, 0, 0, 0, 0, 0, ⟨#[]⟩⟩)) rfl ⟨rfl, below_nput HBW4.out (by omega) _ _ _ _ _ _ _ _ _⟩
  · clear HNK HPP
    subst hn
    rw [hch] at HSH
    have hk12 : K ≠ 1 ∧ K ≠ 2 := ⟨fun h => (by rw [h] at hch; cases hch), fun h => (by rw [h] at hch; cases hch)⟩
    have d1 : ((K : Int) == 1) = false := beq_eq_false_iff_ne.2 (by omega)
    have d2 : ((K : Int) == 2) = false := beq_eq_false_iff_ne.2 (by omega)
    clear hk12
    clear hch
    go_upto_region 6 with (go_at_call 46; refine HSH.out.mono ?_; rintro e w2 ⟨rfl, hb2⟩; have HA2 := Lib.hid (HA1.out.keep hb2 HA1.out.lt); have HB2 := Lib.hid (HB1.out.keep hb2 HB1.out.lt); have HC2 := Lib.hid (HC1.out.keep hb2 HC1.out.lt); have HBW2 := Lib.hid (HBW1.out.trans (hb2.mono HBW1.out.size)); have hP3 : P < w2.heap.size := HC2.out.lt; have k2 := HA2.out.c 0 rfl; clear hb2)
    clear k0
    have k0 := HA2.out.c 0 rfl
    have v1 : w2.cell? ⟨w.heap.size, 1, none⟩ = some (.int .i64 x) := HA2.out.c 1 rfl
    have n1 := HC2.out.c 1 rfl
    have f1 := HC2.out.fz 1
    go_upto_region 7 with (fail)
    have HC4 : Hid (Bx (w2.setCell ⟨P, 1, none⟩ (.int .i64 x)) P 55 (ndCells ⟨K, x, 0, ⟨#[]⟩, 0, 0, 0, 0, 0, ⟨#[]⟩⟩)) := Lib.hid (HC2.out.set 1 _)
    have HB4 : Hid (Bx (w2.setCell ⟨P, 1, none⟩ (.int .i64 x)) (w.heap.size + 1) 55 (ndCells zNd)) := Lib.hid (HB2.out.other (by omega) _ _)
    have HA4 : Hid (Bx (w2.setCell ⟨P, 1, none⟩ (.int .i64 x)) w.heap.size 55 (ndCells (pairN K x 0))) := Lib.hid (HA2.out.other (by omega) _ _)
    have HBW4 : Hid (Below w.heap.size w (w2.setCell ⟨P, 1, none⟩ (.int .i64 x))) := Lib.hid (HBW2.out.setCell (by show _ ≤ P; omega) _)
    generalize w2.setCell ⟨P, 1, none⟩ (.int .i64 x) = W4 at HC4 HB4 HA4 HBW4 ⊢
    clear n1 f1 v1 k0 k2
    have k0 : W4.cell? ⟨w.heap.size, 0, none⟩ = some (.int .i64 K) := HA4.out.c 0 rfl
    go_upto_region 12 with (fail)
    clear k0
    have v0 := HC4.out.c 0 rfl
    have v1 := HC4.out.c 1 rfl
    have v2 := HC4.out.c 2 rfl
    have v3 := HC4.out.c 3 rfl
    have v4 := HC4.out.c 4 rfl
    have v5 := HC4.out.c 5 rfl
    have v6 := HC4.out.c 6 rfl
    have v7 := HC4.out.c 7 rfl
    have v8 := HC4.out.c 8 rfl
    have n0 := HB4.out.c 0 rfl
    have n1 := HB4.out.c 1 rfl
    have n2 := HB4.out.c 2 rfl
    have n3 := HB4.out.c 3 rfl
    have n4 := HB4.out.c 4 rfl
    have n5 := HB4.out.c 5 rfl
    have n6 := HB4.out.c 6 rfl
    have n7 := HB4.out.c 7 rfl
    have n8 := HB4.out.c 8 rfl
    have f0 := HB4.out.fz 0
    have f1 := HB4.out.fz 1
    have f2 := HB4.out.fz 2
    have f3 := HB4.out.fz 3
    have f4 := HB4.out.fz 4
    have f5 := HB4.out.fz 5
    have f6 := HB4.out.fz 6
    have f7 := HB4.out.fz 7
    have f8 := HB4.out.fz 8
    go_wp2
    exact bodyPost_ret (nres rfl rfl (nput ⟨_, rfl, HB4.out⟩ ⟨K, x, 0, ⟨#[]⟩, 0, 0, 0, 0, 0, ⟨#[]⟩⟩)) rfl ⟨rfl, below_nput HBW4.out (by omega) _ _ _ _ _ _ _ _ _⟩
  · clear HNK HPP
    subst hn
    rw [hch] at HSH
    have hk12 : K ≠ 1 ∧ K ≠ 2 := ⟨fun h => (by rw [h] at hch; cases hch), fun h => (by rw [h] at hch; cases hch)⟩
    have d1 : ((K : Int) == 1) = false := beq_eq_false_iff_ne.2 (by omega)
    have d2 : ((K : Int) == 2) = false := beq_eq_false_iff_ne.2 (by omega)
    clear hk12
    clear hch
    go_upto_region 5 with (go_at_call 46; refine HSH.out.mono ?_; rintro e w2 ⟨rfl, hb2⟩; have HA2 := Lib.hid (HA1.out.keep hb2 HA1.out.lt); have HB2 := Lib.hid (HB1.out.keep hb2 HB1.out.lt); have HC2 := Lib.hid (HC1.out.keep hb2 HC1.out.lt); have HBW2 := Lib.hid (HBW1.out.trans (hb2.mono HBW1.out.size)); have hP3 : P < w2.heap.size := HC2.out.lt; have k2 := HA2.out.c 0 rfl; clear hb2)
    clear k0
    have k0 := HA2.out.c 0 rfl
    have v1 : w2.cell? ⟨w.heap.size, 1, none⟩ = some (.int .i64 x) := HA2.out.c 1 rfl
    have v2 : w2.cell? ⟨w.heap.size, 2, none⟩ = some (.int .i64 y) := HA2.out.c 2 rfl
    have n1 := HC2.out.c 1 rfl
    have f1 := HC2.out.fz 1
    have n2 := HC2.out.c 2 rfl
    have f2 := HC2.out.fz 2
    go_upto_region 7 with (fail)
    have HC4 : Hid (Bx ((w2.setCell ⟨P, 2, none⟩ (.int .i64 y)).setCell ⟨P, 1, none⟩ (.int .i64 x)) P 55 (ndCells ⟨K, x, y, ⟨#[]⟩, 0, 0, 0, 0, 0, ⟨#[]⟩⟩)) := Lib.hid ((HC2.out.set 2 _).set 1 _)
    have HB4 : Hid (Bx ((w2.setCell ⟨P, 2, none⟩ (.int .i64 y)).setCell ⟨P, 1, none⟩ (.int .i64 x)) (w.heap.size + 1) 55 (ndCells zNd)) := Lib.hid ((HB2.out.other (by omega) _ _).other (by omega) _ _)
    have HA4 : Hid (Bx ((w2.setCell ⟨P, 2, none⟩ (.int .i64 y)).setCell ⟨P, 1, none⟩ (.int .i64 x)) w.heap.size 55 (ndCells (pairN K x y))) := Lib.hid ((HA2.out.other (by omega) _ _).other (by omega) _ _)
    have HBW4 : Hid (Below w.heap.size w ((w2.setCell ⟨P, 2, none⟩ (.int .i64 y)).setCell ⟨P, 1, none⟩ (.int .i64 x))) := Lib.hid ((HBW2.out.setCell (by show _ ≤ P; omega) _).setCell (by show _ ≤ P; omega) _)
    generalize ((w2.setCell ⟨P, 2, none⟩ (.int .i64 y)).setCell ⟨P, 1, none⟩ (.int .i64 x)) = W4 at HC4 HB4 HA4 HBW4 ⊢
    clear n1 f1 v1 n2 f2 v2 k0 k2
    have k0 : W4.cell? ⟨w.heap.size, 0, none⟩ = some (.int .i64 K) := HA4.out.c 0 rfl
    go_upto_region 12 with (fail)
    clear k0
    have v0 := HC4.out.c 0 rfl
    have v1 := HC4.out.c 1 rfl
    have v2 := HC4.out.c 2 rfl
    have v3 := HC4.out.c 3 rfl
    have v4 := HC4.out.c 4 rfl
    have v5 := HC4.out.c 5 rfl
    have v6 := HC4.out.c 6 rfl
    have v7 := HC4.out.c 7 rfl
    have v8 := HC4.out.c 8 rfl
    have n0 := HB4.out.c 0 rfl
    have n1 := HB4.out.c 1 rfl
    have n2 := HB4.out.c 2 rfl
    have n3 := HB4.out.c 3 rfl
    have n4 := HB4.out.c 4 rfl
    have n5 := HB4.out.c 5 rfl
    have n6 := HB4.out.c 6 rfl
    have n7 := HB4.out.c 7 rfl
    have n8 := HB4.out.c 8 rfl
    have f0 := HB4.out.fz 0
    have f1 := HB4.out.fz 1
    have f2 := HB4.out.fz 2
    have f3 := HB4.out.fz 3
    have f4 := HB4.out.fz 4
    have f5 := HB4.out.fz 5
    have f6 := HB4.out.fz 6
    have f7 := HB4.out.fz 7
    have f8 := HB4.out.fz 8
    go_wp2
    exact bodyPost_ret (nres rfl rfl (nput ⟨_, rfl, HB4.out⟩ ⟨K, x, y, ⟨#[]⟩, 0, 0, 0, 0, 0, ⟨#[]⟩⟩)) rfl ⟨rfl, below_nput HBW4.out (by omega) _ _ _ _ _ _ _ _ _⟩
end Go.Proofs.YtddeoemkjedonaaDoor
