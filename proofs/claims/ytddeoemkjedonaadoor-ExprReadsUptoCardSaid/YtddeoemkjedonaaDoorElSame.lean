/- The law's own compare of expressions: like nodes are the same. -/
import Derived.Test.YtddeoemkjedonaaDoorMErSize
import Derived.Deep.RegionHeld3
namespace Go.Proofs.YtddeoemkjedonaaDoor
open Go.RowKit Go.Shelf
set_option maxRecDepth 100000

/-- a node without what is no number -/
def okN (n : Nd) : Prop := n.rl < 9218868437227405312 ∧ n.re = 0 ∧ n.im = 0
theorem okN_leaf {l : Lf} (h : okL l = true) : okN (leafN l) := by
  cases l with
  | real b => exact ⟨of_decide_eq_true h, rfl, rfl⟩
  | int v => exact ⟨(by show 0 < 9218868437227405312; omega), rfl, rfl⟩
  | text t => exact ⟨(by show 0 < 9218868437227405312; omega), rfl, rfl⟩
  | bool b => exact ⟨(by show 0 < 9218868437227405312; omega), rfl, rfl⟩
  | var t => exact ⟨(by show 0 < 9218868437227405312; omega), rfl, rfl⟩
theorem okN_pair (k a b : Int) : okN (pairN k a b) := ⟨(by show 0 < 9218868437227405312; omega), rfl, rfl⟩
theorem okN_lay : ∀ (t : Ex) (o : Nat), WfT t → ∀ n ∈ lay o t, okN n := by
  intro t
  induction t with
  | lf l => intro o h n hn; rcases List.mem_singleton.1 hn with rfl; exact okN_leaf h
  | un k a ih =>
    intro o h n hn
    rcases List.mem_append.1 hn with hn | hn
    · exact ih o h.2.2 n hn
    · rcases List.mem_singleton.1 hn with rfl; exact okN_pair _ _ _
  | bi k a b iha ihb =>
    intro o h n hn
    rcases List.mem_append.1 hn with hn | hn
    · exact iha o h.2.2.1 n hn
    · rcases List.mem_append.1 hn with hn | hn
      · exact ihb _ h.2.2.2 n hn
      · rcases List.mem_singleton.1 hn with rfl; exact okN_pair _ _ _
theorem real_self_eq (b : Nat) (h : b < 9218868437227405312) : (FloatKind.f64.format.order b b == some Ordering.eq) = true := by
  have hr : rungB b = b := Nat.mod_eq_of_lt (by omega)
  have hn : nanB b = false := by unfold nanB; rw [hr]; exact decide_eq_false (by omega)
  show (Ieee.double.order b b == some Ordering.eq) = true
  rw [order_key _ _ hn hn, show compare (keyI b) (keyI b) = .eq from by simp]
  rfl
set_option maxHeartbeats 8000000 in
theorem same_any (ns : List Nd) (g1 g2 c1 c2 N : Nat) (hN : ns.length = N) (hN2 : N ≤ 1000000000) (hok : ∀ n ∈ ns, okN n) (w : World) (h1 : NodesAt w g1 ns) (h2 : NodesAt w g2 ns) (hg1 : g1 < w.heap.size) (hg2 : g2 < w.heap.size) :
    Calls Tryd.prog 7 #[.agg #[.slice (some ⟨g1, 0, none⟩) N c1], .agg #[.slice (some ⟨g2, 0, none⟩) N c2]] w fun e w' => e = .returned (.bool true) ∧ Below w.heap.size w w' := by
  have sf := store_float
  have sc := store_cplx
  have hz0 : FloatKind.f64.format.order 0 0 = some Ordering.eq := by decide
  obtain ⟨W0, hW0, ha, hb, hB, hsz⟩ := new2 w 27 [.slice (some ⟨g1, 0, none⟩) N c1] [.slice (some ⟨g2, 0, none⟩) N c2]
  have HW0 := Lib.hid hW0
  have HA := Lib.hid ha
  have HB := Lib.hid hb
  have HBW := Lib.hid hB
  have HSZ := Lib.hid hsz
  have HN := Lib.hid hN
  have HOK := Lib.hid hok
  have H1 := Lib.hid (h1.keep hB hg1)
  have H2 := Lib.hid (h2.keep hB hg2)
  have a0 := ha.c 0 rfl
  have b0 := hb.c 0 rfl
  clear hW0 ha hb hB hN hok h1 h2
  go_enter Tryd.func7, Tryd.ntmps7
  go_upto_region 1 with (fail)
  rw [← HW0.out]
  go_wp2
  go_loopw [5] (fun i wr => ∃ k : Nat, i = .int .i64 k ∧ k ≤ N ∧ Hid (Below (w.heap.size + 2) W0 wr)) (fun i _ => N - (intOf i).toNat)
  case atStart => exact ⟨0, rfl, Nat.zero_le _, Lib.hid (Below.refl _ _)⟩
  case round =>
    obtain ⟨k, rfl, hk, HBR⟩ := hrel
    have a0 := (HA.out.keep HBR.out (by omega)).c 0 rfl
    have b0 := (HB.out.keep HBR.out (by omega)).c 0 rfl
    have hwr : w.heap.size + 2 ≤ wr.heap.size := by have := HBR.out.size; have := HSZ.out; omega
    rcases Nat.lt_or_ge k N with hlt | hge
    · have hkl : k < ns.length := by rw [HN.out]; exact hlt
      have HC1 := H1.out.keep HBR.out (by omega)
      have HC2 := H2.out.keep HBR.out (by omega)
      obtain ⟨hrl, hre, him⟩ := HOK.out (ns.getD k default) (by rw [List.getD_eq_getElem?_getD, List.getElem?_eq_getElem hkl]; exact List.getElem_mem hkl)
      have hse : FloatKind.f64.format.order (ns.getD k default).rl (ns.getD k default).rl = some Ordering.eq := by have := real_self_eq _ hrl; simpa using this
      generalize hn : ns.getD k default = n at *
      have HC1 : ∀ j v, (ndCells n)[j]? = some v → wr.cell? ⟨g1, k * 9 + j, none⟩ = some v := fun j v hj => HC1 k j v hkl (by rw [hn]; exact hj)
      have HC2 : ∀ j v, (ndCells n)[j]? = some v → wr.cell? ⟨g2, k * 9 + j, none⟩ = some v := fun j v hj => HC2 k j v hkl (by rw [hn]; exact hj)
      have x0 : wr.cell? ⟨g1, k * 9, none⟩ = some (.int .i64 n.k) := HC1 0 _ rfl
      have x1 : wr.cell? ⟨g1, k * 9 + 1, none⟩ = some (.int .i64 n.a) := HC1 1 _ rfl
      have x2 : wr.cell? ⟨g1, k * 9 + 2, none⟩ = some (.int .i64 n.b) := HC1 2 _ rfl
      have x3 : wr.cell? ⟨g1, k * 9 + 3, none⟩ = some (.string n.nm) := HC1 3 _ rfl
      have x4 : wr.cell? ⟨g1, k * 9 + 4, none⟩ = some (.int .i64 n.vk) := HC1 4 _ rfl
      have x5 : wr.cell? ⟨g1, k * 9 + 5, none⟩ = some (.int .i64 n.vi) := HC1 5 _ rfl
      have x6 : wr.cell? ⟨g1, k * 9 + 6, none⟩ = some (.float .f64 n.rl) := HC1 6 _ rfl
      have x7 : wr.cell? ⟨g1, k * 9 + 7, none⟩ = some (.complex .f64 0 0) := by have := HC1 7 _ rfl; rw [hre, him] at this; exact this
      have x8 : wr.cell? ⟨g1, k * 9 + 8, none⟩ = some (.string n.tx) := HC1 8 _ rfl
      have y0 : wr.cell? ⟨g2, k * 9, none⟩ = some (.int .i64 n.k) := HC2 0 _ rfl
      have y1 : wr.cell? ⟨g2, k * 9 + 1, none⟩ = some (.int .i64 n.a) := HC2 1 _ rfl
      have y2 : wr.cell? ⟨g2, k * 9 + 2, none⟩ = some (.int .i64 n.b) := HC2 2 _ rfl
      have y3 : wr.cell? ⟨g2, k * 9 + 3, none⟩ = some (.string n.nm) := HC2 3 _ rfl
      have y4 : wr.cell? ⟨g2, k * 9 + 4, none⟩ = some (.int .i64 n.vk) := HC2 4 _ rfl
      have y5 : wr.cell? ⟨g2, k * 9 + 5, none⟩ = some (.int .i64 n.vi) := HC2 5 _ rfl
      have y6 : wr.cell? ⟨g2, k * 9 + 6, none⟩ = some (.float .f64 n.rl) := HC2 6 _ rfl
      have y7 : wr.cell? ⟨g2, k * 9 + 7, none⟩ = some (.complex .f64 0 0) := by have := HC2 7 _ rfl; rw [hre, him] at this; exact this
      have y8 : wr.cell? ⟨g2, k * 9 + 8, none⟩ = some (.string n.tx) := HC2 8 _ rfl
      have HLT := Lib.hid hlt
      clear HC1 HC2 hn hre him hrl hkl
      go_upto_region 6 with (fail)
      go_region_held3 (fun W => W.cell? ⟨w.heap.size, 0, none⟩ = some (.slice (some ⟨g1, 0, none⟩) N c1) ∧ W.cell? ⟨w.heap.size + 1, 0, none⟩ = some (.slice (some ⟨g2, 0, none⟩) N c2) ∧ W.cell? ⟨g1, k * 9, none⟩ = some (.int .i64 n.k) ∧ W.cell? ⟨g1, k * 9 + 1, none⟩ = some (.int .i64 n.a) ∧ W.cell? ⟨g1, k * 9 + 2, none⟩ = some (.int .i64 n.b) ∧ W.cell? ⟨g1, k * 9 + 3, none⟩ = some (.string n.nm) ∧ W.cell? ⟨g1, k * 9 + 4, none⟩ = some (.int .i64 n.vk) ∧ W.cell? ⟨g1, k * 9 + 5, none⟩ = some (.int .i64 n.vi) ∧ W.cell? ⟨g1, k * 9 + 6, none⟩ = some (.float .f64 n.rl) ∧ W.cell? ⟨g1, k * 9 + 7, none⟩ = some (.complex .f64 0 0) ∧ W.cell? ⟨g1, k * 9 + 8, none⟩ = some (.string n.tx) ∧ W.cell? ⟨g2, k * 9, none⟩ = some (.int .i64 n.k) ∧ W.cell? ⟨g2, k * 9 + 1, none⟩ = some (.int .i64 n.a) ∧ W.cell? ⟨g2, k * 9 + 2, none⟩ = some (.int .i64 n.b) ∧ W.cell? ⟨g2, k * 9 + 3, none⟩ = some (.string n.nm) ∧ W.cell? ⟨g2, k * 9 + 4, none⟩ = some (.int .i64 n.vk) ∧ W.cell? ⟨g2, k * 9 + 5, none⟩ = some (.int .i64 n.vi) ∧ W.cell? ⟨g2, k * 9 + 6, none⟩ = some (.float .f64 n.rl) ∧ W.cell? ⟨g2, k * 9 + 7, none⟩ = some (.complex .f64 0 0) ∧ W.cell? ⟨g2, k * 9 + 8, none⟩ = some (.string n.tx))
        (first | (refine ⟨?_, ?_, ?_, ?_, ?_, ?_, ?_, ?_, ?_, ?_, ?_, ?_, ?_, ?_, ?_, ?_, ?_, ?_, ?_, ?_⟩ <;> assumption) | go_keep)
        (fail)
      all_goals
        obtain ⟨W1, hW1, hP, hQ, hB1, hs1⟩ := new2 wr 55 [.int .i64 n.k, .int .i64 n.a, .int .i64 n.b, .string n.nm, .int .i64 n.vk, .int .i64 n.vi, .float .f64 n.rl, .complex .f64 0 0, .string n.tx] [.int .i64 n.k, .int .i64 n.a, .int .i64 n.b, .string n.nm, .int .i64 n.vk, .int .i64 n.vi, .float .f64 n.rl, .complex .f64 0 0, .string n.tx]
        have hW1' : W1.drew = ((wr.alloc (.cells #[.int .i64 n.k, .int .i64 n.a, .int .i64 n.b, .string n.nm, .int .i64 n.vk, .int .i64 n.vi, .float .f64 n.rl, .complex .f64 0 0, .string n.tx] 55)).alloc (.cells #[.int .i64 n.k, .int .i64 n.a, .int .i64 n.b, .string n.nm, .int .i64 n.vk, .int .i64 n.vi, .float .f64 n.rl, .complex .f64 0 0, .string n.tx] 55)).drew := by rw [hW1]
        rw [← hW1']
        have HP := Lib.hid (bx_drew hP)
        have HQ := Lib.hid (bx_drew hQ)
        have HBR1 := Lib.hid (HBR.out.trans ((hB1.drew).mono hwr))
        have hwz : wr.heap.size + 2 = W1.drew.heap.size := hs1.symm
        rename_i hHeld
        clear hHeld hW1' hW1 hP hQ hB1 hs1 a0 b0 x0 x1 x2 x3 x4 x5 x6 x7 x8 y0 y1 y2 y3 y4 y5 y6 y7 y8
        generalize W1.drew = WD at HP HQ HBR1 hwz ⊢
        generalize hQe : wr.heap.size + 1 = Q at HQ hwz ⊢
        generalize wr.heap.size = P at HP hwr hQe hwz ⊢
        have p0 := HP.out.c 0 rfl
        have p1 := HP.out.c 1 rfl
        have p2 := HP.out.c 2 rfl
        have p3 := HP.out.c 3 rfl
        have p4 := HP.out.c 4 rfl
        have p5 := HP.out.c 5 rfl
        have p6 := HP.out.c 6 rfl
        have p7 := HP.out.c 7 rfl
        have p8 := HP.out.c 8 rfl
        have q0 := HQ.out.c 0 rfl
        have q1 := HQ.out.c 1 rfl
        have q2 := HQ.out.c 2 rfl
        have q3 := HQ.out.c 3 rfl
        have q4 := HQ.out.c 4 rfl
        have q5 := HQ.out.c 5 rfl
        have q6 := HQ.out.c 6 rfl
        have q7 := HQ.out.c 7 rfl
        have q8 := HQ.out.c 8 rfl
        go_upto_region 7 with (fail)
        go_region_held3 (fun W => W.cell? ⟨P, 4, none⟩ = some (.int .i64 n.vk) ∧ W.cell? ⟨P, 5, none⟩ = some (.int .i64 n.vi) ∧ W.cell? ⟨P, 6, none⟩ = some (.float .f64 n.rl) ∧ W.cell? ⟨P, 7, none⟩ = some (.complex .f64 0 0) ∧ W.cell? ⟨P, 8, none⟩ = some (.string n.tx) ∧ W.cell? ⟨Q, 4, none⟩ = some (.int .i64 n.vk) ∧ W.cell? ⟨Q, 5, none⟩ = some (.int .i64 n.vi) ∧ W.cell? ⟨Q, 6, none⟩ = some (.float .f64 n.rl) ∧ W.cell? ⟨Q, 7, none⟩ = some (.complex .f64 0 0) ∧ W.cell? ⟨Q, 8, none⟩ = some (.string n.tx))
          (first | (refine ⟨?_, ?_, ?_, ?_, ?_, ?_, ?_, ?_, ?_, ?_⟩ <;> assumption) | go_keep)
          (fail)
      all_goals
        obtain ⟨W2, hW2, hV, hU, hB2, hs2⟩ := new2 WD 53 [.int .i64 n.vk, .int .i64 n.vi, .float .f64 n.rl, .complex .f64 0 0, .string n.tx] [.int .i64 n.vk, .int .i64 n.vi, .float .f64 n.rl, .complex .f64 0 0, .string n.tx]
        have hW2' : W2.drew = ((WD.alloc (.cells #[.int .i64 n.vk, .int .i64 n.vi, .float .f64 n.rl, .complex .f64 0 0, .string n.tx] 53)).alloc (.cells #[.int .i64 n.vk, .int .i64 n.vi, .float .f64 n.rl, .complex .f64 0 0, .string n.tx] 53)).drew := by rw [hW2]
        rw [← hW2']
        have HV := Lib.hid (bx_drew hV)
        have HU := Lib.hid (bx_drew hU)
        have hB2d := hB2.drew
        have HP2 := Lib.hid (HP.out.keep hB2d HP.out.lt)
        have HQ2 := Lib.hid (HQ.out.keep hB2d HQ.out.lt)
        have HBR2 := Lib.hid (HBR1.out.trans (hB2d.mono (by omega)))
        rename_i hHeld
        clear hHeld hW2' hW2 hV hU hB2 hB2d hs2 p0 p1 p2 p3 p4 p5 p6 p7 p8 q0 q1 q2 q3 q4 q5 q6 q7 q8
        generalize W2.drew = WE at HV HU HP2 HQ2 HBR2 ⊢
        generalize WD.heap.size + 1 = U at HU ⊢
        generalize WD.heap.size = V at HV hwz ⊢
        have p0 := HP2.out.c 0 rfl
        have p1 := HP2.out.c 1 rfl
        have p2 := HP2.out.c 2 rfl
        have p3 := HP2.out.c 3 rfl
        have q0 := HQ2.out.c 0 rfl
        have q1 := HQ2.out.c 1 rfl
        have q2 := HQ2.out.c 2 rfl
        have q3 := HQ2.out.c 3 rfl
        have v0 := HV.out.c 0 rfl
        have v1 := HV.out.c 1 rfl
        have v2 := HV.out.c 2 rfl
        have v3 := HV.out.c 3 rfl
        have v4 := HV.out.c 4 rfl
        have u0 := HU.out.c 0 rfl
        have u1 := HU.out.c 1 rfl
        have u2 := HU.out.c 2 rfl
        have u3 := HU.out.c 3 rfl
        have u4 := HU.out.c 4 rfl
        have hud : undef = .tuple #[] := rfl
        go_wp2
        exact ⟨⟨k + 1, by go_num, HLT.out, HBR2⟩, by have := HLT.out; simp [intOf]; omega⟩
    · obtain rfl : k = N := by omega
      have HBR2 := HBR
      go_wp2
      go_ret
      exact ⟨rfl, HBW.out.trans (HBR2.out.mono (by omega))⟩
end Go.Proofs.YtddeoemkjedonaaDoor
