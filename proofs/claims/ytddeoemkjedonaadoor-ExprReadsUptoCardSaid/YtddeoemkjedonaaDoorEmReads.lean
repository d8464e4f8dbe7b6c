/- ExprReads. -/
import Derived.Test.YtddeoemkjedonaaDoorEmToks
import Derived.Test.YtddeoemkjedonaaDoorElSame
namespace Go.Proofs.YtddeoemkjedonaaDoor
open Go.RowKit Go.Shelf
set_option maxRecDepth 100000

theorem rdR_one {L : List TokE} {k : Nat} {o o' : Option Ex} {a a' f f' : Int} (h : RdR L k o a f) (h' : RdR L k o' a' f') : o = o' ∧ a = a' ∧ f = f' := by
  rcases h with ⟨q, h1, rfl, rfl, rfl⟩ | ⟨t, q, h1, hf, rfl, rfl, rfl⟩ | ⟨t, q, h1, hf, rfl, rfl, rfl⟩ <;>
  rcases h' with ⟨q', h2, rfl, rfl, rfl⟩ | ⟨t', q', h2, hf', rfl, rfl, rfl⟩ | ⟨t', q', h2, hf', rfl, rfl, rfl⟩ <;>
  (have e := h1.one h2
   first
   | (simp only [reduceCtorEq] at e; done)
   | (simp only [Rs.bad.injEq, Rs.ok.injEq] at e
      try (first | (obtain ⟨rfl, h3⟩ := e) | subst e)
      first | exact ⟨rfl, rfl, rfl⟩ | (subst h3; exact ⟨rfl, rfl, rfl⟩) | (exfalso; omega) | contradiction))
theorem rdR_some {L : List TokE} {k : Nat} {t : Ex} {a f : Int} (h : RdR L k (some t) a f) : WfT t ∧ cnt t ≤ 64 := by
  rcases h with ⟨q, h1, h, _⟩ | ⟨t, q, h1, hq, h, _⟩ | ⟨t', q, h1, hf, h, _⟩
  · cases h
  · cases h
  · cases h
    refine ⟨h1.wf (by omega), ?_⟩
    rcases faultT_cases t with ⟨_, h, _⟩ | h | h
    · exact h
    · omega
    · omega
/-- an answer in memory: none, or the nodes of what was read -/
def AnsR (L : List TokE) (fi : Int) (ad : Option Addr) (m : Nat) (a f : Int) (lo : Nat) (w1 : World) : Prop :=
  (ad = none ∧ m = 0 ∧ ((outR L.length fi ∧ a = 0 ∧ f = 2) ∨ (∃ k : Nat, fi = k ∧ k ≤ L.length ∧ RdR L k none a f))) ∨
  (∃ (k : Nat) (t : Ex) (g : Nat), ad = some ⟨g, 0, none⟩ ∧ m = cnt t ∧ f = 0 ∧ fi = k ∧ k ≤ L.length ∧ RdR L k (some t) a 0 ∧ lo ≤ g ∧ g < w1.heap.size ∧ NodesAt w1 g (lay 0 t))
def AnsP (L : List TokE) (fi : Int) (w : World) (e : Ending) (w1 : World) : Prop :=
  ∃ ad m c a f, e = .returned (.tuple #[.agg #[.slice ad m c], .int .i64 a, .int .i64 f]) ∧ (ad = none → c = 0) ∧ AnsR L fi ad m a f w.heap.size w1 ∧ Below w.heap.size w w1
theorem ansP_arg {L : List TokE} {fi : Int} {w w1 : World} {e : Ending} (ho : outR L.length fi) (h : RArg w e w1) : AnsP L fi w e w1 :=
  ⟨none, 0, 0, 0, 2, h.1, fun _ => rfl, .inl ⟨rfl, rfl, .inl ⟨ho, rfl, rfl⟩⟩, h.2⟩
theorem ansP_in {L : List TokE} {k : Nat} {w w1 : World} {e : Ending} (hk : k ≤ L.length) (h : ReadD L k w e w1) : AnsP L (k : Nat) w e w1 := by
  obtain ⟨hc, hb⟩ := h
  rcases hc with ⟨a, f, h1, rfl⟩ | ⟨t, g, c, a, h1, rfl, h2, h3, h4⟩
  · exact ⟨none, 0, 0, a, f, rfl, fun _ => rfl, .inl ⟨rfl, rfl, .inr ⟨k, rfl, hk, h1⟩⟩, hb⟩
  · exact ⟨some ⟨g, 0, none⟩, cnt t, c, a, 0, rfl, fun h => (by cases h), .inr ⟨k, t, g, rfl, rfl, rfl, rfl, hk, h1, h2, h3, h4⟩, hb⟩
theorem in_or_out (n : Nat) (fi : Int) : outR n fi ∨ ∃ k : Nat, fi = k ∧ k ≤ n := by
  unfold outR
  rcases Int.lt_or_le fi 0 with h | h
  · exact .inl (.inl h)
  · obtain ⟨k, rfl⟩ := Int.eq_ofNat_of_zero_le h
    rcases Nat.lt_or_ge n k with h2 | h2
    · exact .inl (.inr (by omega))
    · exact .inr ⟨k, rfl, h2⟩
theorem nodesr_blk {w w' : World} {g : Nat} {ns : List Nd} (h : NodesAt w g ns) (hk : w'.heap[g]? = w.heap[g]?) : NodesAt w' g ns := fun i j v hi hj => (World.cell?_of_block (a := ⟨g, i * 9 + j, none⟩) hk).trans (h i j v hi hj)
theorem AnsR.keep {L : List TokE} {fi : Int} {m lo : Nat} {ad : Option Addr} {a f : Int} {w1 w2 : World} (h : AnsR L fi ad m a f lo w1) (hb : Below w1.heap.size w1 w2) : AnsR L fi ad m a f lo w2 := by
  rcases h with h | ⟨k, t, g, h1, h2, h4, h5, h5', h6, h7, h8, h9⟩
  · exact .inl h
  · exact .inr ⟨k, t, g, h1, h2, h4, h5, h5', h6, h7, Nat.lt_of_lt_of_le h8 hb.size, nodesr_blk h9 (hb.block g h8)⟩
theorem AnsR.two {L : List TokE} {fi : Int} {m m' lo lo' : Nat} {ad ad' : Option Addr} {a f a' f' : Int} {w1 w2 : World} (h : AnsR L fi ad m a f lo w1) (h' : AnsR L fi ad' m' a' f' lo' w2) : a = a' ∧ f = f' ∧ m = m' := by
  have hno : ∀ k : Nat, fi = k → k ≤ L.length → ¬ outR L.length fi := fun k h1 h2 ho => by rcases ho with h | h <;> omega
  rcases h with ⟨_, rfl, h0⟩ | ⟨k, t, g, _, rfl, rfl, hk, hkl, hp, _⟩ <;> rcases h' with ⟨_, rfl, h1⟩ | ⟨k', t', g', _, rfl, rfl, hk', hkl', hp', _⟩
  · rcases h0 with ⟨hn, rfl, rfl⟩ | ⟨k, hz, hl, hp⟩ <;> rcases h1 with ⟨hn', rfl, rfl⟩ | ⟨k', hz', hl', hp'⟩
    · exact ⟨rfl, rfl, rfl⟩
    · exact absurd hn (hno k' hz' hl')
    · exact absurd hn' (hno k hz hl)
    · obtain rfl : k = k' := by omega
      obtain ⟨_, rfl, rfl⟩ := rdR_one hp hp'
      exact ⟨rfl, rfl, rfl⟩
  · rcases h0 with ⟨hn, _⟩ | ⟨k, hz, hl, hp⟩
    · exact absurd hn (hno k' hk' hkl')
    · obtain rfl : k = k' := by omega
      have := (rdR_one hp hp').1
      cases this
  · rcases h1 with ⟨hn, _⟩ | ⟨k', hz, hl, hp'⟩
    · exact absurd hn (hno k hk hkl)
    · obtain rfl : k = k' := by omega
      have := (rdR_one hp hp').1
      cases this
  · obtain rfl : k = k' := by omega
    obtain ⟨h1, h2, _⟩ := rdR_one hp hp'
    cases h1
    exact ⟨h2, rfl, rfl⟩
set_option maxHeartbeats 1000000 in
theorem rsame_none (w : World) : Calls Tryd.prog 7 #[.agg #[.slice none 0 0], .agg #[.slice none 0 0]] w fun e w' => e = .returned (.bool true) ∧ Below w.heap.size w w' := by
  obtain ⟨W0, hW0, ha, hb, hB, hsz⟩ := new2 w 27 [.slice none 0 0] [.slice none 0 0]
  have HW0 := Lib.hid hW0
  have HB := Lib.hid hB
  have a0 := ha.c 0 rfl
  have b0 := hb.c 0 rfl
  clear hW0 ha hb hB
  go_enter Tryd.func7, Tryd.ntmps7
  go_upto_region 1 with (fail)
  rw [← HW0.out]
  go_wp2
  go_loopw [5] (fun i wr => i = .int .i64 0 ∧ wr = W0) (fun _ _ => 0)
  case atStart => exact ⟨rfl, rfl⟩
  case round =>
    obtain ⟨rfl, rfl⟩ := hrel
    go_wp2
    go_ret
    exact ⟨rfl, HB.out⟩
theorem AnsR.same {L : List TokE} {fi : Int} {m lo lo' c c' : Nat} {ad ad' : Option Addr} {a f : Int} {w : World} (h : AnsR L fi ad m a f lo w) (h' : AnsR L fi ad' m a f lo' w) (hc : ad = none → c = 0) (hc' : ad' = none → c' = 0) :
    Calls Tryd.prog 7 #[.agg #[.slice ad m c], .agg #[.slice ad' m c']] w fun e w' => e = .returned (.bool true) ∧ Below w.heap.size w w' := by
  rcases h with ⟨rfl, rfl, h0⟩ | ⟨k, t, g, rfl, rfl, rfl, hk, hkl, hp, hlo, hg, hn⟩ <;> rcases h' with ⟨rfl, hm, h1⟩ | ⟨k', t', g', rfl, hm, _, hk', hkl', hp', hlo', hg', hn'⟩
  · rw [hc rfl, hc' rfl]
    exact rsame_none w
  · have := cnt_pos t'
    omega
  · have := cnt_pos t
    omega
  · obtain rfl : k = k' := by omega
    have he := (rdR_one hp hp').1
    cases he
    obtain ⟨hw, h64⟩ := rdR_some hp
    exact same_any (lay 0 t) g g' c c' (cnt t) (lay_len t 0) (by omega) (okN_lay t 0 hw) w hn hn' hg hg'
theorem order_self (b : Nat) : FloatKind.f64.format.order b b = some Ordering.eq ∨ FloatKind.f64.format.order b b = none := by
  show Ieee.double.order b b = _ ∨ Ieee.double.order b b = _
  cases hn : nanB b with
  | true => exact .inr (order_nan_l _ _ hn)
  | false =>
    refine .inl ?_
    rw [order_key _ _ hn hn, show compare (keyI b) (keyI b) = .eq from by simp]
set_option maxHeartbeats 4000000 in
theorem reads_walk (a : Option Addr) (cap : Nat) (fi : Int) (L : List TokE) (w : World) (hT : Toks w a L) (low : ∀ x, a = some x → ∀ n, (x.add n).block < w.heap.size) (hlen : L.length ≤ 1000000) (hR : ∀ i, (L.getD i default).rl < 18446744073709551616) (hS : ∀ i, (L.getD i default).tx.size ≤ 140737488351232) (hTab : Tab w) (hgs : 0 < w.heap.size) :
    Calls Tryd.prog 3 #[.slice a L.length cap, .int .i64 fi] w fun e w' => e = .returned (.bool true) ∧ Below w.heap.size w w' := by
  have HTC := Lib.hid (etokens_any a cap L w hT low hlen)
  have HT := Lib.hid hT
  have HLW := Lib.hid low
  have HR := Lib.hid hR
  have HS := Lib.hid hS
  have sf := store_float
  have HTab := Lib.hid hTab
  obtain ⟨N, hN⟩ : ∃ N, N = L.length := ⟨_, rfl⟩
  have HN := Lib.hid hN
  rw [← hN] at hlen
  rw [← hN]
  unfold ToksD at HTC
  rw [← hN] at HTC
  clear hT low hR hS hTab hN
  go_enter Tryd.func3, Tryd.ntmps3
  go_upto_region 2 with (go_at_call 4; refine HTC.out.mono ?_; rintro e w1 ⟨g, c, rfl, hc1, hc2, hg1, hg2, hown, hb1⟩; have HOW := Lib.hid hown; have HB1 := Lib.hid hb1; have HG := Lib.hid (And.intro hg1 (And.intro hg2 hc2)); clear hown hb1 hc2)
  obtain ⟨hct, hcm⟩ := toks_copy (by rw [← HN.out]) HOW.out
  rw [← HN.out] at hcm
  have HP1 : Hid (Calls Tryd.prog 5 #[.slice (some ⟨g, 0, none⟩) N c, .int .i64 fi] w1 (AnsP L fi w1)) := Lib.hid (by
    rw [HN.out]
    rcases in_or_out L.length fi with ho | ⟨k, rfl, hk⟩
    · exact (read_arg _ _ _ _ _ ho).mono (fun e w' h => ansP_arg ho h)
    · exact (read_any _ _ _ _ _ hk hct (fun x hx n => by cases hx; rw [show ((⟨g, 0, none⟩ : Addr).add n).block = g by unfold Addr.add; split <;> rfl]; exact hg2) (by rw [← HN.out]; exact hlen) HR.out (HTab.out.of_block (HB1.out.block _ hgs)) (by omega)).mono (fun e w' h => ansP_in hk h))
  have HCT := Lib.hid hct
  have HCM := Lib.hid hcm
  clear hct hcm
  go_upto_region 3 with (go_at_call 5; refine HP1.out.mono ?_; rintro e w3 ⟨ad, m, ec, at_, fl, rfl, hec, hans, hb3⟩; have HA1 := Lib.hid hans; have HB3 := Lib.hid hb3; clear hans hb3)
  obtain ⟨W3, hW3⟩ : ∃ W3, W3 = w3.alloc (.cells #[.slice ad m ec] 27) := ⟨_, rfl⟩
  have hb33 : Below w3.heap.size w3 W3 := by rw [hW3]; exact (Below.refl _ w3).alloc (Nat.le_refl _) _
  have hx3 : Bx W3 w3.heap.size 27 [.slice ad m ec] := by rw [hW3]; exact Bx.new w3 27 [.slice ad m ec]
  have hz3 : W3.heap.size = w3.heap.size + 1 := by rw [hW3]; simp
  rw [← hW3]
  have HA3 := Lib.hid (HA1.out.keep hb33)
  have HX3 := Lib.hid hx3
  have HB13 := Lib.hid (HB3.out.trans (hb33.mono HB3.out.size))
  have HBW3 := Lib.hid (HB1.out.trans (HB13.out.mono HB1.out.size))
  have h13 := HB3.out.size
  have hE1 : w1.heap.size ≤ w3.heap.size := h13
  generalize w3.heap.size = E at HX3 hz3 hE1 ⊢
  clear hW3 hb33 hx3 h13
  have HP2 : Hid (Calls Tryd.prog 6 #[.slice a N cap, .int .i64 fi] W3 (AnsP L fi W3)) := Lib.hid (by
    rw [HN.out]
    have hz := HBW3.out.size
    rcases in_or_out L.length fi with ho | ⟨k, rfl, hk⟩
    · exact (rread_arg _ _ _ _ _ ho).mono (fun e w' h => ansP_arg ho h)
    · exact (rread_any _ _ _ _ _ hk (rtoks_blk HT.out (fun x hx n => HBW3.out.block _ (HLW.out x hx n))) (fun x hx n => by have := HLW.out x hx n; omega) (by rw [← HN.out]; exact hlen) HR.out HS.out).mono (fun e w' h => ansP_in hk h))
  go_upto_region 4 with (go_at_call 6; refine HP2.out.mono ?_; rintro e w4 ⟨ad', m', ec', at', fl', rfl, hec', hans, hb4⟩; have HA2 := Lib.hid hans; have HB4 := Lib.hid hb4; clear hans hb4)
  obtain ⟨rfl, rfl, rfl⟩ := HA3.out.two HA2.out
  obtain ⟨W4, hW4⟩ : ∃ W4, W4 = w4.alloc (.cells #[.slice ad' m ec'] 27) := ⟨_, rfl⟩
  have hb44 : Below w4.heap.size w4 W4 := by rw [hW4]; exact (Below.refl _ w4).alloc (Nat.le_refl _) _
  have hx4 : Bx W4 w4.heap.size 27 [.slice ad' m ec'] := by rw [hW4]; exact Bx.new w4 27 [.slice ad' m ec']
  rw [← hW4]
  have hb34 := HB4.out.trans (hb44.mono HB4.out.size)
  have HA4 := HA3.out.keep hb34
  have HC4 := HA2.out.keep hb44
  have HSM := Lib.hid (HA4.same HC4 hec hec')
  have HBW4 := Lib.hid (HBW3.out.trans (hb34.mono HBW3.out.size))
  have HB14 := Lib.hid (HB13.out.trans (hb34.mono (by have := HB13.out.size; exact this)))
  have e0 := (HX3.out.keep hb34 HX3.out.lt).c 0 rfl
  have f0 := hx4.c 0 rfl
  generalize w4.heap.size = F at f0 ⊢
  clear hW4 hb44 hx4 hb34 HA4 HC4
  have m0 : W4.cell? ⟨g, N * 6, none⟩ = some (.int .i64 (-7)) := (HB14.out.cell (p := ⟨g, N * 6, none⟩) HG.out.2.1).trans HCM.out
  have hgl := HG.out.2.1
  go_upto_region 6 with (go_at_call 7; refine HSM.out.mono ?_; rintro e w5 ⟨rfl, hb5⟩; have HB15 := Lib.hid (HB14.out.trans (hb5.mono HB14.out.size)); have HBW5 := Lib.hid (HBW4.out.trans (hb5.mono HBW4.out.size)); have m5 := (HB15.out.cell (p := ⟨g, N * 6, none⟩) hgl).trans HCM.out; clear hb5)
  go_wp2
  clear e0 f0 m0 m5
  go_loopw [12] (fun iv wr => ∃ i : Nat, iv = .int .i64 i ∧ i ≤ N ∧ Hid (Below w5.heap.size w5 wr)) (fun iv _ => N - (intOf iv).toNat)
  case atStart => exact ⟨0, rfl, Nat.zero_le _, Lib.hid (Below.refl _ _)⟩
  case round =>
    obtain ⟨i, rfl, hi, HBR⟩ := hrel
    rcases Nat.lt_or_ge i N with hlt | hge
    · have hil : i < L.length := by have := HN.out; omega
      obtain ⟨y, hy, u0, u1, u2, u3, u4, u5⟩ := HCT.out i hil
      cases hy
      have hadd : (⟨g, 0, none⟩ : Addr).add (i * 6) = ⟨g, i * 6, none⟩ := by unfold Addr.add; split <;> simp_all
      rw [hadd] at u0 u1 u2 u3 u4 u5
      simp only at u0 u1 u2 u3 u4 u5
      obtain ⟨x, hax, t0, t1, t2, t3, t4, t5⟩ := HT.out i hil
      have hl := HLW.out x hax (i * 6)
      subst hax
      generalize L.getD i default = t at u0 u1 u2 u3 u4 u5 t0 t1 t2 t3 t4 t5
      have h15 := HB15.out.size
      have hg5 : g < w5.heap.size := by omega
      have hw5 := HBW5.out.size
      have hx5 : (x.add (i * 6)).block < w5.heap.size := by omega
      have v0 := ((HBR.out.cell (p := ⟨g, _, none⟩) hg5).trans (HB15.out.cell (p := ⟨g, _, none⟩) hgl)).trans u0
      have v1 := ((HBR.out.cell (p := ⟨g, _, none⟩) hg5).trans (HB15.out.cell (p := ⟨g, _, none⟩) hgl)).trans u1
      have v2 := ((HBR.out.cell (p := ⟨g, _, none⟩) hg5).trans (HB15.out.cell (p := ⟨g, _, none⟩) hgl)).trans u2
      have v3 := ((HBR.out.cell (p := ⟨g, _, none⟩) hg5).trans (HB15.out.cell (p := ⟨g, _, none⟩) hgl)).trans u3
      have v4 := ((HBR.out.cell (p := ⟨g, _, none⟩) hg5).trans (HB15.out.cell (p := ⟨g, _, none⟩) hgl)).trans u4
      have v5 := ((HBR.out.cell (p := ⟨g, _, none⟩) hg5).trans (HB15.out.cell (p := ⟨g, _, none⟩) hgl)).trans u5
      have s0 := ((HBR.out.cell hx5).trans (HBW5.out.cell hl)).trans t0
      have s1 := ((HBR.out.cell (p := ⟨(x.add (i * 6)).block, _, none⟩) hx5).trans (HBW5.out.cell (p := ⟨(x.add (i * 6)).block, _, none⟩) hl)).trans t1
      have s2 := ((HBR.out.cell (p := ⟨(x.add (i * 6)).block, _, none⟩) hx5).trans (HBW5.out.cell (p := ⟨(x.add (i * 6)).block, _, none⟩) hl)).trans t2
      have s3 := ((HBR.out.cell (p := ⟨(x.add (i * 6)).block, _, none⟩) hx5).trans (HBW5.out.cell (p := ⟨(x.add (i * 6)).block, _, none⟩) hl)).trans t3
      have s4 := ((HBR.out.cell (p := ⟨(x.add (i * 6)).block, _, none⟩) hx5).trans (HBW5.out.cell (p := ⟨(x.add (i * 6)).block, _, none⟩) hl)).trans t4
      have s5 := ((HBR.out.cell (p := ⟨(x.add (i * 6)).block, _, none⟩) hx5).trans (HBW5.out.cell (p := ⟨(x.add (i * 6)).block, _, none⟩) hl)).trans t5
      have HLT := Lib.hid hlt
      have hzr := HBR.out.size
      have hod := order_self t.rl
      clear u0 u1 u2 u3 u4 u5 t0 t1 t2 t3 t4 t5 hadd hil h15
      go_upto_region 10 with (fail)
      obtain ⟨W1, hW1⟩ : ∃ W1, W1 = wr.alloc (.cells #[.int .i64 t.kd, .string t.tx, .int .i64 t.iv, .float .f64 t.rl, .int .i64 t.pl, .int .i64 t.sz] 35) := ⟨_, rfl⟩
      have hx1 : Bx W1 wr.heap.size 35 (tkC t) := by rw [hW1]; exact Bx.new wr _ (tkC t)
      have hb1 : Below wr.heap.size wr W1 := by rw [hW1]; exact (Below.refl _ wr).alloc (Nat.le_refl _) _
      rw [← hW1]
      have hxr : (x.add (i * 6)).block < wr.heap.size := by omega
      have r0 := (hb1.cell hxr).trans s0
      have r1 := (hb1.cell (p := ⟨(x.add (i * 6)).block, _, none⟩) hxr).trans s1
      have r2 := (hb1.cell (p := ⟨(x.add (i * 6)).block, _, none⟩) hxr).trans s2
      have r3 := (hb1.cell (p := ⟨(x.add (i * 6)).block, _, none⟩) hxr).trans s3
      have r4 := (hb1.cell (p := ⟨(x.add (i * 6)).block, _, none⟩) hxr).trans s4
      have r5 := (hb1.cell (p := ⟨(x.add (i * 6)).block, _, none⟩) hxr).trans s5
      have HX1 := Lib.hid hx1
      have HBR1 := Lib.hid (HBR.out.trans (hb1.mono hzr))
      have hz1 : W1.heap.size = wr.heap.size + 1 := by rw [hW1]; simp
      generalize wr.heap.size = P at HX1 hzr hz1 ⊢
      clear hx1 hb1 hW1 s0 s1 s2 s3 s4 s5 v0 v1 v2 v3 v4 v5 hxr
      go_upto_region 11 with (fail)
      obtain ⟨W2, hW2⟩ : ∃ W2, W2 = W1.alloc (.cells #[.int .i64 t.kd, .string t.tx, .int .i64 t.iv, .float .f64 t.rl, .int .i64 t.pl, .int .i64 t.sz] 36) := ⟨_, rfl⟩
      have hx2 : Bx W2 W1.heap.size 36 (tkC t) := by rw [hW2]; exact Bx.new W1 _ (tkC t)
      have hb2 : Below W1.heap.size W1 W2 := by rw [hW2]; exact (Below.refl _ W1).alloc (Nat.le_refl _) _
      rw [← hW2]
      have hx1' := HX1.out.keep hb2 HX1.out.lt
      have HBR2 := Lib.hid (HBR1.out.trans (hb2.mono (by omega)))
      rw [hz1] at hx2
      try rw [hz1]
      have p0 := hx1'.c 0 rfl
      have p1 := hx1'.c 1 rfl
      have p2 := hx1'.c 2 rfl
      have p3 := hx1'.c 3 rfl
      have p4 := hx1'.c 4 rfl
      have p5 := hx1'.c 5 rfl
      have q0 := hx2.c 0 rfl
      have q1 := hx2.c 1 rfl
      have q2 := hx2.c 2 rfl
      have q3 := hx2.c 3 rfl
      have q4 := hx2.c 4 rfl
      have q5 := hx2.c 5 rfl
      clear hx1' hx2 hb2 hW2 r0 r1 r2 r3 r4 r5 HX1
      rcases hod with hod | hod
      · have hud : undef = .tuple #[] := rfl
        go_wp2
        exact ⟨⟨i + 1, by go_num, HLT.out, HBR2⟩, by have := HLT.out; simp [intOf]; omega⟩
      · go_wp2
        exact ⟨⟨i + 1, by go_num, HLT.out, HBR2⟩, by have := HLT.out; simp [intOf]; omega⟩
    · obtain rfl : i = N := by omega
      have HBR2 := HBR
      have hw5 := HBW5.out.size
      go_wp2
      go_ret
      exact ⟨rfl, HBW5.out.trans (HBR2.out.mono hw5)⟩
end Go.Proofs.YtddeoemkjedonaaDoor
