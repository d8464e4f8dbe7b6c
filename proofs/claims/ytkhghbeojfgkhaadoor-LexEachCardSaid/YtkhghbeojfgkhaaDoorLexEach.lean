/- LexEach. -/
import Derived.Test.YtkhghbeojfgkhaaDoorEach
namespace Go.Proofs.YtkhghbeojfgkhaaDoor
open Go.RowKit Go.Shelf
attribute [local go_sem] Oper.semAt_some
set_option maxRecDepth 100000

/-- how many things a text's sequence tells, and how many of them the first loop has seen -/
def Seen (most : Int) (k T : Nat) : Prop := (0 < most ∧ most < T ∧ (k : Int) = most) ∨ (¬ (0 < most ∧ most < T) ∧ k = T)

theorem Boxed.below {W W' : World} {B : Nat} {t : TypeId} {v : Value} (h : Boxed W B t v) (hb : Below W.heap.size W W') : Boxed W' B t v := (hb.block B h.lt).trans h

/-- what a round leaves behind it -/
def EI (nb : Nat) (w8 : World) (most : Int) (pre : List (Tok × Nat)) (W : World) : Prop :=
  (most ≤ 0 ∨ (pre.length : Int) < most) ∧ Boxed W nb 3 (.int .i64 pre.length) ∧ Below nb w8 W
/-- and where it leaves -/
def EX (nb : Nat) (w8 : World) (most : Int) (TT : List (Tok × Nat)) (c : Code) (pre : List (Tok × Nat)) (W : World) : Prop :=
  (c = .exit 0 ∧ (0 < pre.length ∧ (pre.length : Int) = most) ∧ Boxed W nb 3 (.int .i64 pre.length) ∧ Below nb w8 W) ∨ (c = .ret ∧ ¬ pre <+: TT)
theorem ex_own {nb : Nat} {w8 : World} {most : Int} {TT : List (Tok × Nat)} {B : Nat} (hB : nb ≤ w8.heap.size ∧ nb ≤ B) (c : Code) : OwnFrom B (EX nb w8 most TT c) := by
  rintro pre X Y row (⟨h1, h2, h3, h4⟩ | h) hg hr
  · exact .inl ⟨h1, h2, (Own.from (boxed_own (β := Unit) nb 3 (fun _ => .int .i64 pre.length)) B) () X Y row h3 hg hr, ownFrom_below (β := Unit) hB.1 hB.2 () X Y row h4 hg hr⟩
  · exact .inr h
/-- the second time round -/
def EI2 (nb D : Nat) (w8 : World) (pre : List (Tok × Nat)) (W : World) : Prop :=
  Boxed W nb 3 (.int .i64 pre.length) ∧ Below nb w8 W ∧ W.heap[D]? = some (.deferred (some []))
def EX2 (TT : List (Tok × Nat)) (c : Code) (pre : List (Tok × Nat)) (_ : World) : Prop := c = .ret ∧ ¬ pre <+: TT
theorem ei2_own {nb D B : Nat} {w8 : World} (h8 : nb ≤ w8.heap.size) (hB : nb ≤ B) (hD : D < B) : OwnFrom B (EI2 nb D w8) := by
  rintro pre X Y row ⟨h1, h2, h3⟩ hg hr
  refine ⟨(Own.from (boxed_own (β := Unit) nb 3 (fun _ => .int .i64 pre.length)) B) () X Y row h1 hg hr, ownFrom_below (β := Unit) h8 hB () X Y row h2 hg hr, ?_⟩
  refine (hg.block D (Array.getElem?_eq_some_iff.1 h3).1 (fun e => ?_)).trans h3
  have := (hr D e.symm).1
  omega
theorem blk_kept (x : Tok × Nat) {Bx : Nat} {X Y : World} {row : Option Nat} (h : X.heap[Bx]? = some (.cells (tokCells x.1).toArray 40 (0, 0))) (hg : X.grownBy Y row) (hr : ∀ r, row = some r → ∃ o : Obj, X.heap[r]? = some o ∧ o.isCells = false) :
    Y.heap[Bx]? = some (.cells (tokCells x.1).toArray 40 (0, 0)) := by
  refine (hg.block Bx (Array.getElem?_eq_some_iff.1 h).1 (fun e => ?_)).trans h
  obtain ⟨o, ho, hc⟩ := hr Bx e.symm
  rw [h] at ho; cases ho; cases hc
theorem pre_at {pre TT : List (Tok × Nat)} {x : Tok × Nat} (h : pre ++ [x] <+: TT) : TT[pre.length]? = some x := by
  obtain ⟨r, rfl⟩ := h
  simp
theorem kq_set {nb : Nat} {W : World} {v : Int} (h : Boxed W nb 3 (.int .i64 v)) (v' : Int) : Kq (fun k => k = nb) nb W (W.setCell ⟨nb, 0, none⟩ (.int .i64 v')) := by
  refine ⟨by simp, fun k o hk _ hw _ => (Below.heap_setCell _ _ _ k hw).trans hk, .inl ?_⟩
  have h1 : rowOf nb W = none := by unfold rowOf; rw [h.cell]; rfl
  have h2 : rowOf nb (W.setCell ⟨nb, 0, none⟩ (.int .i64 v')) = none := by unfold rowOf; rw [(h.set (.int .i64 v')).cell]; rfl
  rw [h1, h2]
theorem kq_nb {nb : Nat} {w8 W : World} {v v' : Int} (hz : w8.heap.size = nb + 1) (hb : Below nb w8 W) (h : Boxed w8 nb 3 (.int .i64 v)) (h' : Boxed W nb 3 (.int .i64 v')) : Kq (fun k => k = nb) nb w8 W := by
  refine ⟨hb.size, fun k o hk _ hw _ => ?_, .inl ?_⟩
  · have := (Array.getElem?_eq_some_iff.1 hk).1
    have hne : k ≠ nb := hw
    exact (hb.block k (by omega)).trans hk
  · have h1 : rowOf nb w8 = none := by unfold rowOf; rw [h.cell]; rfl
    have h2 : rowOf nb W = none := by unfold rowOf; rw [h'.cell]; rfl
    rw [h1, h2]
theorem frame_of {F : Fence} {n : Nat} {P : Program} {c : Code} {Q : Exit → Act → World → Prop} {a : Act} {w : World} (h : ∀ FR, FR = a.tmps → c.wpIn F n P Q { tmps := FR, defers := a.defers } w) : c.wpIn F n P Q a w := h _ rfl
theorem keeps_below {B C : Nat} {W W' : World} (h : Below C W W') (hC : W.heap.size ≤ C) : KeepsFrom B W W' := ⟨h.size, fun k o _ hk _ => (h.block k (by have := (Array.getElem?_eq_some_iff.1 hk).1; omega)).trans hk⟩

set_option maxHeartbeats 8000000 in
theorem each_in (m : Nat) (a : Option Addr) (n cap : Nat) (l : List UInt8) (most : Int) (w : World) (hm : 5 ≤ m) (hmo : -9223372036854775808 ≤ most ∧ most ≤ 9223372036854775807) (hG : Glob w) (ht : Txt w a n cap l) (hr : n ≤ 140737488351232) :
    CallsIn Fence.wide m Tryd.prog 4 #[.slice a n cap, .int .i64 most] w fun e W' => e = .returned (.bool true) ∧ Below w.heap.size w W' := by
  have h1 : 1 ≤ m := by omega
  have HT := Lib.hid ht
  have HG := Lib.hid hG
  clear ht hG
  obtain ⟨w0, hw0⟩ : ∃ w0, w0 = w.alloc (.cells #[.int .i64 most] 3) := ⟨_, rfl⟩
  obtain ⟨w1, hw1⟩ : ∃ w1, w1 = w0.alloc (.cells #[.bool false] 4) := ⟨_, rfl⟩
  have z0 : w0.heap.size = w.heap.size + 1 := by rw [hw0]; simp
  have z1 : w1.heap.size = w.heap.size + 2 := by rw [hw1]; simp [z0]
  have hb1 : Below w.heap.size w w1 := by rw [hw1, hw0]; exact ((Below.refl _ w).alloc (Nat.le_refl _) _).alloc (by simp) _
  have bm1 : Boxed w1 w.heap.size 3 (.int .i64 most) := by rw [hw1, hw0]; exact (Boxed.new w _ _).alloc _
  have br1 : Boxed w1 (w.heap.size + 1) 4 (.bool false) := by rw [hw1, ← z0]; exact Boxed.new w0 _ _
  have hE1 : (w.alloc (.cells #[.int .i64 most] 3)).alloc (.cells #[.bool false] 4) = w1 := by rw [hw1, hw0]
  have HB1 := Lib.hid hb1
  have HM1 := Lib.hid bm1
  have HR1 := Lib.hid br1
  have HE1 := Lib.hid hE1
  have HZ1 := Lib.hid z1
  clear hb1 bm1 br1 hE1 z1 z0 hw0 hw1
  refine callsIn_of_wp_marks Tryd.func4 rfl trivial ?_ rfl
  simp only [Tryd.ntmps4, List.size_toArray, List.length_cons, List.length_nil, Nat.reduceAdd, Nat.reduceSub, Array.replicate_succ, Array.replicate_zero, List.push_toArray, List.append_toArray, List.nil_append, List.cons_append]
  gi_wp2_with fail
  rw [HE1.out]
  refine ⟨trivial, ?_⟩
  refine (callsIn_wide.2 (lent_any a n cap l w1 (HT.out.below HB1.out (Nat.le_refl _)) hr)).mono ?_
  rintro e w2 ⟨g, c, rfl, hc, hg, hown, hb2⟩
  have HH2 : Hid (HeldB w1 w2 g c n l) := Lib.hid ⟨HT.out.1, hown, hb2⟩
  clear hown hb2
  have hb02 : Below w.heap.size w w2 := HB1.out.trans (HH2.out.2.2.mono HB1.out.size)
  have HB2 := Lib.hid hb02
  clear hb02
  gi_wp2_with fail
  refine ⟨trivial, ?_⟩
  refine (callsIn_wide.2 (refScan_any a n cap l w2 (HT.out.below HB2.out (Nat.le_refl _)) hr)).mono ?_
  rintro e w3 ⟨hb3, vw, rfl, ho3⟩
  obtain ⟨va, vc, rfl⟩ := form6 ho3
  have HH3 := Lib.hid (HH2.out.below hb3)
  have HB3 := Lib.hid (HB2.out.trans (hb3.mono HB2.out.size))
  have HV3 := Lib.hid (rowIs_own rfl ho3)
  obtain ⟨⟨xs, P, E⟩, hall⟩ : ∃ r, r = allR l := ⟨_, rfl⟩
  rw [← hall] at HV3 ho3 ⊢
  simp only at HV3 ho3 ⊢
  have hT : allF l = toldR (xs, P, E) := by rw [hall]; exact same_all l
  have hlen : xs.length ≤ 32769 := by
    have := allF_len l
    rw [hT] at this
    unfold toldR at this
    simp at this
    omega
  obtain ⟨N, hN⟩ : ∃ N, N = xs.length := ⟨_, rfl⟩
  rw [← hN] at hlen ⊢
  have HN := Lib.hid hN
  have HTO := Lib.hid hT
  clear hT hN hall ho3 hb3
  obtain ⟨w4, hw4⟩ : ∃ w4, w4 = w3.alloc (.cells #[.slice va N vc] 28) := ⟨_, rfl⟩
  obtain ⟨w5, hw5⟩ : ∃ w5, w5 = w4.alloc (.cells #[.int .i64 P] 3) := ⟨_, rfl⟩
  obtain ⟨w6, hw6⟩ : ∃ w6, w6 = w5.alloc (.cells #[.int .i64 E] 25) := ⟨_, rfl⟩
  have z4 : w4.heap.size = w3.heap.size + 1 := by rw [hw4]; simp
  have z5 : w5.heap.size = w3.heap.size + 2 := by rw [hw5]; simp [z4]
  have z6 : w6.heap.size = w3.heap.size + 3 := by rw [hw6]; simp [z5]
  have hb6 : Below w3.heap.size w3 w6 := by rw [hw6, hw5, hw4]; exact (((Below.refl _ w3).alloc (Nat.le_refl _) _).alloc (by simp) _).alloc (by simp; omega) _
  have bv6 : Boxed w6 w3.heap.size 28 (.slice va N vc) := by rw [hw6, hw5, hw4]; exact ((Boxed.new w3 _ _).alloc _).alloc _
  have bp6 : Boxed w6 (w3.heap.size + 1) 3 (.int .i64 P) := by rw [hw6, hw5, ← z4]; exact (Boxed.new w4 _ _).alloc _
  have be6 : Boxed w6 (w3.heap.size + 2) 25 (.int .i64 E) := by rw [hw6, ← z5]; exact Boxed.new w5 _ _
  have hE6 : ((w3.alloc (.cells #[.slice va N vc] 28)).alloc (.cells #[.int .i64 P] 3)).alloc (.cells #[.int .i64 E] 25) = w6 := by rw [hw6, hw5, hw4]
  have HE6 := Lib.hid hE6
  have HH6 := Lib.hid (HH3.out.below hb6)
  have HB6 := Lib.hid (HB3.out.trans (hb6.mono HB3.out.size))
  have HV6 := Lib.hid (HV3.out.below hb6 (Nat.le_refl _))
  have BV6 := Lib.hid bv6
  have BP6 := Lib.hid bp6
  have BE6 := Lib.hid be6
  have HZ6 := Lib.hid z6
  clear hw4 hw5 hw6 z4 z5 z6 hb6 bv6 bp6 be6 hE6
  gi_wp2_with fail
  rw [HE6.out]
  refine ⟨trivial, ?_⟩
  refine (callsIn_wide.2 (each_any _ n c l w6 HH6.out.txt hr)).mono ?_
  rintro e w7 ⟨Bn, a', n', c', rfl, hbn, htx, hbn2, hb7⟩
  have HH7 := Lib.hid (HH6.out.below hb7)
  have HB7 := Lib.hid (HB6.out.trans (hb7.mono HB6.out.size))
  have HV7 := Lib.hid (HV6.out.below hb7 (Nat.le_refl _))
  have BV7 := Lib.hid (Boxed.below BV6.out hb7)
  have BP7 := Lib.hid (Boxed.below BP6.out hb7)
  have BE7 := Lib.hid (Boxed.below BE6.out hb7)
  have BN7 := Lib.hid hbn
  have HX7 := Lib.hid htx
  clear hbn htx hb7
  have sf : ∀ (p : Addr) (b : Nat) (mo : Mode) (w' : World), (store p (.float .f64 b) mo).run Tryd.prog w' = stored Tryd.prog w' p (.float .f64 b) mo := fun p b mo w' => run_store _ w' p _ mo rfl
  have hnil : ∀ (bs : Array Value) (w' : World), (binOp BinOp.eql 36 (.func (.func 31) #[] bs) .nilFunc).run Tryd.prog w' = .ok (.bool false) w' := fun _ _ => rfl
  obtain ⟨nb, hnb⟩ : ∃ nb, nb = w7.heap.size := ⟨_, rfl⟩
  obtain ⟨w8, hw8⟩ : ∃ w8, w8 = w7.alloc (.cells #[.int .i64 0] 3) := ⟨_, rfl⟩
  have hz8 : w8.heap.size = nb + 1 := by rw [hw8, hnb]; simp
  have hb8 : Below w7.heap.size w7 w8 := by rw [hw8]; exact (Below.refl _ w7).alloc (Nat.le_refl _) _
  have bn8 : Boxed w8 nb 3 (.int .i64 0) := by rw [hw8, hnb]; exact Boxed.new w7 _ _
  have BM7 : Boxed w7 w.heap.size 3 (.int .i64 most) := Boxed.below HM1.out HH7.out.2.2
  have BR7 : Boxed w7 (w.heap.size + 1) 4 (.bool false) := Boxed.below HR1.out HH7.out.2.2
  have hBnlt : Bn < nb := by rw [hnb]; exact BN7.out.lt
  have hsz7 := HB7.out.size
  have hinv : ItInv nb nb (nb + 1) Bn 22 a' n' c' (l.take 32769) w8 := by
    refine ⟨HX7.out.below hb8 (Nat.le_refl _), ?_, (HG.out.below HB7.out (Nat.le_refl _)).below hb8 (Nat.le_refl _), ?_, Boxed.below BN7.out hb8, by omega, ?_⟩
    · rintro x rfl h0
      obtain ⟨b', o', e, hc⟩ := HX7.out.cellAt h0
      cases e
      rw [hnb]
      exact World.block_lt_of_cell? w7 _ hc
    · obtain ⟨⟨t1, p1, g1⟩, t2, p2, g2⟩ := HG.out
      have h1 := World.block_lt_of_cell? w _ g1
      have h2 := World.block_lt_of_cell? w _ g2
      simp only at h1 h2
      exact ⟨by omega, by omega⟩
    · intro g hg
      unfold rowOf at hg
      rw [bn8.cell] at hg
      cases hg
  have hst := tokens1_stops (m - 1) (fun k => k = nb) nb nb (nb + 1) Bn a' n' c' (l.take 32769) w8 (by omega) ldexpSaid hinv (fun k h => by omega) (by omega) (by omega) (by omega) (by omega)
  rw [allF_take, HTO.out] at hst
  obtain ⟨TT, hTT⟩ : ∃ TT, TT = toldR (xs, P, E) := ⟨_, rfl⟩
  rw [← hTT] at hst
  have hTl : TT.length = N + (if E = 0 then 0 else 1) := by
    rw [hTT, HN.out]
    unfold toldR
    simp only [List.length_append, List.length_map]
    split <;> rfl
  have hTl2 : TT.length ≤ N + 1 := by rw [hTl]; split <;> omega
  have HTT := Lib.hid hTT
  have HTL := Lib.hid hTl
  have HST := Lib.hid hst
  have H78 : Hid (Below nb w7 w8) := by rw [hnb]; exact Lib.hid hb8
  have HE8 : Hid (w7.alloc (.cells #[.int .i64 0] 3) = w8) := Lib.hid hw8.symm
  have HZ8 := Lib.hid hz8
  have HH8 := Lib.hid (HH7.out.below hb8)
  have HB8 := Lib.hid (HB7.out.trans (hb8.mono HB7.out.size))
  have HV8 := Lib.hid (HV7.out.below hb8 (Nat.le_refl _))
  have BV8 := Lib.hid (Boxed.below BV7.out hb8)
  have BP8 := Lib.hid (Boxed.below BP7.out hb8)
  have BE8 := Lib.hid (Boxed.below BE7.out hb8)
  have BM8 := Lib.hid (Boxed.below BM7 hb8)
  have BR8 := Lib.hid (Boxed.below BR7 hb8)
  have BX8 := Lib.hid (Boxed.below BN7.out hb8)
  have BN8 := Lib.hid bn8
  have HI8 := Lib.hid hinv
  have LV : w3.heap.size < nb := by rw [hnb]; exact BV7.out.lt
  have LP : w3.heap.size + 1 < nb := by rw [hnb]; exact BP7.out.lt
  have LE : w3.heap.size + 1 + 1 < nb := by rw [hnb]; exact BE7.out.lt
  have LM : w.heap.size < nb := by rw [hnb]; exact BM7.lt
  have LR : w.heap.size + 1 < nb := by rw [hnb]; exact BR7.lt
  have LG : g < nb := by rw [hnb]; exact HH7.out.lt.2
  have HNB := Lib.hid hnb
  clear hw8 hb8 bn8 hinv hst hTT hTl hz8 BM7 BR7 hsz7 hnb
  gi_wp2_with fail
  rw [HE8.out, ← HNB.out]
  refine wpIn_rangeFunc_ownH rfl h1 (gf := 31) (lb := #[.pointer (some ⟨Bn, 0, none⟩)]) rfl trivial (enters_of Tryd.func31 (by kernel_rfl) rfl)
    HST.out (fun h k => h.trans k) (Kq.put (by rw [HZ8.out]; omega)) (Below.refl _ _) (fun _ => rfl)
    (EI nb w8 most) (EX nb w8 most TT)
    (OwnFrom.and (ownFrom_pure _ _) (OwnFrom.and (Own.from (boxed_own _ _ _) _) (ownFrom_below (by rw [HZ8.out]; omega) (by rw [HZ8.out]; omega))))
    ?hIx ?h0
    (fun x a' W => ∃ Bx, nb < Bx ∧ W.heap[Bx]? = some (.cells (tokCells x.1).toArray 40 (0, 0)) ∧ a' = { tmps := #[.slice a n cap, .int .i64 most, undef, .pointer (some ⟨w.heap.size, 0, none⟩), .pointer (some ⟨w.heap.size + 1, 0, none⟩), .slice (some ⟨g, 0, none⟩) n c, .pointer (some ⟨w3.heap.size, 0, none⟩), .pointer (some ⟨w3.heap.size + 1, 0, none⟩), .pointer (some ⟨w3.heap.size + 1 + 1, 0, none⟩), .func (.func 31) #[] #[.pointer (some ⟨Bn, 0, none⟩)], .pointer (some ⟨nb, 0, none⟩), .pointer (some ⟨Bx, 0, none⟩), .int .i64 x.2, undef, undef, undef, .slice a n cap, .slice (some ⟨g, 0, none⟩) n c, .tuple #[.slice va N vc, .int .i64 P, .int .i64 E], .slice a n cap, .tuple #[.slice va N vc, .int .i64 P, .int .i64 E], .slice va N vc, .int .i64 P, .int .i64 E, .slice (some ⟨g, 0, none⟩) n c, .func (.func 31) #[] #[.pointer (some ⟨Bn, 0, none⟩)], .func (.func 31) #[] #[.pointer (some ⟨Bn, 0, none⟩)], .bool false, .func (.func 31) #[] #[.pointer (some ⟨Bn, 0, none⟩)], tokVal x.1, .int .i64 x.2, undef, undef, undef, undef, undef, undef, undef, undef, undef, undef, undef, undef, undef, undef, undef, undef, undef, undef, undef, undef, undef, undef, undef, undef, undef, undef, undef, undef, undef, undef, undef, undef, undef, undef, undef, undef, undef, undef, undef, undef, undef, undef, undef, undef, undef, undef, undef, undef, undef, undef, undef, undef, undef], defers := [] })
    (fun x a' _ X Y row hs hg hr => by obtain ⟨Bx, h1, h2, h3⟩ := hs; exact ⟨Bx, h1, blk_kept x h2 hg (fun r e => (hr r e).2), h3⟩)
    ?assign ?body ?done ?stop
  case hIx => exact ex_own (by rw [HZ8.out]; omega)
  case h0 => exact ⟨by simp only [List.length_nil]; omega, BN8.out, Below.refl _ _⟩
  case assign =>
    rintro lw pre ⟨⟨kd, tx, iv, rl, at_, sz⟩, er⟩ W K hI hK
    simp only [encT, tokVal]
    have HK := Lib.hid hK
    have HI := Lib.hid hI
    clear hK hI
    gi_wp2_with fail
    obtain ⟨hI1, hI2, hI3⟩ := HI.out
    have hlt2 := Boxed.lt hI2
    have hb := (Below.refl W.heap.size W).alloc (Nat.le_refl _) (.cells (tokCells ⟨kd, tx, iv, rl, at_, sz⟩).toArray 40)
    exact HK.out _ _ ((KeepsOthers.alloc _ _).from _) (Kq.of_below hb hlt2) ⟨hI1, hI2.alloc _, hI3.alloc (by omega) _⟩ ⟨W.heap.size, hlt2, heap_alloc_new W _, rfl⟩
  case body =>
    rintro lw pre ⟨⟨kd, tx, iv, rl, at_, sz⟩, er⟩ a' W hlw _ hI ⟨Bx, hBx1, hcx, rfl⟩ hlt
    obtain ⟨hI1, hI2, hI3⟩ := hI
    have hkN : pre.length ≤ N := by omega
    have x0 : W.cell? ⟨Bx, 0, none⟩ = some (.int .i64 kd) := by simp [World.cell?, hcx, tokCells]
    have x1 : W.cell? ⟨Bx, 1, none⟩ = some (.string ⟨tx.toArray⟩) := by simp [World.cell?, hcx, tokCells]
    have x2 : W.cell? ⟨Bx, 2, none⟩ = some (.int .i64 iv) := by simp [World.cell?, hcx, tokCells]
    have x3 : W.cell? ⟨Bx, 3, none⟩ = some (.float .f64 rl) := by simp [World.cell?, hcx, tokCells]
    have x4 : W.cell? ⟨Bx, 4, none⟩ = some (.int .i64 at_) := by simp [World.cell?, hcx, tokCells]
    have x5 : W.cell? ⟨Bx, 5, none⟩ = some (.int .i64 sz) := by simp [World.cell?, hcx, tokCells]
    have dn := Boxed.cell hI2
    have cq : ∀ b, b < nb → W.cell? ⟨b, 0, none⟩ = w8.cell? ⟨b, 0, none⟩ := fun b hb => hI3.cell (p := ⟨b, 0, none⟩) hb
    have dv := (cq _ LV).trans (Boxed.cell BV8.out)
    have dp := (cq _ LP).trans (Boxed.cell BP8.out)
    have de : W.cell? ⟨w3.heap.size + 1 + 1, 0, none⟩ = some (.int .i64 E) := (cq _ LE).trans (Boxed.cell BE8.out)
    have htold := told_any ⟨kd, tx, iv, rl, at_, sz⟩ er pre.length N P E vc w2.heap.size va xs W HN.out.symm hlen hkN (HV7.out.below (H78.out.trans hI3) (by rw [HNB.out]; exact Nat.le_refl _))
    rw [← HTT.out] at htold
    simp only [tokVal] at htold ⊢
    have HTD := Lib.hid htold
    have hI2' := Lib.hid hI2
    have hI3' := Lib.hid hI3
    have hlt2 := Boxed.lt hI2
    have HCX := Lib.hid hcx
    clear htold hI2 hI3 cq hcx
    gi_wp2_with fail
    refine ⟨trivial, fun _ => by omega, ?_⟩
    refine (CallsIn.inRound lw (callsIn_wide.2 HTD.out)).mono ?_
    rintro e W1 ⟨b, rfl, hb, hb1⟩
    have bn1 := Lib.hid (Boxed.below hI2'.out hb1)
    have HI1 := Lib.hid (hI3'.out.trans (hb1.mono (Nat.le_of_lt hlt2)))
    have HK1 : Hid (KeepsFrom w8.heap.size W W1) := Lib.hid (keeps_below hb1 (Nat.le_refl _))
    have HQ1 : Hid (Kq (fun k => k = nb) nb W W1) := Lib.hid (Kq.of_below hb1 hlt2)
    have HBB := Lib.hid hb
    clear hb1 hb x0 x1 x2 x3 x4 x5 dn dv dp de
    have dn := Boxed.cell bn1.out
    have fn := Boxed.frozen bn1.out
    have dm : W1.cell? ⟨w.heap.size, 0, none⟩ = some (.int .i64 most) := (HI1.out.cell (p := ⟨w.heap.size, 0, none⟩) LM).trans (Boxed.cell BM8.out)
    have dr : W1.cell? ⟨w.heap.size + 1, 0, none⟩ = some (.bool false) := (HI1.out.cell (p := ⟨w.heap.size + 1, 0, none⟩) LR).trans (Boxed.cell BR8.out)
    have fr : W1.frozen? ⟨w.heap.size + 1, 0, none⟩ = false := (HI1.out.frozen (p := ⟨w.heap.size + 1, 0, none⟩) LR).trans (Boxed.frozen BR8.out)
    cases b with
    | false =>
      have hno : ¬ pre ++ [((⟨kd, tx, iv, rl, at_, sz⟩ : Tok), er)] <+: TT := fun h => by have := HBB.out (pre_at h); cases this
      have HNO := Lib.hid hno
      clear hno
      gi_wp2_with fail
      exact ⟨HK1.out.trans ((KeepsOthers.setCell _ _ _).from _), .inr ⟨rfl, HNO.out⟩⟩
    | true =>
      have hpl : pre.length ≤ 32769 := by omega
      have HE : Hid (((pre ++ [((⟨kd, tx, iv, rl, at_, sz⟩ : Tok), er)]).length : Int) = (pre.length : Int) + 1) := Lib.hid (by simp)
      by_cases hmx : ((pre.length : Int) + 1) = most
      · have tmx : (((pre.length : Int) + 1) == most) = true := by simpa using hmx
        have HMX := Lib.hid hmx
        clear hmx
        gi_wp2_with fail
        refine ⟨HK1.out.trans ((KeepsOthers.setCell _ _ _).from _), .inl ⟨rfl, ⟨by simp, by rw [HE.out]; exact HMX.out⟩, ?_, HI1.out.setCell (p := ⟨nb, 0, none⟩) (Nat.le_refl _) _⟩⟩
        rw [HE.out]
        exact Boxed.set _ bn1.out
      · have tmx : (((pre.length : Int) + 1) == most) = false := by simpa using hmx
        have HMX := Lib.hid hmx
        clear hmx
        gi_wp2_with fail
        refine ⟨HK1.out.trans ((KeepsOthers.setCell _ _ _).from _), HQ1.out.trans (kq_set bn1.out _), ?_, ?_, HI1.out.setCell (p := ⟨nb, 0, none⟩) (Nat.le_refl _) _⟩
        · rw [HE.out]; have := HMX.out; omega
        · rw [HE.out]
          exact Boxed.set _ bn1.out
  case' done =>
    rintro D ys W hD hys hI hK
    rw [hys] at hI
    have hS : ∃ k : Nat, Seen most k TT.length ∧ Boxed W nb 3 (.int .i64 k) ∧ Below nb w8 W := ⟨TT.length, .inr ⟨by have := hI.1; omega, rfl⟩, hI.2⟩
    clear hys hI
  case' stop =>
    rintro D c pre W hD hpre hI hK
    rcases hI with ⟨rfl, ⟨h2, h3⟩, h4⟩ | ⟨_, h⟩
    case' inr => exact absurd hpre h
    have hS : ∃ k : Nat, Seen most k TT.length ∧ Boxed W nb 3 (.int .i64 k) ∧ Below nb w8 W := by
      have hle := hpre.length_le
      rcases Nat.lt_or_ge pre.length TT.length with h | h
      · exact ⟨pre.length, .inl ⟨by omega, by omega, h3⟩, h4⟩
      · exact ⟨pre.length, .inr ⟨by omega, by omega⟩, h4⟩
    clear h2 h3 h4 hpre
  all_goals
    obtain ⟨k, hseen, hI2, hI3⟩ := hS
    have dn := Boxed.cell hI2
    have fn := Boxed.frozen hI2
    have cq : ∀ b, b < nb → W.cell? ⟨b, 0, none⟩ = w8.cell? ⟨b, 0, none⟩ := fun b hb => hI3.cell (p := ⟨b, 0, none⟩) hb
    have dv := (cq _ LV).trans (Boxed.cell BV8.out)
    have de : W.cell? ⟨w3.heap.size + 1 + 1, 0, none⟩ = some (.int .i64 E) := (cq _ LE).trans (Boxed.cell BE8.out)
    have dm := (cq _ LM).trans (Boxed.cell BM8.out)
    obtain ⟨W9, hW9⟩ : ∃ W9, W9 = W.setCell ⟨nb, 0, none⟩ (.int .i64 0) := ⟨_, rfl⟩
    have hB9 : Below nb w8 W9 := by rw [hW9]; exact hI3.setCell (p := ⟨nb, 0, none⟩) (Nat.le_refl _) _
    have hN9 : Boxed W9 nb 3 (.int .i64 0) := by rw [hW9]; exact Boxed.set _ hI2
    have hD9 : W9.heap[D]? = some (.deferred (some [])) := by rw [hW9]; exact ((KeepsOthers.setCell W ⟨nb, 0, none⟩ (.int .i64 0)).same D _ hK rfl)
    have hz9 : W9.heap.size = W.heap.size := by rw [hW9]; simp
    have hDlt : D < W9.heap.size := (Array.getElem?_eq_some_iff.1 hD9).1
    have hnb9 : nb < W9.heap.size := Boxed.lt hN9
    have hinv9 : ItInv nb nb (nb + 1) Bn 22 a' n' c' (l.take 32769) W9 := HI8.out.kq (kq_nb HZ8.out hB9 BN8.out hN9) (fun k h => by omega) (by omega) (by omega) (by omega)
    have hst := tokens1_stops (m - 1) (fun k => k = nb) nb nb (nb + 1) Bn a' n' c' (l.take 32769) W9 (by omega) ldexpSaid hinv9 (fun k h => by omega) (by omega) (by omega) (by omega) (by omega)
    rw [allF_take, HTO.out, ← HTT.out] at hst
    have HST9 := Lib.hid hst
    have HB9 := Lib.hid hB9
    have HN9 := Lib.hid hN9
    have HD9 := Lib.hid hD9
    have HW9 : Hid (W.setCell ⟨nb, 0, none⟩ (.int .i64 0) = W9) := Lib.hid hW9.symm
    have hfin : (((E : Int) != 0) = false ∧ TT.length = N) ∨ (((E : Int) != 0) = true ∧ TT.length = N + 1) := by
      rw [HTL.out]
      by_cases hE : E = 0
      · left; rw [hE]; exact ⟨rfl, by simp⟩
      · right; exact ⟨by rw [bne_iff_ne]; omega, by simp [hE]⟩
    clear hI2 hI3 cq hW9 hB9 hN9 hD9 hz9 hinv9 hst hK
    obtain ⟨tw, htw, hways⟩ : ∃ tw : Int, tw = (TT.length : Int) ∧ ((((E : Int) != 0) = false ∧ tw = N) ∨ (((E : Int) != 0) = true ∧ tw = (N : Int) + 1)) := by
      rcases hfin with ⟨h1, h2⟩ | ⟨h1, h2⟩
      · exact ⟨_, rfl, .inl ⟨h1, by omega⟩⟩
      · exact ⟨_, rfl, .inr ⟨h1, by omega⟩⟩
    have htests : (decide ((0 : Int) < most) = true ∧ decide (most < tw) = true ∧ ((k : Int) != most) = false) ∨ (decide ((0 : Int) < most) = true ∧ decide (most < tw) = false ∧ ((k : Int) != tw) = false) ∨ (decide ((0 : Int) < most) = false ∧ ((k : Int) != tw) = false) := by
      simp only [decide_eq_true_eq, decide_eq_false_iff_not, bne_eq_false_iff_eq]
      unfold Seen at hseen
      omega
    have HTW := Lib.hid htw
    clear hseen hfin htw
    rcases hways with ⟨tE, rfl⟩ | ⟨tE, rfl⟩
    all_goals
      rcases htests with ⟨t1, t2, t3⟩ | ⟨t1, t2, t3⟩ | ⟨t1, t3⟩
    all_goals
      gi_wp2_with fail
      rw [HW9.out]
      refine frame_of ?_
      intro FR hFR
      simp only at hFR
      refine wpIn_rangeFunc_ownH rfl h1 (gf := 31) (lb := #[.pointer (some ⟨Bn, 0, none⟩)]) (by rw [hFR]; rfl) trivial (enters_of Tryd.func31 (by kernel_rfl) rfl)
        HST9.out (fun h k => h.trans k) (Kq.put hnb9) (Below.refl _ _) (fun _ => rfl)
        (EI2 nb D w8) (EX2 TT) (ei2_own (by rw [HZ8.out]; omega) (by omega) hDlt) (fun c => ownFrom_pure _ _) ⟨HN9.out, HB9.out, HD9.out⟩
        (fun x a' V => ∃ Bx, nb < Bx ∧ V.heap[Bx]? = some (.cells (tokCells x.1).toArray 40 (0, 0)) ∧ a' = { tmps := (((FR.setIfInBounds 64 (tokVal x.1)).setIfInBounds 65 (.int .i64 x.2)).setIfInBounds 14 (.pointer (some ⟨Bx, 0, none⟩))).setIfInBounds 15 (.int .i64 x.2), defers := [] })
        (fun x a' _ X Y row hs hg hr => by obtain ⟨Bx, h1, h2, h3⟩ := hs; exact ⟨Bx, h1, blk_kept x h2 hg (fun r e => (hr r e).2), h3⟩)
        ?assign2 ?body2 ?done2 ?stop2
      case assign2 =>
        rintro lw pre ⟨⟨kd, tx, iv, rl, at_, sz⟩, er⟩ V K hI hK
        rw [hFR] at hK ⊢
        simp only [encT, tokVal]
        have HK := Lib.hid hK
        have HI := Lib.hid hI
        clear hK hI hFR
        gi_wp2_with fail
        obtain ⟨hI2, hI3, hI4⟩ := HI.out
        have hlt2 := Boxed.lt hI2
        have hDV := (Array.getElem?_eq_some_iff.1 hI4).1
        have hb := (Below.refl V.heap.size V).alloc (Nat.le_refl _) (.cells (tokCells ⟨kd, tx, iv, rl, at_, sz⟩).toArray 40)
        exact HK.out _ _ ((KeepsOthers.alloc _ _).from _) (Kq.of_below hb hlt2) ⟨hI2.alloc _, hI3.alloc (by omega) _, (hb.block D hDV).trans hI4⟩ ⟨V.heap.size, hlt2, heap_alloc_new V _, rfl⟩
      case body2 =>
        rintro lw pre ⟨⟨kd, tx, iv, rl, at_, sz⟩, er⟩ a' V hlw _ hI ⟨Bx, hBx1, hcx, rfl⟩ hlt
        obtain ⟨hI2, hI3, hI4⟩ := hI
        have hkN : pre.length ≤ N := by omega
        have x0 : V.cell? ⟨Bx, 0, none⟩ = some (.int .i64 kd) := by simp [World.cell?, hcx, tokCells]
        have x1 : V.cell? ⟨Bx, 1, none⟩ = some (.string ⟨tx.toArray⟩) := by simp [World.cell?, hcx, tokCells]
        have x2 : V.cell? ⟨Bx, 2, none⟩ = some (.int .i64 iv) := by simp [World.cell?, hcx, tokCells]
        have x3 : V.cell? ⟨Bx, 3, none⟩ = some (.float .f64 rl) := by simp [World.cell?, hcx, tokCells]
        have x4 : V.cell? ⟨Bx, 4, none⟩ = some (.int .i64 at_) := by simp [World.cell?, hcx, tokCells]
        have x5 : V.cell? ⟨Bx, 5, none⟩ = some (.int .i64 sz) := by simp [World.cell?, hcx, tokCells]
        have dn := Boxed.cell hI2
        have cq : ∀ b, b < nb → V.cell? ⟨b, 0, none⟩ = w8.cell? ⟨b, 0, none⟩ := fun b hb => hI3.cell (p := ⟨b, 0, none⟩) hb
        have dv := (cq _ LV).trans (Boxed.cell BV8.out)
        have dp := (cq _ LP).trans (Boxed.cell BP8.out)
        have de : V.cell? ⟨w3.heap.size + 1 + 1, 0, none⟩ = some (.int .i64 E) := (cq _ LE).trans (Boxed.cell BE8.out)
        have htold := told_any ⟨kd, tx, iv, rl, at_, sz⟩ er pre.length N P E vc w2.heap.size va xs V HN.out.symm hlen hkN (HV7.out.below (H78.out.trans hI3) (by rw [HNB.out]; exact Nat.le_refl _))
        rw [← HTT.out] at htold
        simp only [tokVal] at htold ⊢
        have HTD := Lib.hid htold
        have hI2' := Lib.hid hI2
        have hI3' := Lib.hid hI3
        have hI4' := Lib.hid hI4
        have hlt2 := Boxed.lt hI2
        have hDV := (Array.getElem?_eq_some_iff.1 hI4).1
        rw [hFR]
        simp only [List.setIfInBounds_toArray, List.set_cons_succ, List.set_cons_zero]
        clear htold hI2 hI3 hI4 cq hcx hFR dm fn
        gi_wp2_with fail
        refine ⟨trivial, fun _ => by omega, ?_⟩
        refine (CallsIn.inRound lw (callsIn_wide.2 HTD.out)).mono ?_
        rintro e V1 ⟨b, rfl, hb, hb1⟩
        have bn1 := Lib.hid (Boxed.below hI2'.out hb1)
        have HI1 := Lib.hid (hI3'.out.trans (hb1.mono (Nat.le_of_lt hlt2)))
        have HK1 : Hid (KeepsFrom W9.heap.size V V1) := Lib.hid (keeps_below hb1 (Nat.le_refl _))
        have HQ1 : Hid (Kq (fun k => k = nb) nb V V1) := Lib.hid (Kq.of_below hb1 hlt2)
        have HBB := Lib.hid hb
        have HDD := Lib.hid ((hb1.block D hDV).trans hI4'.out)
        clear hb1 hb x0 x1 x2 x3 x4 x5 dn dv dp de
        have dn := Boxed.cell bn1.out
        have fn := Boxed.frozen bn1.out
        have dr : V1.cell? ⟨w.heap.size + 1, 0, none⟩ = some (.bool false) := (HI1.out.cell (p := ⟨w.heap.size + 1, 0, none⟩) LR).trans (Boxed.cell BR8.out)
        have fr : V1.frozen? ⟨w.heap.size + 1, 0, none⟩ = false := (HI1.out.frozen (p := ⟨w.heap.size + 1, 0, none⟩) LR).trans (Boxed.frozen BR8.out)
        cases b with
        | false =>
          have hno : ¬ pre ++ [((⟨kd, tx, iv, rl, at_, sz⟩ : Tok), er)] <+: TT := fun h => by have := HBB.out (pre_at h); cases this
          have HNO := Lib.hid hno
          clear hno
          gi_wp2_with fail
          exact ⟨HK1.out.trans ((KeepsOthers.setCell _ _ _).from _), rfl, HNO.out⟩
        | true =>
          have hpl : pre.length ≤ 32769 := by omega
          have HE : Hid (((pre ++ [((⟨kd, tx, iv, rl, at_, sz⟩ : Tok), er)]).length : Int) = (pre.length : Int) + 1) := Lib.hid (by simp)
          gi_wp2_with fail
          refine ⟨HK1.out.trans ((KeepsOthers.setCell _ _ _).from _), HQ1.out.trans (kq_set bn1.out _), ?_, HI1.out.setCell (p := ⟨nb, 0, none⟩) (Nat.le_refl _) _, (KeepsOthers.setCell V1 ⟨nb, 0, none⟩ _).same D _ HDD.out rfl⟩
          rw [HE.out]
          exact Boxed.set _ bn1.out
      case stop2 =>
        rintro D2 c2 pre V hD2 hpre hI hK2
        exact absurd hpre hI.2
      case done2 =>
        rintro D2 ys V hD2 hys hI hK2
        rw [hys] at hI
        obtain ⟨j1, j2, j3⟩ := hI
        rw [hFR]
        clear hys hFR dn fn dv de dm
        have dn := Boxed.cell j1
        rw [← HTW.out] at dn
        have fn := Boxed.frozen j1
        have dr : V.cell? ⟨w.heap.size + 1, 0, none⟩ = some (.bool false) := (j2.cell (p := ⟨w.heap.size + 1, 0, none⟩) LR).trans (Boxed.cell BR8.out)
        have fr : V.frozen? ⟨w.heap.size + 1, 0, none⟩ = false := (j2.frozen (p := ⟨w.heap.size + 1, 0, none⟩) LR).trans (Boxed.frozen BR8.out)
        have HBX : Hid (Boxed V (w.heap.size + 1) 4 (.bool false)) := Lib.hid ((j2.block _ LR).trans BR8.out)
        have h7V : Below w7.heap.size w7 V := by rw [← HNB.out]; exact H78.out.trans j2
        have HHV := Lib.hid (HH7.out.below h7V)
        have HBV := Lib.hid (HB7.out.trans (h7V.mono HB7.out.size))
        have HJ3 := Lib.hid j3
        have HK2 := Lib.hid hK2
        clear j1 j2 j3 hK2 h7V
        gi_wp2_with fail
        refine ⟨trivial, ?_⟩
        refine (callsIn_wide.2 (kept_any g n c cap a l V hr HHV.out.atAll hc (HT.out.below HBV.out (Nat.le_refl _)))).mono ?_
        rintro e V1 ⟨rfl, rfl⟩
        gi_wp2_with fail
        obtain ⟨V2, hV2⟩ : ∃ V2, V2 = V.setCell ⟨w.heap.size + 1, 0, none⟩ (.bool true) := ⟨_, rfl⟩
        have hk2 : V2.heap[D2]? = some (.deferred (some [])) := by rw [hV2]; exact (KeepsOthers.setCell V _ _).same D2 _ HK2.out rfl
        have hkD : V2.heap[D]? = some (.deferred (some [])) := by rw [hV2]; exact (KeepsOthers.setCell V _ _).same D _ HJ3.out rfl
        have hr2 : V2.cell? ⟨w.heap.size + 1, 0, none⟩ = some (.bool true) := by rw [hV2]; exact Boxed.cell (Boxed.set (.bool true) HBX.out)
        have hb2 : Below w.heap.size w V2 := by rw [hV2]; exact HBV.out.setCell (p := ⟨w.heap.size + 1, 0, none⟩) (by simp) _
        rw [← hV2]
        clear hV2 dr fr dn fn
        have hne : D ≠ D2 := by omega
        have hs8 := HB8.out.size
        have hh2 : ∀ r, some D2 = some r → ∃ o : Obj, V2.heap[r]? = some o ∧ o.isCells = false := fun r e => by cases e; exact ⟨_, hk2, rfl⟩
        have hr3 := cell_kept hr2 (grownBy_putObj' V2 D2 (.deferred none)) hh2
        have hb3 := hb2.trans (belowK_b (w := w) (Nat.le_refl _) V2 D2 _ (.deferred none) (by omega) hk2 rfl rfl)
        have hk3 : (V2.putObj D2 (.deferred none)).heap[D]? = some (.deferred (some [])) := (World.putObj_heap_other hne).trans hkD
        have hh3 : ∀ r, some D = some r → ∃ o : Obj, (V2.putObj D2 (.deferred none)).heap[r]? = some o ∧ o.isCells = false := fun r e => by cases e; exact ⟨_, hk3, rfl⟩
        have hr4 := cell_kept hr3 (grownBy_putObj' (V2.putObj D2 (.deferred none)) D (.deferred none)) hh3
        have hb4 := hb3.trans (belowK_b (w := w) (Nat.le_refl _) (V2.putObj D2 (.deferred none)) D _ (.deferred none) (by omega) hk3 rfl rfl)
        refine ⟨by simp, .inl ⟨_, _, rfl, run_takeDeferred hk2, ?_⟩⟩
        refine ⟨by simp, .inl ⟨_, _, rfl, run_takeDeferred hk3, ?_⟩⟩
        refine ⟨.bool true, ?_, rfl, hb4⟩
        simp [results, Tryd.f4, go_sem, hr4]

theorem each_walk (a : Option Addr) (n cap : Nat) (l : List UInt8) (most : Int) (w : World) (hmo : -9223372036854775808 ≤ most ∧ most ≤ 9223372036854775807) (hG : Glob w) (ht : Txt w a n cap l) (hr : n ≤ 140737488351232) :
    Calls Tryd.prog 4 #[.slice a n cap, .int .i64 most] w fun e W' => e = .returned (.bool true) ∧ Below w.heap.size w W' :=
  (callsIn_wide (n := 5)).1 (each_in 5 a n cap l most w (Nat.le_refl _) hmo hG ht hr)
end Go.Proofs.YtkhghbeojfgkhaaDoor
