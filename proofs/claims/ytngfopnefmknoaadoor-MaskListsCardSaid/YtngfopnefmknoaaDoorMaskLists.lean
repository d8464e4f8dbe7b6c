/- MaskLists: the walk. -/
import Derived.Test.YtngfopnefmknoaaDoorMkMade
import Derived.Test.YtngfopnefmknoaaDoorMkNums
set_option linter.all false
namespace Go.Proofs.YtngfopnefmknoaaDoor
open Go.RowKit Go.Shelf
attribute [local go_sem] Oper.semAt_some
set_option maxRecDepth 100000
/-- a slice that is handed over -/
structure Arg (w : World) (a : Option Addr) (cap : Nat) (l : List Int) : Prop where
  sl : Sg w a l
  form : (a = none ∧ l = [] ∧ cap = 0) ∨ ∃ ad, a = some ad
theorem Arg.below {w w' : World} {a : Option Addr} {cap : Nat} {l : List Int} (h : Arg w a cap l) (hb : Below w.heap.size w w') : Arg w' a cap l :=
  ⟨h.sl.keep (Nat.le_refl _) hb, h.form⟩
theorem Arg.src {w : World} {a : Option Addr} {cap : Nat} {l : List Int} (h : Arg w a cap l) : (a = none ∧ l = [] ∧ cap = 0) ∨ ∃ ad, a = some ad ∧ ∀ j u, (intsV l)[j]? = some u → w.cell? (ad.add j) = some u := by
  rcases h.form with h1 | ⟨ad, rfl⟩
  · exact .inl h1
  · refine .inr ⟨_, rfl, fun j u hu => ?_⟩
    unfold intsV at hu
    rw [List.getElem?_map, Option.map_eq_some_iff] at hu
    obtain ⟨x, hx, rfl⟩ := hu
    obtain ⟨ad', e, _, hc⟩ := h.sl.get hx
    cases e
    exact hc
/-- the list that is given, one number behind it -/
theorem given_form {w : World} {B : Nat} {F : List Nat} {v : Value} {l : List Int} {k : Nat} (hk : k = l.length) (h : Ir w B F v (l ++ [-77])) (hin : ∀ x ∈ l, In x) (hf : l.length ≤ 4611686018427387904) : ∃ b c, v = .slice (some ⟨b, 0, none⟩) (k + 1) c ∧ (k : Int) ≤ (c : Int) ∧ k + 1 ≤ c ∧ c ≤ 9223372036854775807 ∧ B ≤ b ∧ b < w.heap.size ∧ Sl w (some ⟨b, 0, none⟩) l ∧ w.cell? ⟨b, k, none⟩ = some (.int .i64 (-77)) := by
  subst hk
  rcases h.form with ⟨_, e, _⟩ | ⟨b, c, cur, rfl, _, hB, hg, hn, hm, _⟩
  · simp at e
  · rw [List.length_append] at hn
    refine ⟨b, c, by simp, by simp at hn; omega, hn, by unfold maxLen at hm; omega, hB, some_lt hg, ⟨hf, hin, .inr ⟨b, 0, rfl, fun j x hx => ?_⟩⟩, ?_⟩
    · have hj := get_lt hx
      obtain ⟨b', c', e, _, hc⟩ := h.cell (k := j) (x := x) (by rw [List.getElem?_append_left hj]; exact hx)
      cases e
      rw [Nat.zero_add]
      exact hc
    · obtain ⟨b', c', e, _, hc⟩ := h.cell (k := l.length) (x := -77) (by simp)
      cases e
      exact hc
theorem cell_below {w w' : World} {b k : Nat} {v : Value} (h : w.cell? ⟨b, k, none⟩ = some v) (hb : Below w.heap.size w w') (hl : b < w.heap.size) : w'.cell? ⟨b, k, none⟩ = some v := by
  have h2 := hb.block b hl
  unfold World.cell? at h ⊢
  rw [← h]
  simp only [h2]
/-- what stands from the first lines on -/
structure Ol (w : World) (a : Option Addr) (cap : Nat) (l : List Int) (k gb : Nat) (most : Int) (W : World) : Prop where
  arg : Arg W a cap l
  mb : Boxed W w.heap.size 3 (.int .i64 most)
  sl : Sl W (some ⟨gb, 0, none⟩) l
  c77 : W.cell? ⟨gb, k, none⟩ = some (.int .i64 (-77))
  lt : gb < W.heap.size
  glob : GlobM W
  bel : Below w.heap.size w W
theorem Ol.below {w : World} {a : Option Addr} {cap : Nat} {l : List Int} {k gb : Nat} {most : Int} {W W' : World} (h : Ol w a cap l k gb most W) (hb : Below W.heap.size W W') : Ol w a cap l k gb most W' :=
  ⟨h.arg.below hb, boxed_below h.mb hb, h.sl.below hb (fun b o e _ => by cases e; exact h.lt), cell_below h.c77 hb h.lt, Nat.lt_of_lt_of_le h.lt hb.size, globM_below h.glob hb (Nat.le_refl _), h.bel.trans (hb.mono h.bel.size)⟩
/-- .. and behind them: the numbers that are wanted, the sequence's box -/
structure Oz (w : World) (a : Option Addr) (cap : Nat) (l : List Int) (k gb : Nat) (most : Int) (m Bw cb : Nat) (Fw : List Nat) (vw : Value) (W : World) : Prop where
  ol : Ol w a cap l k gb most W
  row : Ir W Bw Fw vw (natI (numsF m.testBit 64))
  cb : Boxed W cb 23 (.int .u64 (m : Int))
theorem Oz.below {w : World} {a : Option Addr} {cap : Nat} {l : List Int} {k gb : Nat} {most : Int} {m Bw cb : Nat} {Fw : List Nat} {vw : Value} {W W' : World} (h : Oz w a cap l k gb most m Bw cb Fw vw W) (hb : Below W.heap.size W W') : Oz w a cap l k gb most m Bw cb Fw vw W' :=
  ⟨h.ol.below hb, h.row.below hb, boxed_below h.cb hb⟩
/-- numbers told one by one: their row and its box -/
structure Tl (B : Nat) (l : List Nat) (F : List Nat) (v : Value) (W : World) : Prop where
  row : Ir W B F v (natI l)
  box : Boxed W B 37 v
theorem Tl.below {B : Nat} {l : List Nat} {F : List Nat} {v : Value} {W W' : World} (h : Tl B l F v W) (hb : Below W.heap.size W W') : Tl B l F v W' := ⟨h.row.below hb, boxed_below h.box hb⟩
theorem Tl.kc {B : Nat} {l : List Nat} {F : List Nat} {v : Value} {W W' : World} (h : Tl B l F v W) (hk : KC W W') : Tl B l F v W' := by
  refine ⟨⟨⟨h.row.row.1, ?_⟩, h.row.fp⟩, hk _ _ _ _ h.box⟩
  rcases h.row.row.2 with hn | ⟨g, cap, cur, rfl, hb, hg, r⟩
  · exact .inl hn
  · exact .inr ⟨g, cap, cur, rfl, hb, hk _ _ _ _ hg, r⟩
theorem boxed_at {W W' : World} {B b : Nat} {t : TypeId} {v : Value} (h : Boxed W b t v) (hB : B = W.heap.size) (hb : Below B W W') : Boxed W' b t v := by
  subst hB
  exact boxed_below h hb
/-- one number more -/
theorem Tl.step {B x : Nat} {l : List Nat} {F G : List Nat} {v sv : Value} {W W5 : World} (h : Tl B l F v W) (k1 : Ir W5 B G sv (natI l ++ [(x : Int)])) (k2 : Out F W W5) : Tl B (l ++ [x]) G sv (W5.setCell ⟨B, 0, none⟩ sv) := by
  have hx5 := boxed_out h.box k2 (boxed_apart h.row h.box (by decide))
  refine ⟨?_, hx5.set _⟩
  rw [natI_snoc]
  refine k1.keep fun b hb => heap_setCell_other W5 ⟨B, 0, none⟩ b _ ?_
  show b ≠ B
  rintro rfl
  exact boxed_apart k1 hx5 (by decide) hb
/-- what is told of a list that is left behind so many (below 1: not left) -/
def toldL (most : Int) (L : List Nat) : List Nat := if 0 < most ∧ most < (L.length : Int) then L.take most.toNat else L
theorem Sl.take {w : World} {a : Option Addr} {l : List Int} (h : Sl w a l) (k : Nat) : Sl w a (l.take k) := by
  refine ⟨by have := h.few; rw [List.length_take]; omega, fun x hx => h.ins x (List.mem_of_mem_take hx), ?_⟩
  rcases h.at' with rfl | ⟨b, o, rfl, hc⟩
  · exact .inl (by simp)
  · refine .inr ⟨b, o, rfl, fun j x hx => hc j x ?_⟩
    rw [List.getElem?_take] at hx
    split at hx
    · exact hx
    · cases hx
theorem tl_sl {B : Nat} {t : List Nat} {F : List Nat} {v : Value} {W : World} (h : Tl B t F v W) (hin : ∀ x ∈ natI t, In x) (hf : t.length ≤ 64) : ∃ a c, v = .slice a t.length c ∧ Sl W a (natI t) := by
  obtain ⟨a, c, rfl⟩ := h.row.slice
  have e : (natI t).length = t.length := List.length_map _
  exact ⟨a, c, by rw [e], ir_in h.row hin (by omega)⟩
theorem told_sub (most : Int) (f : Nat → Bool) : (toldL most (numsF f 64)).length ≤ 64 ∧ ∀ x ∈ natI (toldL most (numsF f 64)), In x := by
  have h1 := natI_few f
  have h2 := natI_in f
  have e : (natI (numsF f 64)).length = (numsF f 64).length := List.length_map _
  unfold toldL
  split
  · refine ⟨by rw [List.length_take]; omega, fun x hx => ?_⟩
    obtain ⟨y, hy, rfl⟩ := List.mem_map.1 hx
    exact h2 _ (List.mem_map.2 ⟨y, List.mem_of_mem_take hy, rfl⟩)
  · exact ⟨by omega, h2⟩
theorem Sl.drewN {w : World} {a : Option Addr} {l : List Int} (h : Sl w a l) (q : Nat) : Sl (w.drewN q) a l := by
  refine ⟨h.few, h.ins, ?_⟩
  rcases h.at' with e | ⟨b, o, rfl, hc⟩
  · exact .inl e
  · exact .inr ⟨b, o, rfl, fun j x hx => by rw [World.cell?_drewN]; exact hc j x hx⟩
theorem told_all {most : Int} {L : List Nat} (h : most ≤ 0 ∨ (L.length : Int) < most) : toldL most L = L := by
  unfold toldL
  rw [if_neg (by omega)]
theorem told_part {most : Int} {l L : List Nat} (h : (l.length : Int) = most) (h0 : 0 < most) (hp : l <+: L) : toldL most L = l := by
  have e := List.prefix_iff_eq_take.1 hp
  have hle := hp.length_le
  unfold toldL
  split
  · rw [← h, Int.toNat_natCast, ← e]
  · rename_i hn
    have : l.length = L.length := by omega
    rw [e, this, List.take_length]
set_option maxHeartbeats 8000000 in
theorem masklists_in (n : Nat) {a : Option Addr} {cap : Nat} {l : List Int} {m : Nat} (hm : Wd m) (most : Int) (hmo : In most) (w : World) (hG : GlobM w) (harg : Arg w a cap l) (hlen : l.length ≤ 17592186044000) (hn : 5 ≤ n) :
    CallsIn Fence.wide n Tryd.prog 4 #[.slice a l.length cap, .int .u64 (m : Int), .int .i64 most] w fun e w' => e = .returned (.bool true) ∧ Below w.heap.size w w' := by
  have h1 : 1 ≤ n := by omega
  obtain ⟨w0, hw0⟩ : ∃ w0, w0 = w.alloc (.cells #[.int .i64 most] 3) := ⟨_, rfl⟩
  have hb0 : Below w.heap.size w w0 := by rw [hw0]; exact (Below.refl _ w).alloc (Nat.le_refl _) _
  have HMB := Lib.hid (show Boxed w0 w.heap.size 3 (.int .i64 most) by rw [hw0]; exact Boxed.new w _ _)
  have HARG := Lib.hid (harg.below hb0)
  have HB0 := Lib.hid hb0
  have HE0 := Lib.hid hw0.symm
  have HG := Lib.hid hG
  have HM := Lib.hid hm
  have HMO := Lib.hid hmo
  obtain ⟨k, hk⟩ : ∃ k, k = l.length := ⟨_, rfl⟩
  have HK := Lib.hid hk
  rw [← hk] at hlen ⊢
  clear harg hb0 hw0 hG hm hmo hk
  refine callsIn_of_wp_marks Tryd.func4 rfl trivial ?_ rfl
  simp only [Tryd.ntmps4, List.size_toArray, List.length_cons, List.length_nil, Nat.reduceAdd, Nat.reduceSub, Array.replicate_succ, Array.replicate_zero, List.push_toArray, List.append_toArray, List.nil_append, List.cons_append]
  gi_upto_region 2 with (fail)
  rw [HE0.out]
  gi_wp2_with (first
    | (gi_at_builtin; refine wpListIn_ir (w := w0) rfl (.tmp 19) (.tmp 20) rfl (Ir.nil w0 w0.heap.size) rfl a k cap l HK.out.symm rfl HARG.out.src (by rw [← HK.out]; show 0 + k ≤ _; omega) (Nat.le_refl _) ?_; intro v1 F1 w1 r1 o1 n1; rw [List.nil_append] at r1; have R1 := Lib.hid r1; have O1 := Lib.hid o1; clear r1 o1 n1)
    | (gi_at_builtin; refine wpListIn_ir1 (w0 := w1) rfl (.tmp 21) (.tmp 22) rfl R1.out (-77) rfl rfl rfl (by rw [← HK.out]; omega) O1.out.size ?_; intro v2 F2 w2 r2 o2 n2; have HB2 := Lib.hid ((O1.out.toB).trans (o2.toBelow O1.out.size (fun b hb => (R1.out.ty b hb).1))); obtain ⟨gb, gc, rfl, hgi, hgc, hgm, hgB, hgl, hgs, hg77⟩ := given_form HK.out r2 HARG.out.sl.ins HARG.out.sl.few; have R2 := Lib.hid (And.intro hgs (And.intro hg77 (And.intro hgB hgl))); clear r2 o2 n2 hgs hg77 hgB hgl))
  refine ⟨trivial, ?_⟩
  have HO := Lib.hid (of_any R2.out.1 gc)
  rw [← HK.out] at HO
  refine (callsIn_wide.2 HO.out).mono ?_
  rintro e w3 ⟨rfl, rfl⟩
  have HOL := Lib.hid (show Ol w a cap l k gb most w2 from ⟨HARG.out.below HB2.out, boxed_below HMB.out HB2.out, R2.out.1, R2.out.2.1, R2.out.2.2.2, globM_below (globM_below HG.out HB0.out (Nat.le_refl _)) HB2.out (Nat.le_refl _), HB0.out.trans (HB2.out.mono HB0.out.size)⟩)
  clear HARG HB0 HMB HG HB2 R2 R1 O1 HE0 HO
  have HMA := Lib.hid (made_any HOL.out.arg.sl cap)
  rw [← HK.out] at HMA
  gi_wp2_with fail
  refine ⟨trivial, ?_⟩
  refine (callsIn_wide.2 HMA.out).mono ?_
  rintro e w3 ⟨rfl, hb3⟩
  have HOL3 := Lib.hid (HOL.out.below hb3)
  clear hb3 HMA HOL
  gi_wp2_with (first
    | (refine wpListIn_new_set (w0 := w3) rfl (.tmp 10) (.tmp 35) rfl rfl rfl rfl ?_; intro w4 k1 k3; have HS4 := Lib.hid k1; have HOL4 := Lib.hid (HOL3.out.below k3); clear k1 k3)
    | (refine wpListIn_load_set rfl (.tmp 10) rfl rfl HS4.out ?_))
  generalize w3.heap.size = sb at HS4
  clear HOL3 HS4
  refine ⟨trivial, ?_⟩
  refine (callsIn_wide.2 (word_any (madeF l) w4)).mono ?_
  rintro e w5 ⟨rfl, hb5⟩
  rw [made_word]
  have HOL5 := Lib.hid (HOL4.out.below hb5)
  clear hb5 HOL4
  obtain ⟨ow, how⟩ : ∃ ow, ow = ofW l := ⟨_, rfl⟩
  rw [← how]
  obtain ⟨oe, hoe⟩ : ∃ oe, oe = ofE l := ⟨_, rfl⟩
  rw [← hoe]
  have t1 : ((ow : Int) != (ow : Int)) = false := by simp
  have t2 : (oe != oe) = false := by simp
  have c77 := HOL5.out.c77
  have hka : (0 : Int) ≤ (k : Int) ∧ (k : Int) < (k : Int) + 1 := by omega
  clear how hoe
  gi_wp2_with fail
  refine ⟨trivial, ?_⟩
  have HI := Lib.hid (ints_far HOL5.out.sl HOL5.out.arg.sl rfl gc cap)
  rw [← HK.out] at HI
  refine (callsIn_wide.2 HI.out).mono ?_
  rintro e w6 ⟨rfl, q6, rfl⟩
  have HOL6 := Lib.hid (HOL5.out.below (below_drewN (Below.refl _ w5) q6))
  clear HOL5 HI c77 t1 t2 hka
  obtain ⟨w6, hw6⟩ : ∃ w6, w6 = w5.drewN q6 := ⟨_, rfl⟩
  rw [← hw6] at HOL6 ⊢
  clear hw6
  gi_wp2_with fail
  refine ⟨trivial, ?_⟩
  refine (callsIn_wide.2 (rof_any HM.out w6)).mono ?_
  rintro e w7 ⟨rfl, hb7⟩
  have HOL7 := Lib.hid (HOL6.out.below hb7)
  clear hb7 HOL6
  gi_wp2_with fail
  refine ⟨trivial, ?_⟩
  refine (callsIn_wide.2 (rnums_any m.testBit w7)).mono ?_
  rintro e w8 ⟨vw, Fw, rfl, hwr, hb8⟩
  obtain ⟨wa, wc, rfl⟩ := hwr.slice
  obtain ⟨wn, hwn⟩ : ∃ wn, wn = (natI (numsF m.testBit 64)).length := ⟨_, rfl⟩
  rw [← hwn] at hwr ⊢
  have HOL8 := Lib.hid (HOL7.out.below hb8)
  have HWR := Lib.hid hwr
  have HWN := Lib.hid hwn
  obtain ⟨Bw, hBw⟩ : ∃ Bw, Bw = w7.heap.size := ⟨_, rfl⟩
  rw [← hBw] at HWR
  clear hb8 HOL7 hwr hwn hBw
  gi_wp2_with fail
  refine ⟨trivial, ?_⟩
  refine (callsIn_wide.2 (each_any m w8)).mono ?_
  rintro e w9 ⟨rfl, hw9⟩
  obtain ⟨cb, hcb⟩ : ∃ cb, cb = w8.heap.size := ⟨_, rfl⟩
  have hb9 : Below w8.heap.size w8 w9 := by rw [hw9]; exact (Below.refl _ w8).alloc (Nat.le_refl _) _
  have HOZ := Lib.hid (show Oz w a cap l k gb most m Bw cb Fw (.slice wa wn wc) w9 from ⟨HOL8.out.below hb9, HWR.out.below hb9, by rw [hw9, hcb]; exact Boxed.new w8 _ _⟩)
  rw [← hcb]
  clear hw9 hb9 hcb HOL8 HWR
  have hnil : ∀ (bs : Array Value) (w' : World), (binOp BinOp.eql 46 (.func (.func 41) #[] bs) .nilFunc).run Tryd.prog w' = .ok (.bool false) w' := fun _ _ => rfl
  gi_wp2_with fail
  refine ⟨trivial, ?_⟩
  refine (callsIn_wide.2 (numbers_any HM.out w9 HOZ.out.ol.glob)).mono ?_
  rintro e wa0 ⟨vn, Fn, rfl, hnr, hba⟩
  obtain ⟨na, nc, rfl⟩ := hnr.slice
  have HI := Lib.hid (ints_any (ir_in hnr (natI_in _) (by have := natI_few m.testBit; omega)) (show Sl wa0 wa (natI (numsF m.testBit 64)) from ir_in (c := wc) (by rw [← HWN.out]; exact HOZ.out.row.below hba) (natI_in _) (by have := natI_few m.testBit; omega)) nc wc)
  have HOZA := Lib.hid (HOZ.out.below hba)
  rw [← HWN.out] at HI ⊢
  clear hnr hba HOZ
  gi_wp2_with fail
  refine ⟨trivial, ?_⟩
  refine (callsIn_wide.2 HI.out).mono ?_
  rintro e wb0 ⟨rfl, q, rfl⟩
  simp only [decide_true]
  have HOZB := Lib.hid (HOZA.out.below (below_drewN (Below.refl _ wa0) q))
  clear HOZA HI
  obtain ⟨W0, hW0⟩ : ∃ W0, W0 = wa0.drewN q := ⟨_, rfl⟩
  rw [← hW0] at HOZB ⊢
  clear hW0
  obtain ⟨B, hB⟩ : ∃ B, B = W0.heap.size := ⟨_, rfl⟩
  have HB := Lib.hid hB
  have HWB := Lib.hid (show w.heap.size ≤ B by rw [hB]; exact HOZB.out.ol.bel.size)
  obtain ⟨W1, hW1⟩ : ∃ W1, W1 = W0.alloc (.cells #[.slice none 0 0] 37) := ⟨_, rfl⟩
  have HZ1 := Lib.hid (show W1.heap.size = B + 1 by rw [hW1, hB]; simp)
  have HT1 := Lib.hid (show Tl B [] [] (.slice none 0 0) W1 from ⟨Ir.nil _ _, by rw [hW1, hB]; exact Boxed.new W0 _ _⟩)
  have HBE1 := Lib.hid (show Below B W0 W1 by rw [hW1, hB]; exact (Below.refl _ W0).alloc (Nat.le_refl _) _)
  have HE1 := Lib.hid hW1.symm
  have hL : (natI (numsF m.testBit 64)).length = (numsF m.testBit 64).length := List.length_map _
  have HLL := Lib.hid (show wn = (numsF m.testBit 64).length by rw [HWN.out, hL])
  clear hW1 hB hL
  gi_upto_region 13 with (fail)
  rw [HE1.out, ← HB.out]
  gi_wp2_with fail
  refine lp_block (fun W => (∃ F v, Tl B (toldL most (numsF m.testBit 64)) F v W) ∧ Below B W0 W ∧ B + 1 ≤ W.heap.size) rfl h1 (gf := 41) (lb := #[.pointer (some ⟨cb, 0, none⟩)]) rfl trivial (enters_of Tryd.func41 (by kernel_rfl) rfl) ?hrest ?hfirst
  case hfirst =>
    intro fn rc hfn hrc W2 hlp hb1 hz1
    refine CallsIn.mono (each1_any (n - 1) cb m HM.out (W1.heap.size + 1)
      (fun t W => Lp rc W1.heap.size .ready none W ∧ (most ≤ 0 ∨ (t.length : Int) < most) ∧ (∃ F v, Tl B t F v W) ∧ Below B W0 W ∧ W1.heap.size + 2 ≤ W.heap.size)
      (fun t W => Lp rc W1.heap.size .done (some (.exit 0)) W ∧ (0 < most ∧ (t.length : Int) = most) ∧ (∃ F v, Tl B t F v W) ∧ Below B W0 W ∧ W1.heap.size + 2 ≤ W.heap.size)
      W2 (by omega) ?hS ?hY ?h0) ?hfin
    case hS =>
      rintro t A ⟨_, _, _, hbe, _⟩
      rw [HB.out] at hbe
      exact ⟨boxed_below HOZB.out.cb hbe, globM_below HOZB.out.ol.glob hbe (Nat.le_refl _)⟩
    case h0 => exact ⟨hlp, by simp; omega, ⟨_, _, HT1.out.below hb1⟩, HBE1.out.trans (hb1.mono (by rw [HZ1.out]; omega)), by rw [hz1]; exact Nat.le_refl _⟩
    case hfin =>
      rintro e W9 ⟨hv, ⟨a1, a2, a3, a4, a5⟩ | ⟨x, hx0, hx1, a1, a2, a3, a4, a5⟩⟩
      · exact ⟨hv, .inl ⟨a1, by rw [told_all a2]; exact a3, a4, by have := HZ1.out; omega⟩⟩
      · exact ⟨hv, .inr ⟨a1, by rw [told_part a2.2 a2.1 (nums_mono m.testBit (show x + 1 ≤ 64 by omega))]; exact a3, a4, by have := HZ1.out; omega⟩⟩
    case hY =>
      rintro x W2' hx64 hxb ⟨j1, j2, ⟨F, v, j3⟩, j4, j5⟩
      refine lp_yield2 hrc hfn j1 rfl ?_
      clear hrc
      have hlen : (numsF m.testBit x).length = cntF m.testBit x := nums_len _ _
      rw [hlen] at j2
      have HL2 := Lib.hid j1
      have HJ2 := Lib.hid j3
      have HB2 := Lib.hid j4
      have HS2 := Lib.hid j5
      have HX := Lib.hid (And.intro hx64 hxb)
      have hcl : cntF m.testBit x ≤ 64 := by have := cntF_le m.testBit x; omega
      obtain ⟨cx, hcx⟩ : ∃ cx, cx = cntF m.testBit x := ⟨_, rfl⟩
      rw [← hcx] at j2 hcl
      have HCX := Lib.hid hcx
      have HJM := Lib.hid j2
      clear j1 j2 j3 j4 j5 hlp hb1 hz1 hx64 hxb hlen hcx
      gi_wp2_with fail
      refine ⟨HL2.out, ?_⟩
      obtain ⟨W4, hW4⟩ : ∃ W4, W4 = W2'.putObj (W1.heap.size + 1) (.loop (rc .busy none)) := ⟨_, rfl⟩
      have hp := HL2.out.put (st' := .busy) (j' := none)
      rw [← hW4] at hp
      have HL4 := Lib.hid hp
      have hb24 : Below B W2' W4 := by rw [hW4]; exact below_put (by have := HZ1.out; omega) HL2.out.rcd
      have HJ4 := Lib.hid (show Tl B (numsF m.testBit x) F v W4 by rw [hW4]; exact HJ2.out.kc (KC.put _ HL2.out.rcd))
      have HBW := Lib.hid (HB2.out.trans hb24)
      have HS4 := Lib.hid (show W1.heap.size + 2 ≤ W4.heap.size by rw [hW4, World.putObj_size]; exact HS2.out)
      rw [← hW4]
      clear hp hW4 HL2 HJ2 HB2 hb24 HS2
      have c1 := HJ4.out.box.cell
      have HLN := Lib.hid (show (natI (numsF m.testBit x)).length = cx by rw [List.length_map, nums_len, HCX.out])
      obtain ⟨sn, hsn⟩ : ∃ sn, sn = cx + 1 := ⟨_, rfl⟩
      have HSN := Lib.hid hsn
      have HTE := Lib.hid (show (numsF m.testBit (x + 1)).length = sn by rw [nums_len, cntF, HX.out.2, ← HCX.out, hsn]; rfl)
      clear hsn
      by_cases hmx : (sn : Int) = most
      · have t0 : ((sn : Int) == most) = true := by rw [beq_iff_eq]; exact hmx
        have HMX := Lib.hid hmx
        clear hmx
        gi_wp2_with (gi_at_builtin; refine wpListIn_ir1 (w0 := W4) rfl (.tmp 80) (.tmp 82) rfl HJ4.out.row (x : Int) rfl rfl rfl (by have := HLN.out; omega) (by have := HZ1.out; have := HS4.out; omega) ?_; intro v' G W5 k1 k2 k3; obtain ⟨sa, sc, ev⟩ := k1.slice; rw [List.length_append, HLN.out] at ev; rw [show [(x : Int)].length = 1 from rfl, ← HSN.out] at ev; subst ev; have K := Lib.hid (And.intro k1 k2); have HF := Lib.hid (fun b (hb : b ∈ F) => (HJ4.out.row.ty b hb).1); have HB5 := Lib.hid (HBW.out.trans (k2.toBelow (show B ≤ W4.heap.size by have := HZ1.out; have := HS4.out; omega) HF.out)); have d1 := (boxed_out HJ4.out.box k2 (boxed_apart HJ4.out.row HJ4.out.box (by decide))).cell; have d2 := (boxed_out HJ4.out.box k2 (boxed_apart HJ4.out.row HJ4.out.box (by decide))).frozen; have HTL := Lib.hid (HJ4.out.step k1 k2); have hbv := HB5.out.setCell (p := ⟨B, 0, none⟩) (Nat.le_refl _) (.slice sa sn sc); have HBV := Lib.hid hbv; have d3 := HTL.out.box.cell; have d4 := (boxed_at HOZB.out.ol.mb HB.out hbv).cell; clear k1 k2 k3 c1 hbv)
        obtain ⟨V, hV⟩ : ∃ V, V = W5.setCell ⟨B, 0, none⟩ (.slice sa sn sc) := ⟨_, rfl⟩
        have hl : Lp rc W1.heap.size .busy none V := by rw [hV]; exact (lp_out HL4.out HJ4.out.row K.out.2).other (by have := HZ1.out; omega) _
        have htl := HTL.out
        have hbv := HBV.out
        rw [← nums_yes HX.out.2] at htl
        rw [← hV] at htl hbv ⊢
        have hbW := below_put (B := B) (o' := .loop (rc .done (some (.exit 0)))) (by have := HZ1.out; omega) hl.rcd
        refine ⟨hl, .inr ⟨rfl, hl.put, ⟨by have := HSN.out; have := HMX.out; omega, by rw [HTE.out]; exact HMX.out⟩, ⟨_, _, htl.kc (KC.put _ hl.rcd)⟩, hbv.trans hbW, ?_⟩⟩
        rw [World.putObj_size, hV, World.size_setCell]
        exact Nat.le_trans HS4.out K.out.2.size
      · have t0 : ((sn : Int) == most) = false := by rw [beq_eq_false_iff_ne]; exact hmx
        have HMX := Lib.hid hmx
        clear hmx
        gi_wp2_with (gi_at_builtin; refine wpListIn_ir1 (w0 := W4) rfl (.tmp 80) (.tmp 82) rfl HJ4.out.row (x : Int) rfl rfl rfl (by have := HLN.out; omega) (by have := HZ1.out; have := HS4.out; omega) ?_; intro v' G W5 k1 k2 k3; obtain ⟨sa, sc, ev⟩ := k1.slice; rw [List.length_append, HLN.out] at ev; rw [show [(x : Int)].length = 1 from rfl, ← HSN.out] at ev; subst ev; have K := Lib.hid (And.intro k1 k2); have HF := Lib.hid (fun b (hb : b ∈ F) => (HJ4.out.row.ty b hb).1); have HB5 := Lib.hid (HBW.out.trans (k2.toBelow (show B ≤ W4.heap.size by have := HZ1.out; have := HS4.out; omega) HF.out)); have d1 := (boxed_out HJ4.out.box k2 (boxed_apart HJ4.out.row HJ4.out.box (by decide))).cell; have d2 := (boxed_out HJ4.out.box k2 (boxed_apart HJ4.out.row HJ4.out.box (by decide))).frozen; have HTL := Lib.hid (HJ4.out.step k1 k2); have hbv := HB5.out.setCell (p := ⟨B, 0, none⟩) (Nat.le_refl _) (.slice sa sn sc); have HBV := Lib.hid hbv; have d3 := HTL.out.box.cell; have d4 := (boxed_at HOZB.out.ol.mb HB.out hbv).cell; clear k1 k2 k3 c1 hbv)
        obtain ⟨V, hV⟩ : ∃ V, V = W5.setCell ⟨B, 0, none⟩ (.slice sa sn sc) := ⟨_, rfl⟩
        have hl : Lp rc W1.heap.size .busy none V := by rw [hV]; exact (lp_out HL4.out HJ4.out.row K.out.2).other (by have := HZ1.out; omega) _
        have htl := HTL.out
        have hbv := HBV.out
        rw [← nums_yes HX.out.2] at htl
        rw [← hV] at htl hbv ⊢
        have hbW := below_put (B := B) (o' := .loop (rc .ready none)) (by have := HZ1.out; omega) hl.rcd
        refine ⟨hl, .inl ⟨rfl, hl.put, by rw [HTE.out]; have := HSN.out; have := HMX.out; have := HJM.out; omega, ⟨_, _, htl.kc (KC.put _ hl.rcd)⟩, hbv.trans hbW, ?_⟩⟩
        rw [World.putObj_size, hV, World.size_setCell]
        exact Nat.le_trans HS4.out K.out.2.size
  case hrest =>
    rintro W9 rc st j hlp ⟨⟨F, v, htl⟩, hbe, hsz⟩
    obtain ⟨WA, hWA⟩ : ∃ WA, WA = W9.putObj (W1.heap.size + 1) (.loop (rc .exhausted j)) := ⟨_, rfl⟩
    have hp := hlp.put (st' := .exhausted) (j' := j)
    have hbA : Below B W9 WA := by rw [hWA]; exact below_put (by have := HZ1.out; omega) hlp.rcd
    have HTA := Lib.hid (show Tl B (toldL most (numsF m.testBit 64)) F v WA by rw [hWA]; exact htl.kc (KC.put _ hlp.rcd))
    have hbA0 := hbe.trans hbA
    rw [HB.out] at hbA0
    have HOA := Lib.hid (HOZB.out.below hbA0)
    rw [← hWA] at hp ⊢
    have HDA := Lib.hid hp.dfr
    obtain ⟨B2, hB2⟩ : ∃ B2, B2 = WA.heap.size := ⟨_, rfl⟩
    have HBB := Lib.hid hB2
    obtain ⟨W1b, hW1b⟩ : ∃ W1b, W1b = WA.alloc (.cells #[.slice none 0 0] 37) := ⟨_, rfl⟩
    have HZB := Lib.hid (show W1b.heap.size = B2 + 1 by rw [hW1b, hB2]; simp)
    have HTB := Lib.hid (show Tl B2 [] [] (.slice none 0 0) W1b from ⟨Ir.nil _ _, by rw [hW1b, hB2]; exact Boxed.new WA _ _⟩)
    have HBEB := Lib.hid (show Below B2 WA W1b by rw [hW1b, hB2]; exact (Below.refl _ WA).alloc (Nat.le_refl _) _)
    have HEB := Lib.hid hW1b.symm
    have HDL := Lib.hid (show W1.heap.size < B2 by rw [hB2]; exact some_lt hp.dfr)
    clear hWA hp hbA hbA0 hB2 hW1b hlp htl hbe hsz HOZB HT1 HBE1 HE1
    gi_wp2_with fail
    rw [HEB.out, ← HBB.out]
    refine lp_range2 rfl h1 (gf := 41) (lb := #[.pointer (some ⟨cb, 0, none⟩)]) rfl trivial (enters_of Tryd.func41 (by kernel_rfl) rfl) ?_
    intro fn rc hfn hrc W2 hlp hb1 hz1
    refine CallsIn.mono (each1_any (n - 1) cb m HM.out (W1b.heap.size + 1)
      (fun t W => Lp rc W1b.heap.size .ready none W ∧ (∃ F v, Tl B2 t F v W) ∧ Below B2 WA W ∧ W1b.heap.size + 2 ≤ W.heap.size)
      (fun _ _ => False)
      W2 (by omega) ?hS ?hY ?h0) ?hfin
    case hS =>
      rintro t A ⟨_, _, hbe, _⟩
      rw [HBB.out] at hbe
      exact ⟨boxed_below HOA.out.cb hbe, globM_below HOA.out.ol.glob hbe (Nat.le_refl _)⟩
    case h0 => exact ⟨hlp, ⟨_, _, HTB.out.below hb1⟩, HBEB.out.trans (hb1.mono (by rw [HZB.out]; omega)), by rw [hz1]; exact Nat.le_refl _⟩
    case hY =>
      rintro x W2' hx64 hxb ⟨j1, ⟨F, v, j3⟩, j4, j5⟩
      refine lp_yield2 hrc hfn j1 rfl ?_
      clear hrc
      have HL2 := Lib.hid j1
      have HJ2 := Lib.hid j3
      have HB2 := Lib.hid j4
      have HS2 := Lib.hid j5
      have HX := Lib.hid (And.intro hx64 hxb)
      clear j1 j3 j4 j5 hlp hb1 hz1 hx64 hxb
      gi_wp2_with fail
      refine ⟨HL2.out, ?_⟩
      obtain ⟨W4, hW4⟩ : ∃ W4, W4 = W2'.putObj (W1b.heap.size + 1) (.loop (rc .busy none)) := ⟨_, rfl⟩
      have hp := HL2.out.put (st' := .busy) (j' := none)
      rw [← hW4] at hp
      have HL4 := Lib.hid hp
      have hb24 : Below B2 W2' W4 := by rw [hW4]; exact below_put (by have := HZB.out; omega) HL2.out.rcd
      have HJ4 := Lib.hid (show Tl B2 (numsF m.testBit x) F v W4 by rw [hW4]; exact HJ2.out.kc (KC.put _ HL2.out.rcd))
      have HBW := Lib.hid (HB2.out.trans hb24)
      have HS4 := Lib.hid (show W1b.heap.size + 2 ≤ W4.heap.size by rw [hW4, World.putObj_size]; exact HS2.out)
      rw [← hW4]
      clear hp hW4 HL2 HJ2 HB2 hb24 HS2
      have c1 := HJ4.out.box.cell
      have HLN := Lib.hid (show (natI (numsF m.testBit x)).length ≤ 64 by rw [List.length_map, nums_len]; have := cntF_le m.testBit x; have := HX.out.1; omega)
      gi_wp2_with (gi_at_builtin; refine wpListIn_ir1 (w0 := W4) rfl (.tmp 90) (.tmp 92) rfl HJ4.out.row (x : Int) rfl rfl rfl (by have := HLN.out; omega) (by have := HZB.out; have := HS4.out; omega) ?_; intro v' G W5 k1 k2 k3; obtain ⟨sa, sn, sc, rfl⟩ : ∃ sa sn sc, v' = .slice sa sn sc := ⟨_, _, _, k1.slice.choose_spec.choose_spec⟩; have K := Lib.hid (And.intro k1 k2); have HF := Lib.hid (fun b (hb : b ∈ F) => (HJ4.out.row.ty b hb).1); have HB5 := Lib.hid (HBW.out.trans (k2.toBelow (show B2 ≤ W4.heap.size by have := HZB.out; have := HS4.out; omega) HF.out)); have d1 := (boxed_out HJ4.out.box k2 (boxed_apart HJ4.out.row HJ4.out.box (by decide))).cell; have d2 := (boxed_out HJ4.out.box k2 (boxed_apart HJ4.out.row HJ4.out.box (by decide))).frozen; have HTL := Lib.hid (HJ4.out.step k1 k2); have HBV := Lib.hid (HB5.out.setCell (p := ⟨B2, 0, none⟩) (Nat.le_refl _) (.slice sa sn sc)); clear k1 k2 k3 c1)
      obtain ⟨V, hV⟩ : ∃ V, V = W5.setCell ⟨B2, 0, none⟩ (.slice sa sn sc) := ⟨_, rfl⟩
      have hl : Lp rc W1b.heap.size .busy none V := by rw [hV]; exact (lp_out HL4.out HJ4.out.row K.out.2).other (by have := HZB.out; omega) _
      have htl := HTL.out
      have hbv := HBV.out
      rw [← nums_yes HX.out.2] at htl
      rw [← hV] at htl hbv ⊢
      have hbW := below_put (B := B2) (o' := .loop (rc .ready none)) (by have := HZB.out; omega) hl.rcd
      refine ⟨hl, .inl ⟨rfl, hl.put, ⟨_, _, htl.kc (KC.put _ hl.rcd)⟩, hbv.trans hbW, ?_⟩⟩
      rw [World.putObj_size, hV, World.size_setCell]
      exact Nat.le_trans HS4.out K.out.2.size
    case hfin =>
      rintro e W9 ⟨hv, ⟨a1, ⟨F2, v2, a2⟩, a3, a4⟩ | ⟨x0, hx0, hx1, hf⟩⟩
      · refine ⟨hv, .inl ⟨a1, ?_⟩⟩
        have hp := a1.put (st' := .exhausted) (j' := none)
        obtain ⟨WZ, hWZ⟩ : ∃ WZ, WZ = W9.putObj (W1b.heap.size + 1) (.loop (rc .exhausted none)) := ⟨_, rfl⟩
        have hbZ : Below B2 WA WZ := a3.trans (by rw [hWZ]; exact below_put (by have := HZB.out; omega) a1.rcd)
        have ht2 : Tl B2 (numsF m.testBit 64) F2 v2 WZ := by rw [hWZ]; exact a2.kc (KC.put _ a1.rcd)
        rw [← hWZ] at hp ⊢
        have hd1 : WZ.heap[W1.heap.size]? = some (.deferred (some [])) := (hbZ.block _ HDL.out).trans HDA.out
        have hd2 := hp.dfr
        have hbZ2 := hbZ
        rw [HBB.out] at hbZ2
        have hoz := HOA.out.below hbZ2
        have ht1 := HTA.out.below hbZ2
        have hne : W1b.heap.size ≠ W1.heap.size := by have := HZB.out; have := HDL.out; omega
        obtain ⟨hts, htin⟩ := told_sub most m.testBit
        obtain ⟨ta, tc, rfl, s1⟩ := tl_sl ht1 htin hts
        have hL64 : (numsF m.testBit 64).length ≤ 64 := by rw [nums_len]; exact cntF_le _ _
        obtain ⟨tb, td, rfl, s2⟩ := tl_sl ht2 (natI_in _) hL64
        have s3 : Sl WZ wa (natI (numsF m.testBit 64)) := ir_in (c := wc) (by rw [← HWN.out]; exact hoz.row) (natI_in _) (by have := natI_few m.testBit; omega)
        have hwc : wn ≤ wc := by
          rcases hoz.row.form with ⟨e, _, _⟩ | ⟨_, _, _, e, _, _, _, hle, _, _⟩
          · cases e; exact Nat.le_refl _
          · cases e; rw [HWN.out]; exact hle
        have c1 := ht1.box.cell
        have c2 := ht2.box.cell
        have c3 := hoz.ol.mb.cell
        have HD1 := Lib.hid (fun q : Nat => show (WZ.drewN q).heap[W1.heap.size]? = some (.deferred (some [])) from hd1)
        have HD2 := Lib.hid (fun q : Nat => show (WZ.drewN q).heap[W1b.heap.size]? = some (.deferred (some [])) from hd2)
        have HBL := Lib.hid (fun q : Nat => below_drewN hoz.ol.bel q)
        have HNE := Lib.hid hne
        have HI2 := Lib.hid (fun q : Nat => ints_any (s2.drewN q) (s3.drewN q) td wc)
        rw [show (natI (numsF m.testBit 64)).length = wn from HWN.out.symm] at HI2
        rw [← HLL.out] at c2
        have hfinish : ∀ q, Below w.heap.size w (((WZ.drewN q).putObj W1b.heap.size (.deferred none)).putObj W1.heap.size (.deferred none)) ∧ ((WZ.drewN q).putObj W1b.heap.size (.deferred none)).heap[W1.heap.size]? = some (.deferred (some [])) := fun q => by
          have h9 : ((WZ.drewN q).putObj W1b.heap.size (.deferred none)).heap[W1.heap.size]? = some (.deferred (some [])) := (World.putObj_heap_other (Ne.symm HNE.out)).trans (HD1.out q)
          have hwB := HWB.out
          refine ⟨((HBL.out q).trans (below_put (by have := HZB.out; have := HDL.out; have := HZ1.out; omega) (HD2.out q))).trans (below_put (by have := HZ1.out; omega) h9), h9⟩
        have HFI := Lib.hid hfinish
        clear hfinish hd1 hd2 hne hbZ hbZ2 hp a1 a2 a3 a4 hrc hlp hb1 hz1 ht1 ht2 hoz hWZ
        by_cases hA : 0 < most ∧ most < (wn : Int)
        · obtain ⟨hA1, hA2⟩ := hA
          obtain ⟨mo, rfl⟩ := Int.eq_ofNat_of_zero_le (Int.le_of_lt hA1)
          have ht : toldL (mo : Int) (numsF m.testBit 64) = (numsF m.testBit 64).take mo := by
            unfold toldL
            rw [if_pos ⟨hA1, by rw [← HLL.out]; exact hA2⟩, Int.toNat_natCast]
          rw [ht] at s1 c1
          have hln : ((numsF m.testBit 64).take mo).length = mo := by rw [List.length_take, ← HLL.out]; omega
          rw [hln] at c1
          have etk : natI ((numsF m.testBit 64).take mo) = (natI (numsF m.testBit 64)).take mo := List.map_take ..
          have HI1 := Lib.hid (fun q : Nat => ints_any (s1.drewN q) ((s3.take mo).drewN q) tc wc)
          rw [etk] at HI1
          rw [show ((natI (numsF m.testBit 64)).take mo).length = mo by rw [← etk, List.length_map, hln]] at HI1
          have d1 : decide ((0 : Int) < (mo : Int)) = true := by rw [decide_eq_true_eq]; exact hA1
          have d1' : decide (0 < mo) = true := by rw [decide_eq_true_eq]; omega
          have d2 : decide ((mo : Int) < (wn : Int)) = true := by rw [decide_eq_true_eq]; exact hA2
          have d2' : decide (mo < wn) = true := by rw [decide_eq_true_eq]; omega
          have b1 : (mo : Int) ≤ (wc : Int) := by omega
          have b2 : mo ≤ wc := by omega
          clear ht hln etk s1 s2 s3 hts htin hL64
          gi_wp2_with fail
          refine wpIn_wide.2 ?_
          go_quiet (first
            | (go_at_call 26; with_reducible exact Calls.quiet_of ((HI1.out _).mono fun _ _ hh => hh))
            | (go_at_call 26; with_reducible exact Calls.quiet_of ((HI2.out _).mono fun _ _ hh => hh)))
          gi_wp2_with fail
          refine ⟨by simp, .inl ⟨_, _, rfl, run_takeDeferred (HD2.out _), ?_⟩⟩
          refine ⟨by simp, .inl ⟨_, _, rfl, run_takeDeferred (HFI.out _).2, ?_⟩⟩
          refine ⟨.bool true, ?_, rfl, (HFI.out _).1⟩
          simp [results, Tryd.f4, go_sem]
        · have ht : toldL most (numsF m.testBit 64) = numsF m.testBit 64 := by
            unfold toldL
            rw [if_neg (by rw [← HLL.out]; exact hA)]
          rw [ht] at s1 c1
          rw [← HLL.out] at c1
          have HI1 := Lib.hid (fun q : Nat => ints_any (s1.drewN q) (s3.drewN q) tc wc)
          rw [show (natI (numsF m.testBit 64)).length = wn from HWN.out.symm] at HI1
          simp only [decide_true] at HI1 HI2
          have HC1 := Lib.hid c1
          have HC2 := Lib.hid c2
          have I1 := Lib.hid (HI1.out 0)
          rw [World.drewN_zero] at I1
          rcases (show most ≤ 0 ∨ (0 < most ∧ (wn : Int) ≤ most) by omega) with h0 | ⟨h0, h2⟩
          · have d1 : decide ((0 : Int) < most) = false := by rw [decide_eq_false_iff_not]; omega
            clear ht s1 s2 s3 hts htin hL64 hA
            gi_wp2_with fail
            refine ⟨trivial, ?_⟩
            refine (callsIn_wide.2 I1.out).mono ?_
            rintro e' V1 ⟨rfl, q1, rfl⟩
            have e2 : (WZ.drewN q1).cell? ⟨B2, 0, none⟩ = some (.slice tb wn td) := by rw [World.cell?_drewN]; exact HC2.out
            gi_wp2_with fail
            refine ⟨trivial, ?_⟩
            refine (callsIn_wide.2 (HI2.out q1)).mono ?_
            rintro e' V2 ⟨rfl, q2, rfl⟩
            rw [World.drewN_drewN]
            gi_wp2_with fail
            refine ⟨by simp, .inl ⟨_, _, rfl, run_takeDeferred (HD2.out _), ?_⟩⟩
            refine ⟨by simp, .inl ⟨_, _, rfl, run_takeDeferred (HFI.out _).2, ?_⟩⟩
            refine ⟨.bool true, ?_, rfl, (HFI.out _).1⟩
            simp [results, Tryd.f4, go_sem]
          · have d1 : decide ((0 : Int) < most) = true := by rw [decide_eq_true_eq]; omega
            have d2 : decide (most < (wn : Int)) = false := by rw [decide_eq_false_iff_not]; omega
            clear ht s1 s2 s3 hts htin hL64 hA
            gi_wp2_with fail
            refine ⟨trivial, ?_⟩
            refine (callsIn_wide.2 I1.out).mono ?_
            rintro e' V1 ⟨rfl, q1, rfl⟩
            have e2 : (WZ.drewN q1).cell? ⟨B2, 0, none⟩ = some (.slice tb wn td) := by rw [World.cell?_drewN]; exact HC2.out
            gi_wp2_with fail
            refine ⟨trivial, ?_⟩
            refine (callsIn_wide.2 (HI2.out q1)).mono ?_
            rintro e' V2 ⟨rfl, q2, rfl⟩
            rw [World.drewN_drewN]
            gi_wp2_with fail
            refine ⟨by simp, .inl ⟨_, _, rfl, run_takeDeferred (HD2.out _), ?_⟩⟩
            refine ⟨by simp, .inl ⟨_, _, rfl, run_takeDeferred (HFI.out _).2, ?_⟩⟩
            refine ⟨.bool true, ?_, rfl, (HFI.out _).1⟩
            simp [results, Tryd.f4, go_sem]
      · exact hf.elim
theorem masklists_walk {a : Option Addr} {cap : Nat} {l : List Int} {m : Nat} (hm : Wd m) (most : Int) (hmo : In most) (w : World) (hG : GlobM w) (harg : Arg w a cap l) (hlen : l.length ≤ 17592186044000) :
    Calls Tryd.prog 4 #[.slice a l.length cap, .int .u64 (m : Int), .int .i64 most] w fun e w' => e = .returned (.bool true) ∧ Below w.heap.size w w' :=
  (callsIn_wide (n := 5)).1 (masklists_in 5 hm most hmo w hG harg hlen (Nat.le_refl _))
end Go.Proofs.YtngfopnefmknoaaDoor
