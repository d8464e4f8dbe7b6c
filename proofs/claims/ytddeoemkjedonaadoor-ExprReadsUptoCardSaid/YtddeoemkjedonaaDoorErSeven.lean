/- The reference's level 7: leaves, what cannot stand. -/
import Derived.Test.YtddeoemkjedonaaDoorMErMarks
namespace Go.Proofs.YtddeoemkjedonaaDoor
open Go.RowKit Go.Shelf
set_option maxRecDepth 100000

theorem gL_tok {L : List TokE} {k : Nat} (h : gL L k ≠ .no) : k < L.length ∧ gL L k = clT (L.getD k default) := by
  rcases Nat.lt_or_ge k L.length with h' | h'
  · exact ⟨h', by unfold gL; rw [if_pos h']⟩
  · exact absurd (by unfold gL; rw [if_neg (by omega)]) h
set_option maxHeartbeats 2000000 in
theorem seventh_no (p cap k : Nat) (a : Option Addr) (L : List TokE) (w : World) (h : RSt w p cap a L k (-1)) (hg : gL L k = .no) :
    Calls Tryd.prog 20 #[.pointer (some ⟨p, 0, none⟩)] w (RdT L (.lvl 7) k p cap a w) := by
  have HN := Lib.hid (rnext_any p cap k (-1) a L w h)
  have HH := Lib.hid h
  have HG := Lib.hid hg
  have sf := store_float
  clear hg h
  go_enter Tryd.func20, Tryd.ntmps20
  go_upto_region 2 with (go_at_call 28; refine HN.out.mono ?_; rintro e w1 ⟨hc, hb⟩; rcases hc with ⟨_, rfl⟩ | ⟨hx, _, _⟩; rotate_left; (exact absurd HG.out hx); have HB := Lib.hid (hb.alloc hb.size (.cells zTok.toArray 36)); clear hb; unfold zTok)
  unfold zTok at HB
  generalize w1.alloc _ = W at HB ⊢
  have HS := Lib.hid (HH.out.below HB.out)
  go_wp2_with (go_at_call 29; refine (rbad_any p cap k a L _ HS.out).mono ?_; rintro e w2 ⟨rfl, rfl⟩)
  go_ret
  exact ⟨.inl ⟨k, k, Rd.no HG.out, rfl, HS.out.mark k⟩, (HB.out.mono (Nat.le_of_lt HH.out.rdr.lt)).setCell (Nat.le_refl p) _, (Oth.of_below HB.out).set 2 _⟩
/-- the token's box -/
theorem tok_box {w w1 : World} {p cap k : Nat} {bad : Int} {a : Option Addr} {L : List TokE} (t : TokE) (h : RSt w p cap a L k bad) (hb : Below w.heap.size w w1) :
    ∃ W, W = w1.alloc (.cells #[.int .i64 t.kd, .string t.tx, .int .i64 t.iv, .float .f64 t.rl, .int .i64 t.pl, .int .i64 t.sz] 36) ∧ Bx W w1.heap.size 36 (tkC t) ∧ Below w.heap.size w W ∧ RSt W p cap a L k bad ∧ p < w1.heap.size := by
  have hb2 : Below w.heap.size w (w1.alloc (.cells (tkC t).toArray 36)) := hb.alloc hb.size _
  exact ⟨_, rfl, Bx.new w1 _ (tkC t), hb2, h.below hb2, Nat.lt_of_lt_of_le h.rdr.lt hb.size⟩
set_option maxHeartbeats 2000000 in
theorem seventh_mark (p cap k : Nat) (a : Option Addr) (L : List TokE) (w : World) (h : RSt w p cap a L k (-1)) (hk : k < L.length) (h5 : (L.getD k default).kd = 5) (ht : ((L.getD k default).tx.data.toList == [40]) = false) (hg : gL L k = .mark (L.getD k default).tx.data.toList) :
    Calls Tryd.prog 20 #[.pointer (some ⟨p, 0, none⟩)] w (RdT L (.lvl 7) k p cap a w) := by
  have HN := Lib.hid (rnext_any p cap k (-1) a L w h)
  have HH := Lib.hid h
  have HR : Hid (Rd (gL L) (.lvl 7) k (.bad k)) := Lib.hid (Rd.mark hg (beq_eq_false_iff_ne.1 ht))
  have HG : Hid (gL L k ≠ .no) := Lib.hid (by rw [hg]; exact fun h => by cases h)
  have sf := store_float
  unfold NextD tkC at HN
  generalize L.getD k default = t at HN h5 ht
  have e1 : (t.tx.toList == [40]) = false := by rw [tl_dat]; exact ht
  have HKD := Lib.hid h5
  clear hg h hk ht h5
  go_enter Tryd.func20, Tryd.ntmps20
  go_upto_region 2 with (go_at_call 28; refine HN.out.mono ?_; rintro e w1 ⟨hc, hb⟩; rcases hc with ⟨hx, _⟩ | ⟨_, _, rfl⟩; (exact absurd hx HG.out); have HB1 := Lib.hid hb; clear hb)
  obtain ⟨W, hW, hx, hbw, hsw, hpl⟩ := tok_box t HH.out HB1.out
  rw [← hW]
  have x0 := hx.c 0 rfl
  have x1 := hx.c 1 rfl
  rw [HKD.out] at x0
  have HB := Lib.hid hbw
  have HS := Lib.hid hsw
  clear hW hx hbw hsw
  go_wp2_with (go_at_call 29; refine (rbad_any p cap k a L _ HS.out).mono ?_; rintro e w2 ⟨rfl, rfl⟩)
  go_ret
  exact ⟨.inl ⟨k, k, HR.out, rfl, HS.out.mark k⟩, (HB.out.mono (Nat.le_of_lt HH.out.rdr.lt)).setCell (Nat.le_refl p) _, (Oth.of_below HB.out).set 2 _⟩
/-- behind a leaf -/
theorem leaf_done {w W : World} {p cap k : Nat} {a : Option Addr} {L : List TokE} {l : Lf} (hr : Rd (gL L) (.lvl 7) k (.ok (.lf l) (k + 1))) (hS : RSt W p cap a L (k + 1) (-1)) (hB : Below p w W ∧ Oth p w W) (W2 : World) (c : List Value)
    (hc : c = trC (leafN l) (.slice none 0 0)) (hW : W2 = W.alloc (.cells c.toArray 69)) : RdT L (.lvl 7) k p cap a w (.returned (.pointer (some ⟨W.heap.size, 0, none⟩))) W2 := by
  subst hc hW
  have hb : Below W.heap.size W (W.alloc (.cells (trC (leafN l) (.slice none 0 0)).toArray 69)) := (Below.refl _ W).alloc (Nat.le_refl _) _
  exact ⟨.inr ⟨.lf l, k + 1, _, hr, by show 1 + k ≤ k + 1; omega, rfl, hS.below hb, by have := hS.rdr.lt; have := hB.2.1; omega, Bx.new W _ _⟩, hB.1.trans (hb.mono (Nat.le_of_lt hS.rdr.lt)), hB.2.trans (Oth.of_below hb)⟩
set_option maxHeartbeats 2000000 in
theorem seventh_int (p cap k : Nat) (a : Option Addr) (L : List TokE) (w : World) (h : RSt w p cap a L k (-1)) (hk : k < L.length) (hkd : (L.getD k default).kd = 2) (hG : gL L k ≠ .no) (hr : Rd (gL L) (.lvl 7) k (.ok (.lf (.int (L.getD k default).iv)) (k + 1))) :
    Calls Tryd.prog 20 #[.pointer (some ⟨p, 0, none⟩)] w (RdT L (.lvl 7) k p cap a w) := by
  have HN := Lib.hid (rnext_any p cap k (-1) a L w h)
  have HH := Lib.hid h
  have HR := Lib.hid hr
  have HG := Lib.hid hG
  have sf := store_float
  have hlen := h.len
  unfold NextD tkC at HN
  generalize L.getD k default = t at *
  have HKD := Lib.hid hkd
  clear hG hr h hkd
  go_enter Tryd.func20, Tryd.ntmps20
  go_upto_region 2 with (go_at_call 28; refine HN.out.mono ?_; rintro e w1 ⟨hc, hb⟩; rcases hc with ⟨hx, _⟩ | ⟨_, _, rfl⟩; (exact absurd hx HG.out); have HB1 := Lib.hid hb; clear hb)
  obtain ⟨W, hW, hx, hbw, hsw, hpl⟩ := tok_box t HH.out HB1.out
  rw [← hW]
  have x0 := hx.c 0 rfl
  rw [HKD.out] at x0
  have HX := Lib.hid hx
  have HB := Lib.hid hbw
  have HS := Lib.hid hsw
  have c1 := hsw.rdr.c1
  have fz := hsw.rdr.fz (o := 1)
  clear hW hx hbw hsw
  go_upto_region 7 with (fail)
  rw [show (k : Int) + 1 = ((k + 1 : Nat) : Int) from rfl]
  have HMV := Lib.hid (HS.out.move (k + 1) (by omega))
  have HXM := Lib.hid (HX.out.other (h := p) (by omega) 1 (.int .i64 ((k + 1 : Nat) : Int)))
  have HBM : Hid (Below p w (W.setCell ⟨p, 1, none⟩ (.int .i64 ((k + 1 : Nat) : Int))) ∧ Oth p w (W.setCell ⟨p, 1, none⟩ (.int .i64 ((k + 1 : Nat) : Int)))) := Lib.hid ⟨(HB.out.mono (Nat.le_of_lt HH.out.rdr.lt)).setCell (Nat.le_refl p) _, (Oth.of_below HB.out).set 1 _⟩
  generalize W.setCell ⟨p, 1, none⟩ (.int .i64 ((k + 1 : Nat) : Int)) = WM at HMV HBM HXM ⊢
  clear x0 c1 fz
  have x0 := HXM.out.c 0 rfl
  have x1 := HXM.out.c 1 rfl
  have x2 := HXM.out.c 2 rfl
  have x3 := HXM.out.c 3 rfl
  try rw [HKD.out] at x0
  go_wp2
  go_ret
  exact leaf_done HR.out HMV.out HBM.out _ _ rfl rfl
set_option maxHeartbeats 2000000 in
theorem seventh_real (p cap k : Nat) (a : Option Addr) (L : List TokE) (w : World) (h : RSt w p cap a L k (-1)) (hk : k < L.length) (hkd : (L.getD k default).kd = 3) (hG : gL L k ≠ .no) (hr : Rd (gL L) (.lvl 7) k (.ok (.lf (.real (L.getD k default).rl)) (k + 1))) :
    Calls Tryd.prog 20 #[.pointer (some ⟨p, 0, none⟩)] w (RdT L (.lvl 7) k p cap a w) := by
  have HN := Lib.hid (rnext_any p cap k (-1) a L w h)
  have HH := Lib.hid h
  have HR := Lib.hid hr
  have HG := Lib.hid hG
  have sf := store_float
  have hlen := h.len
  unfold NextD tkC at HN
  generalize L.getD k default = t at *
  have HKD := Lib.hid hkd
  clear hG hr h hkd
  go_enter Tryd.func20, Tryd.ntmps20
  go_upto_region 2 with (go_at_call 28; refine HN.out.mono ?_; rintro e w1 ⟨hc, hb⟩; rcases hc with ⟨hx, _⟩ | ⟨_, _, rfl⟩; (exact absurd hx HG.out); have HB1 := Lib.hid hb; clear hb)
  obtain ⟨W, hW, hx, hbw, hsw, hpl⟩ := tok_box t HH.out HB1.out
  rw [← hW]
  have x0 := hx.c 0 rfl
  rw [HKD.out] at x0
  have HX := Lib.hid hx
  have HB := Lib.hid hbw
  have HS := Lib.hid hsw
  have c1 := hsw.rdr.c1
  have fz := hsw.rdr.fz (o := 1)
  clear hW hx hbw hsw
  go_upto_region 7 with (fail)
  rw [show (k : Int) + 1 = ((k + 1 : Nat) : Int) from rfl]
  have HMV := Lib.hid (HS.out.move (k + 1) (by omega))
  have HXM := Lib.hid (HX.out.other (h := p) (by omega) 1 (.int .i64 ((k + 1 : Nat) : Int)))
  have HBM : Hid (Below p w (W.setCell ⟨p, 1, none⟩ (.int .i64 ((k + 1 : Nat) : Int))) ∧ Oth p w (W.setCell ⟨p, 1, none⟩ (.int .i64 ((k + 1 : Nat) : Int)))) := Lib.hid ⟨(HB.out.mono (Nat.le_of_lt HH.out.rdr.lt)).setCell (Nat.le_refl p) _, (Oth.of_below HB.out).set 1 _⟩
  generalize W.setCell ⟨p, 1, none⟩ (.int .i64 ((k + 1 : Nat) : Int)) = WM at HMV HBM HXM ⊢
  clear x0 c1 fz
  have x0 := HXM.out.c 0 rfl
  have x1 := HXM.out.c 1 rfl
  have x2 := HXM.out.c 2 rfl
  have x3 := HXM.out.c 3 rfl
  try rw [HKD.out] at x0
  go_wp2
  go_ret
  exact leaf_done HR.out HMV.out HBM.out _ _ rfl rfl
set_option maxHeartbeats 2000000 in
theorem seventh_text (p cap k : Nat) (a : Option Addr) (L : List TokE) (w : World) (h : RSt w p cap a L k (-1)) (hk : k < L.length) (hkd : (L.getD k default).kd = 4) (hG : gL L k ≠ .no) (hr : Rd (gL L) (.lvl 7) k (.ok (.lf (.text (L.getD k default).tx)) (k + 1))) :
    Calls Tryd.prog 20 #[.pointer (some ⟨p, 0, none⟩)] w (RdT L (.lvl 7) k p cap a w) := by
  have HN := Lib.hid (rnext_any p cap k (-1) a L w h)
  have HH := Lib.hid h
  have HR := Lib.hid hr
  have HG := Lib.hid hG
  have sf := store_float
  have hlen := h.len
  unfold NextD tkC at HN
  generalize L.getD k default = t at *
  have HKD := Lib.hid hkd
  clear hG hr h hkd
  go_enter Tryd.func20, Tryd.ntmps20
  go_upto_region 2 with (go_at_call 28; refine HN.out.mono ?_; rintro e w1 ⟨hc, hb⟩; rcases hc with ⟨hx, _⟩ | ⟨_, _, rfl⟩; (exact absurd hx HG.out); have HB1 := Lib.hid hb; clear hb)
  obtain ⟨W, hW, hx, hbw, hsw, hpl⟩ := tok_box t HH.out HB1.out
  rw [← hW]
  have x0 := hx.c 0 rfl
  rw [HKD.out] at x0
  have HX := Lib.hid hx
  have HB := Lib.hid hbw
  have HS := Lib.hid hsw
  have c1 := hsw.rdr.c1
  have fz := hsw.rdr.fz (o := 1)
  clear hW hx hbw hsw
  go_upto_region 7 with (fail)
  rw [show (k : Int) + 1 = ((k + 1 : Nat) : Int) from rfl]
  have HMV := Lib.hid (HS.out.move (k + 1) (by omega))
  have HXM := Lib.hid (HX.out.other (h := p) (by omega) 1 (.int .i64 ((k + 1 : Nat) : Int)))
  have HBM : Hid (Below p w (W.setCell ⟨p, 1, none⟩ (.int .i64 ((k + 1 : Nat) : Int))) ∧ Oth p w (W.setCell ⟨p, 1, none⟩ (.int .i64 ((k + 1 : Nat) : Int)))) := Lib.hid ⟨(HB.out.mono (Nat.le_of_lt HH.out.rdr.lt)).setCell (Nat.le_refl p) _, (Oth.of_below HB.out).set 1 _⟩
  generalize W.setCell ⟨p, 1, none⟩ (.int .i64 ((k + 1 : Nat) : Int)) = WM at HMV HBM HXM ⊢
  clear x0 c1 fz
  have x0 := HXM.out.c 0 rfl
  have x1 := HXM.out.c 1 rfl
  have x2 := HXM.out.c 2 rfl
  have x3 := HXM.out.c 3 rfl
  try rw [HKD.out] at x0
  go_wp2
  go_ret
  exact leaf_done HR.out HMV.out HBM.out _ _ rfl rfl
set_option maxHeartbeats 2000000 in
theorem seventh_true (p cap k : Nat) (a : Option Addr) (L : List TokE) (w : World) (h : RSt w p cap a L k (-1)) (hk : k < L.length) (hkd : (L.getD k default).kd = 1) (ht : (L.getD k default).tx.data.toList = [116, 114, 117, 101]) (hG : gL L k ≠ .no) (hr : Rd (gL L) (.lvl 7) k (.ok (.lf (.bool true)) (k + 1))) :
    Calls Tryd.prog 20 #[.pointer (some ⟨p, 0, none⟩)] w (RdT L (.lvl 7) k p cap a w) := by
  have HN := Lib.hid (rnext_any p cap k (-1) a L w h)
  have HH := Lib.hid h
  have HR := Lib.hid hr
  have HG := Lib.hid hG
  have sf := store_float
  have hlen := h.len
  unfold NextD tkC at HN
  generalize L.getD k default = t at *
  have HKD := Lib.hid hkd
  have e1 : (t.tx.toList == [116, 114, 117, 101]) = true := by rw [tl_dat, ht]; rfl
  clear ht
  clear hG hr h hkd
  go_enter Tryd.func20, Tryd.ntmps20
  go_upto_region 2 with (go_at_call 28; refine HN.out.mono ?_; rintro e w1 ⟨hc, hb⟩; rcases hc with ⟨hx, _⟩ | ⟨_, _, rfl⟩; (exact absurd hx HG.out); have HB1 := Lib.hid hb; clear hb)
  obtain ⟨W, hW, hx, hbw, hsw, hpl⟩ := tok_box t HH.out HB1.out
  rw [← hW]
  have x0 := hx.c 0 rfl
  rw [HKD.out] at x0
  have HX := Lib.hid hx
  have HB := Lib.hid hbw
  have HS := Lib.hid hsw
  have c1 := hsw.rdr.c1
  have fz := hsw.rdr.fz (o := 1)
  clear hW hx hbw hsw
  go_upto_region 7 with (fail)
  rw [show (k : Int) + 1 = ((k + 1 : Nat) : Int) from rfl]
  have HMV := Lib.hid (HS.out.move (k + 1) (by omega))
  have HXM := Lib.hid (HX.out.other (h := p) (by omega) 1 (.int .i64 ((k + 1 : Nat) : Int)))
  have HBM : Hid (Below p w (W.setCell ⟨p, 1, none⟩ (.int .i64 ((k + 1 : Nat) : Int))) ∧ Oth p w (W.setCell ⟨p, 1, none⟩ (.int .i64 ((k + 1 : Nat) : Int)))) := Lib.hid ⟨(HB.out.mono (Nat.le_of_lt HH.out.rdr.lt)).setCell (Nat.le_refl p) _, (Oth.of_below HB.out).set 1 _⟩
  generalize W.setCell ⟨p, 1, none⟩ (.int .i64 ((k + 1 : Nat) : Int)) = WM at HMV HBM HXM ⊢
  clear x0 c1 fz
  have x0 := HXM.out.c 0 rfl
  have x1 := HXM.out.c 1 rfl
  have x2 := HXM.out.c 2 rfl
  have x3 := HXM.out.c 3 rfl
  try rw [HKD.out] at x0
  go_wp2
  go_ret
  exact leaf_done HR.out HMV.out HBM.out _ _ rfl rfl
set_option maxHeartbeats 2000000 in
theorem seventh_false (p cap k : Nat) (a : Option Addr) (L : List TokE) (w : World) (h : RSt w p cap a L k (-1)) (hk : k < L.length) (hkd : (L.getD k default).kd = 1) (ht : (L.getD k default).tx.data.toList = [102, 97, 108, 115, 101]) (hG : gL L k ≠ .no) (hr : Rd (gL L) (.lvl 7) k (.ok (.lf (.bool false)) (k + 1))) :
    Calls Tryd.prog 20 #[.pointer (some ⟨p, 0, none⟩)] w (RdT L (.lvl 7) k p cap a w) := by
  have HN := Lib.hid (rnext_any p cap k (-1) a L w h)
  have HH := Lib.hid h
  have HR := Lib.hid hr
  have HG := Lib.hid hG
  have sf := store_float
  have hlen := h.len
  unfold NextD tkC at HN
  generalize L.getD k default = t at *
  have HKD := Lib.hid hkd
  have e1 : (t.tx.toList == [116, 114, 117, 101]) = false := by rw [tl_dat, ht]; rfl
  have e2 : (t.tx.toList == [102, 97, 108, 115, 101]) = true := by rw [tl_dat, ht]; rfl
  clear ht
  clear hG hr h hkd
  go_enter Tryd.func20, Tryd.ntmps20
  go_upto_region 2 with (go_at_call 28; refine HN.out.mono ?_; rintro e w1 ⟨hc, hb⟩; rcases hc with ⟨hx, _⟩ | ⟨_, _, rfl⟩; (exact absurd hx HG.out); have HB1 := Lib.hid hb; clear hb)
  obtain ⟨W, hW, hx, hbw, hsw, hpl⟩ := tok_box t HH.out HB1.out
  rw [← hW]
  have x0 := hx.c 0 rfl
  rw [HKD.out] at x0
  have HX := Lib.hid hx
  have HB := Lib.hid hbw
  have HS := Lib.hid hsw
  have c1 := hsw.rdr.c1
  have fz := hsw.rdr.fz (o := 1)
  clear hW hx hbw hsw
  go_upto_region 7 with (fail)
  rw [show (k : Int) + 1 = ((k + 1 : Nat) : Int) from rfl]
  have HMV := Lib.hid (HS.out.move (k + 1) (by omega))
  have HXM := Lib.hid (HX.out.other (h := p) (by omega) 1 (.int .i64 ((k + 1 : Nat) : Int)))
  have HBM : Hid (Below p w (W.setCell ⟨p, 1, none⟩ (.int .i64 ((k + 1 : Nat) : Int))) ∧ Oth p w (W.setCell ⟨p, 1, none⟩ (.int .i64 ((k + 1 : Nat) : Int)))) := Lib.hid ⟨(HB.out.mono (Nat.le_of_lt HH.out.rdr.lt)).setCell (Nat.le_refl p) _, (Oth.of_below HB.out).set 1 _⟩
  generalize W.setCell ⟨p, 1, none⟩ (.int .i64 ((k + 1 : Nat) : Int)) = WM at HMV HBM HXM ⊢
  clear x0 c1 fz
  have x0 := HXM.out.c 0 rfl
  have x1 := HXM.out.c 1 rfl
  have x2 := HXM.out.c 2 rfl
  have x3 := HXM.out.c 3 rfl
  try rw [HKD.out] at x0
  go_wp2
  go_ret
  exact leaf_done HR.out HMV.out HBM.out _ _ rfl rfl
set_option maxHeartbeats 2000000 in
theorem seventh_var (p cap k : Nat) (a : Option Addr) (L : List TokE) (w : World) (h : RSt w p cap a L k (-1)) (hk : k < L.length) (hkd : (L.getD k default).kd = 1) (ht : (L.getD k default).tx.data.toList ≠ [116, 114, 117, 101]) (hf : (L.getD k default).tx.data.toList ≠ [102, 97, 108, 115, 101]) (hw : wordK (L.getD k default).tx.data.toList = 0) (hG : gL L k ≠ .no) (hr : Rd (gL L) (.lvl 7) k (.ok (.lf (.var (L.getD k default).tx)) (k + 1))) :
    Calls Tryd.prog 20 #[.pointer (some ⟨p, 0, none⟩)] w (RdT L (.lvl 7) k p cap a w) := by
  have HN := Lib.hid (rnext_any p cap k (-1) a L w h)
  have HH := Lib.hid h
  have HR := Lib.hid hr
  have HG := Lib.hid hG
  have sf := store_float
  have hlen := h.len
  unfold NextD tkC at HN
  generalize L.getD k default = t at *
  have HKD := Lib.hid hkd
  have e1 : (t.tx.toList == [116, 114, 117, 101]) = false := by rw [tl_dat]; exact beq_eq_false_iff_ne.2 ht
  have e2 : (t.tx.toList == [102, 97, 108, 115, 101]) = false := by rw [tl_dat]; exact beq_eq_false_iff_ne.2 hf
  have HWK := fun W => Lib.hid (wordKind_any t.tx W)
  rw [hw] at HWK
  clear ht hf hw
  clear hG hr h hkd
  go_enter Tryd.func20, Tryd.ntmps20
  go_upto_region 2 with (go_at_call 28; refine HN.out.mono ?_; rintro e w1 ⟨hc, hb⟩; rcases hc with ⟨hx, _⟩ | ⟨_, _, rfl⟩; (exact absurd hx HG.out); have HB1 := Lib.hid hb; clear hb)
  obtain ⟨W, hW, hx, hbw, hsw, hpl⟩ := tok_box t HH.out HB1.out
  rw [← hW]
  have x0 := hx.c 0 rfl
  rw [HKD.out] at x0
  have HX := Lib.hid hx
  have HB := Lib.hid hbw
  have HS := Lib.hid hsw
  have c1 := hsw.rdr.c1
  have fz := hsw.rdr.fz (o := 1)
  clear hW hx hbw hsw
  go_upto_region 7 with (fail)
  rw [show (k : Int) + 1 = ((k + 1 : Nat) : Int) from rfl]
  have HMV := Lib.hid (HS.out.move (k + 1) (by omega))
  have HXM := Lib.hid (HX.out.other (h := p) (by omega) 1 (.int .i64 ((k + 1 : Nat) : Int)))
  have HBM : Hid (Below p w (W.setCell ⟨p, 1, none⟩ (.int .i64 ((k + 1 : Nat) : Int))) ∧ Oth p w (W.setCell ⟨p, 1, none⟩ (.int .i64 ((k + 1 : Nat) : Int)))) := Lib.hid ⟨(HB.out.mono (Nat.le_of_lt HH.out.rdr.lt)).setCell (Nat.le_refl p) _, (Oth.of_below HB.out).set 1 _⟩
  generalize W.setCell ⟨p, 1, none⟩ (.int .i64 ((k + 1 : Nat) : Int)) = WM at HMV HBM HXM ⊢
  clear x0 c1 fz
  have x0 := HXM.out.c 0 rfl
  have x1 := HXM.out.c 1 rfl
  have x2 := HXM.out.c 2 rfl
  have x3 := HXM.out.c 3 rfl
  try rw [HKD.out] at x0
  go_wp2_with (go_at_call 31; refine (HWK _).out.mono ?_; rintro e w2 ⟨rfl, hb2⟩; have HM2 := Lib.hid (HMV.out.below hb2); have HB2 := Lib.hid (And.intro (HBM.out.1.trans (hb2.mono (Nat.le_of_lt HMV.out.rdr.lt))) (HBM.out.2.trans (Oth.of_below hb2))); have HX2 := Lib.hid (HXM.out.keep hb2 HXM.out.lt); clear hb2; have y1 := HX2.out.c 1 rfl)
  go_ret
  exact leaf_done HR.out HM2.out HB2.out _ _ rfl rfl
end Go.Proofs.YtddeoemkjedonaaDoor
