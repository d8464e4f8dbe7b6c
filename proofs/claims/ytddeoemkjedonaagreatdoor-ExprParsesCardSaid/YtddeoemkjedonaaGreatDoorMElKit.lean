/- What ExprParses holds: the copy of the text that is handed about; both sides tell one answer. -/
import Derived.Test.YtddeoemkjedonaaGreatDoorElSame
namespace Go.Proofs.YtddeoemkjedonaaGreatDoor
open Go.RowKit Go.Shelf
set_option maxRecDepth 100000

/-- the copy that the law works on: its bytes and the two marks behind them, and the world as it was -/
def HeldE (w wr : World) (g c n : Nat) (zs : List UInt8) : Prop :=
  zs.length = n ∧ wr.ownsRow w.heap.size 5 1 (.slice (some ⟨g, 0, none⟩) (n + 2) c) (n + 2) (u8s (zs ++ [201, 202])) ∧ Below w.heap.size w wr
section
variable {w wr w' : World} {g c n : Nat} {zs : List UInt8}
theorem HeldE.below (h : HeldE w wr g c n zs) (hb : Below wr.heap.size wr w') : HeldE w w' g c n zs := ⟨h.1, own_keep h.2.1 hb (Nat.le_refl _), h.2.2.trans (hb.mono h.2.2.size)⟩
theorem HeldE.cap (h : HeldE w wr g c n zs) : n + 2 ≤ c ∧ c ≤ maxLen := by
  rcases h.2.1.2 with ⟨h', _⟩ | ⟨_, _, _, he, _, _, h1, h2, _⟩
  · cases h'
  · cases he; exact ⟨h1, h2⟩
theorem HeldE.lt (h : HeldE w wr g c n zs) : w.heap.size ≤ g ∧ g < wr.heap.size := h.2.1.lt g rfl
theorem HeldE.atAll (h : HeldE w wr g c n zs) : At wr ⟨g, 0, none⟩ (zs ++ [201, 202]) := At.owned h.2.1
theorem HeldE.txt (h : HeldE w wr g c n zs) : Txt wr (some ⟨g, 0, none⟩) n c zs := ⟨h.1, by have := h.cap; omega, h.cap.2, .inr ⟨_, rfl, h.atAll.left⟩⟩
theorem HeldE.cell (h : HeldE w wr g c n zs) {i : Nat} (hi : i < n) : wr.cell? ⟨g, i, none⟩ = some (.int .u8 ((bAt zs i).toNat : Int)) := by
  obtain ⟨b, o, e, hc⟩ := h.txt.cellAt hi
  cases e
  rw [Nat.zero_add] at hc
  exact hc
theorem HeldE.free (h : HeldE w wr g c n zs) (i : Nat) : wr.frozen? ⟨g, i, none⟩ = false := h.2.1.frozenAt i
theorem u8s_put (l : List UInt8) (i : Nat) (d : UInt8) : u8s (l.set i d) = (u8s l).set i (.int .u8 (d.toNat : Int)) := by unfold u8s; rw [List.map_set]
theorem HeldE.set (h : HeldE w wr g c n zs) {i : Nat} (hi : i < n) (d : UInt8) : HeldE w (wr.setCell ⟨g, i, none⟩ (.int .u8 (d.toNat : Int))) g c n (zs.set i d) := by
  obtain ⟨h1, h3, h4⟩ := h
  refine ⟨by simp [h1], ?_, h4.setCell (h3.lt g rfl).1 _⟩
  have := (h3.stored i (.int .u8 (d.toNat : Int))).1
  rw [← u8s_put, List.set_append_left _ _ (by omega)] at this
  exact this
end
theorem parR_one {L : List TokE} {n : Nat} {o o' : Option Ex} {a a' f f' : Int} (h : ParR L n o a f) (h' : ParR L n o' a' f') : o = o' ∧ a = a' ∧ f = f' := by
  rcases h with ⟨q, h1, rfl, rfl, rfl⟩ | ⟨t, q, h1, hq, rfl, rfl, rfl⟩ | ⟨t, h1, hf, rfl, rfl, rfl⟩ | ⟨t, h1, hf, rfl, rfl, rfl⟩ <;>
  rcases h' with ⟨q', h2, rfl, rfl, rfl⟩ | ⟨t', q', h2, hq', rfl, rfl, rfl⟩ | ⟨t', h2, hf', rfl, rfl, rfl⟩ | ⟨t', h2, hf', rfl, rfl, rfl⟩ <;>
  (have e := h1.one h2
   first
   | (simp only [reduceCtorEq] at e; done)
   | (simp only [Rs.bad.injEq, Rs.ok.injEq] at e
      try (first | (obtain ⟨rfl, h3⟩ := e) | subst e)
      first | exact ⟨rfl, rfl, rfl⟩ | (subst h3; exact ⟨rfl, rfl, rfl⟩) | (exfalso; omega) | contradiction))
/-- the second answer, the first being known: no expression -/
theorem parse_none {l : List UInt8} {n : Nat} {w w1 : World} {e : Ending} {at_ f : Int} (h0 : ((allR l).2.2 ≠ 0 ∧ at_ = ((allR l).2.1 : Nat) ∧ f = ((allR l).2.2 : Nat)) ∨ ((allR l).2.2 = 0 ∧ ParR (toksL l) n none at_ f)) (h : ParseD l n w e w1) :
    e = .returned (.tuple #[.agg #[.slice none 0 0], .int .i64 at_, .int .i64 f]) ∧ Below w.heap.size w w1 := by
  obtain ⟨hc, hb⟩ := h
  refine ⟨?_, hb⟩
  rcases hc with ⟨a', f', h1, rfl⟩ | ⟨t, g, c, hz, hp, _⟩
  · rcases h0 with ⟨hn, rfl, rfl⟩ | ⟨hz, hp⟩ <;> rcases h1 with ⟨hn', rfl, rfl⟩ | ⟨hz', hp'⟩
    · rfl
    · exact absurd hz' hn
    · exact absurd hz hn'
    · obtain ⟨_, rfl, rfl⟩ := parR_one hp hp'
      rfl
  · rcases h0 with ⟨hn, _⟩ | ⟨_, hp'⟩
    · exact absurd hz hn
    · have := (parR_one hp hp').1
      cases this
/-- the second answer, the first being known: an expression -/
theorem parse_some {l : List UInt8} {n : Nat} {w w1 : World} {e : Ending} {t : Ex} (hz : (allR l).2.2 = 0) (h0 : ParR (toksL l) n (some t) 0 0) (h : ParseD l n w e w1) :
    ∃ g c, e = .returned (.tuple #[.agg #[.slice (some ⟨g, 0, none⟩) (cnt t) c], .int .i64 0, .int .i64 0]) ∧ w.heap.size ≤ g ∧ g < w1.heap.size ∧ NodesAt w1 g (lay 0 t) ∧ Below w.heap.size w w1 := by
  obtain ⟨hc, hb⟩ := h
  rcases hc with ⟨a', f', h1, rfl⟩ | ⟨t', g, c, hz', hp, rfl, h2, h3, h4⟩
  · rcases h1 with ⟨hn', _⟩ | ⟨_, hp'⟩
    · exact absurd hz hn'
    · have := (parR_one h0 hp').1
      cases this
  · have := (parR_one h0 hp).1
    cases this
    exact ⟨g, c, rfl, h2, h3, h4, hb⟩
theorem parR_some {L : List TokE} {n : Nat} {t : Ex} {a f : Int} (h : ParR L n (some t) a f) : WfT t ∧ cnt t ≤ 64 := by
  rcases h with ⟨q, h1, h, _⟩ | ⟨t, q, h1, hq, h, _⟩ | ⟨t, h1, hf, h, _⟩ | ⟨t', h1, hf, h, _⟩
  · cases h
  · cases h
  · cases h
  · cases h
    refine ⟨h1.wf (by omega), ?_⟩
    rcases faultT_cases t with ⟨_, h, _⟩ | h | h
    · exact h
    · omega
    · omega
set_option maxHeartbeats 1000000 in
theorem same_none (w : World) : Calls Tryz.prog 7 #[.agg #[.slice none 0 0], .agg #[.slice none 0 0]] w fun e w' => e = .returned (.bool true) ∧ Below w.heap.size w w' := by
  obtain ⟨W0, hW0, ha, hb, hB, hsz⟩ := new2 w 26 [.slice none 0 0] [.slice none 0 0]
  have HW0 := Lib.hid hW0
  have HB := Lib.hid hB
  have a0 := ha.c 0 rfl
  have b0 := hb.c 0 rfl
  clear hW0 ha hb hB
  go_enter Tryz.func7, Tryz.ntmps7
  go_upto_region 1 with (fail)
  rw [← HW0.out]
  go_wp2
  go_loopw [5] (fun i wr => i = .int .i64 0 ∧ wr = W0) (fun _ _ => 0)
  case atStart => exact ⟨rfl, rfl⟩
  case round =>
    obtain ⟨rfl, rfl⟩ := hrel
    go_wp2
    go_ret
    exact ⟨rfl, HB.out⟩
end Go.Proofs.YtddeoemkjedonaaGreatDoor
/- ExprParses. -/
namespace Go.Proofs.YtddeoemkjedonaaGreatDoor
open Go.RowKit Go.Shelf
set_option maxRecDepth 100000

/-- an answer in memory: none, or the nodes of what was read -/
def AnsD (l : List UInt8) (n : Nat) (ad : Option Addr) (m : Nat) (a f : Int) (lo : Nat) (w1 : World) : Prop :=
  (ad = none ∧ m = 0 ∧ (((allR l).2.2 ≠ 0 ∧ a = ((allR l).2.1 : Nat) ∧ f = ((allR l).2.2 : Nat)) ∨ ((allR l).2.2 = 0 ∧ ParR (toksL l) n none a f))) ∨
  (∃ t g, ad = some ⟨g, 0, none⟩ ∧ m = cnt t ∧ a = 0 ∧ f = 0 ∧ (allR l).2.2 = 0 ∧ ParR (toksL l) n (some t) 0 0 ∧ lo ≤ g ∧ g < w1.heap.size ∧ NodesAt w1 g (lay 0 t))
theorem ans_of {l : List UInt8} {n : Nat} {w w1 : World} {e : Ending} (h : ParseD l n w e w1) : ∃ ad m c a f, e = .returned (.tuple #[.agg #[.slice ad m c], .int .i64 a, .int .i64 f]) ∧ (ad = none → c = 0) ∧ AnsD l n ad m a f w.heap.size w1 ∧ Below w.heap.size w w1 := by
  obtain ⟨hc, hb⟩ := h
  rcases hc with ⟨a, f, h1, rfl⟩ | ⟨t, g, c, hz, hp, rfl, h2, h3, h4⟩
  · exact ⟨none, 0, 0, a, f, rfl, fun _ => rfl, .inl ⟨rfl, rfl, h1⟩, hb⟩
  · exact ⟨some ⟨g, 0, none⟩, cnt t, c, 0, 0, rfl, fun h => (by cases h), .inr ⟨t, g, rfl, rfl, rfl, rfl, hz, hp, h2, h3, h4⟩, hb⟩
theorem nodes_blk {w w' : World} {g : Nat} {ns : List Nd} (h : NodesAt w g ns) (hk : w'.heap[g]? = w.heap[g]?) : NodesAt w' g ns := fun i j v hi hj => (World.cell?_of_block (a := ⟨g, i * 9 + j, none⟩) hk).trans (h i j v hi hj)
theorem AnsD.keep {l : List UInt8} {n m lo : Nat} {ad : Option Addr} {a f : Int} {w1 w2 : World} (h : AnsD l n ad m a f lo w1) (hs : w1.heap.size ≤ w2.heap.size) (hk : ∀ b, lo ≤ b → b < w1.heap.size → w2.heap[b]? = w1.heap[b]?) : AnsD l n ad m a f lo w2 := by
  rcases h with h | ⟨t, g, h1, h2, h3, h4, h5, h6, h7, h8, h9⟩
  · exact .inl h
  · exact .inr ⟨t, g, h1, h2, h3, h4, h5, h6, h7, by omega, nodes_blk h9 (hk g h7 h8)⟩
theorem AnsD.two {l : List UInt8} {n m m' lo lo' : Nat} {ad ad' : Option Addr} {a f a' f' : Int} {w1 w2 : World} (h : AnsD l n ad m a f lo w1) (h' : AnsD l n ad' m' a' f' lo' w2) : a = a' ∧ f = f' ∧ m = m' := by
  rcases h with ⟨_, rfl, h0⟩ | ⟨t, g, _, rfl, rfl, rfl, hz, hp, _⟩ <;> rcases h' with ⟨_, rfl, h1⟩ | ⟨t', g', _, rfl, rfl, rfl, hz', hp', _⟩
  · rcases h0 with ⟨hn, rfl, rfl⟩ | ⟨hz, hp⟩ <;> rcases h1 with ⟨hn', rfl, rfl⟩ | ⟨hz', hp'⟩
    · exact ⟨rfl, rfl, rfl⟩
    · exact absurd hz' hn
    · exact absurd hz hn'
    · obtain ⟨_, rfl, rfl⟩ := parR_one hp hp'
      exact ⟨rfl, rfl, rfl⟩
  · rcases h0 with ⟨hn, _⟩ | ⟨_, hp⟩
    · exact absurd hz' hn
    · have := (parR_one hp hp').1
      cases this
  · rcases h1 with ⟨hn, _⟩ | ⟨_, hp'⟩
    · exact absurd hz hn
    · have := (parR_one hp hp').1
      cases this
  · have := (parR_one hp hp').1
    cases this
    exact ⟨rfl, rfl, rfl⟩
theorem AnsD.same {l : List UInt8} {n m lo lo' c c' : Nat} {ad ad' : Option Addr} {a f : Int} {w : World} (h : AnsD l n ad m a f lo w) (h' : AnsD l n ad' m a f lo' w) (hc : ad = none → c = 0) (hc' : ad' = none → c' = 0) :
    Calls Tryz.prog 7 #[.agg #[.slice ad m c], .agg #[.slice ad' m c']] w fun e w' => e = .returned (.bool true) ∧ Below w.heap.size w w' := by
  rcases h with ⟨rfl, rfl, h0⟩ | ⟨t, g, rfl, rfl, rfl, rfl, hz, hp, hlo, hg, hn⟩ <;> rcases h' with ⟨rfl, hm, h1⟩ | ⟨t', g', rfl, hm, _, _, hz', hp', hlo', hg', hn'⟩
  · rw [hc rfl, hc' rfl]
    exact same_none w
  · have := cnt_pos t'
    omega
  · have := cnt_pos t
    omega
  · have he := (parR_one hp hp').1
    cases he
    obtain ⟨hw, h64⟩ := parR_some hp
    exact same_any (lay 0 t) g g' c c' (cnt t) (lay_len t 0) (by omega) (okN_lay t 0 hw) w hn hn' hg hg'
set_option maxHeartbeats 4000000 in
theorem parses_walk (a : Option Addr) (n cap : Nat) (l : List UInt8) (w : World) (hG : Glob w) (hTab : Tab w) (hgs : 0 < w.heap.size) (ht : Txt w a n cap l) (hr : n ≤ 140737488351232) :
    Calls Tryz.prog 3 #[.slice a n cap] w fun e w' => e = .returned (.bool true) ∧ Below w.heap.size w w' := by
  have HT := Lib.hid ht
  have HG := Lib.hid hG
  have HTab := Lib.hid hTab
  clear ht hG hTab
  go_enter Tryz.func3, Tryz.ntmps3
  go_wp2_with fail
  refine (lent_any a n cap l w HT.out hr).mono ?_
  rintro e w1 ⟨g, c, rfl, hc, hg, hown, hb⟩
  have HH : Hid (HeldE w w1 g c n l) := Lib.hid ⟨HT.out.1, hown, hb⟩
  have hcm : c ≤ 140737488355328 * 65536 := by have := HH.out.cap.2; unfold maxLen at this; omega
  clear hown hb
  go_wp2_with fail
  go_loopw [4] (fun t wr => ∃ (k : Nat) (zs : List UInt8), t = .int .i64 k ∧ k ≤ 2 ∧ Hid (HeldE w wr g c n zs)) (fun t _ => 2 - (intOf t).toNat)
  case atStart => exact ⟨0, l, rfl, by omega, HH⟩
  case round =>
    obtain ⟨k, zs, rfl, hk, HZ⟩ := hrel
    obtain ⟨wo, rfl⟩ : ∃ wo : World, wo = wr := ⟨_, rfl⟩
    by_cases hlt : k < 2
    · go_wp2_with fail
      refine (lent_any (some ⟨g, 0, none⟩) n c zs wo HZ.out.txt hr).mono ?_
      rintro e w2 ⟨g2, c2, rfl, hc2, hg2, hown2, hb2⟩
      have HZ2 := Lib.hid (HZ.out.below hb2)
      have HI : Hid (HeldE wo w2 g2 c2 n zs) := Lib.hid ⟨HZ.out.1, hown2, hb2⟩
      have hgl := HZ2.out.lt
      clear hown2 hb2
      have HP1 := Lib.hid (parse_any (some ⟨g, 0, none⟩) n c zs w2 HZ2.out.txt (HG.out.below HZ2.out.2.2 (Nat.le_refl _)) (HTab.out.of_block (HZ2.out.2.2.block _ hgs)) (by omega))
      go_upto_region 7 with (go_at_call 5; refine HP1.out.mono ?_; intro e w3 hpd; obtain ⟨ad, m, ec, at_, fl, rfl, hec, hans, hb3⟩ := ans_of hpd; have HA1 := Lib.hid hans; have HB3 := Lib.hid hb3; clear hpd hans hb3)
      obtain ⟨W3, hW3⟩ : ∃ W3, W3 = w3.alloc (.cells #[.slice ad m ec] 26) := ⟨_, rfl⟩
      have hb33 : Below w3.heap.size w3 W3 := by rw [hW3]; exact (Below.refl _ w3).alloc (Nat.le_refl _) _
      have hx3 : Bx W3 w3.heap.size 26 [.slice ad m ec] := by rw [hW3]; exact Bx.new w3 26 [.slice ad m ec]
      have hz3 : W3.heap.size = w3.heap.size + 1 := by rw [hW3]; simp
      rw [← hW3]
      have h23 := HB3.out.size
      have HI3 := Lib.hid ((HI.out.below HB3.out).below hb33)
      have HZ3 := Lib.hid ((HZ2.out.below HB3.out).below hb33)
      have HA3 := Lib.hid (HA1.out.keep hb33.size (fun b _ h => hb33.block b h))
      have HX3 := Lib.hid hx3
      have HE : Hid (w2.heap.size ≤ w3.heap.size ∧ W3.heap.size = w3.heap.size + 1) := Lib.hid ⟨h23, hz3⟩
      have hEg : g ≠ w3.heap.size := by omega
      generalize w3.heap.size = E at HX3 HE hEg ⊢
      clear hW3 hb33 hx3 hz3 h23
      have HP2 := Lib.hid (rparse_any (some ⟨g2, 0, none⟩) n c2 zs W3 HI3.out.txt hr)
      go_upto_region 8 with (go_at_call 6; refine HP2.out.mono ?_; intro e w4 hpd; obtain ⟨ad', m', ec', at', fl', rfl, hec', hans, hb4⟩ := ans_of hpd; have HA2 := Lib.hid hans; have HB4 := Lib.hid hb4; clear hpd hans hb4)
      obtain ⟨rfl, rfl, rfl⟩ := HA3.out.two HA2.out
      obtain ⟨W4, hW4⟩ : ∃ W4, W4 = w4.alloc (.cells #[.slice ad' m ec'] 26) := ⟨_, rfl⟩
      have hb44 : Below w4.heap.size w4 W4 := by rw [hW4]; exact (Below.refl _ w4).alloc (Nat.le_refl _) _
      have hx4 : Bx W4 w4.heap.size 26 [.slice ad' m ec'] := by rw [hW4]; exact Bx.new w4 26 [.slice ad' m ec']
      have hz4 : W4.heap.size = w4.heap.size + 1 := by rw [hW4]; simp
      rw [← hW4]
      have h34 := HB4.out.size
      have hb34 := HB4.out.trans (hb44.mono HB4.out.size)
      have HI4 := Lib.hid (HI3.out.below hb34)
      have HZ4 := Lib.hid (HZ3.out.below hb34)
      have HA4 := Lib.hid (HA3.out.keep hb34.size (fun b _ h => hb34.block b h))
      have HC4 := Lib.hid (HA2.out.keep hb44.size (fun b _ h => hb44.block b h))
      have HXE := Lib.hid (HX3.out.keep hb34 HX3.out.lt)
      have HXF := Lib.hid hx4
      have HF : Hid (E < w4.heap.size ∧ w4.heap.size < W4.heap.size) := Lib.hid ⟨by have := HE.out; omega, by omega⟩
      have hFg : g ≠ w4.heap.size := by have := HE.out; omega
      generalize w4.heap.size = F at HXF HF hFg ⊢
      clear hW4 hb44 hx4 hz4 h34 hb34
      have HSM := Lib.hid (HA4.out.same HC4.out hec hec')
      have e0 := HXE.out.c 0 rfl
      have f0 := HXF.out.c 0 rfl
      go_upto_region 10 with (first
        | (go_at_call 7; refine HSM.out.mono ?_; rintro e w5 ⟨rfl, hb5⟩; have HZ5 := Lib.hid (HZ4.out.below hb5); have HI5 := Lib.hid (HI4.out.below hb5); have HB5 := Lib.hid hb5; clear hb5)
        | (go_at_call 8; refine (kept_any g n c c2 (some ⟨g2, 0, none⟩) zs w5 hr HZ5.out.atAll hc HI5.out.txt).mono ?_; rintro e w' ⟨rfl, rfl⟩))
      go_wp2_with fail
      clear e0 f0
      go_loopw [12] (fun iv wi => ∃ (i : Nat) (ys : List UInt8), iv = .int .i64 i ∧ i ≤ n ∧ Hid (HeldE w wi g c n ys ∧ (∀ b, b ≠ g → b < w5.heap.size → wi.heap[b]? = w5.heap[b]?) ∧ w5.heap.size ≤ wi.heap.size)) (fun iv _ => n - (intOf iv).toNat)
      case atStart => exact ⟨0, zs, rfl, Nat.zero_le _, Lib.hid ⟨HZ5.out, fun _ _ _ => rfl, Nat.le_refl _⟩⟩
      case round =>
        obtain ⟨i, ys, rfl, hi, HI⟩ := hrel
        obtain ⟨wi, rfl⟩ : ∃ wi : World, wi = wr := ⟨_, rfl⟩
        rcases Nat.lt_or_ge i n with hlt2 | hge2
        · have hcell := HI.out.1.cell hlt2
          have hfz := HI.out.1.free i
          by_cases h1 : (bAt ys i).toNat = 49
          · skip
            have hd' : ((bAt ys i).toNat : Int) = 49 := by omega
            rw [hd'] at hcell
            have hset : HeldE w (wi.setCell ⟨g, i, none⟩ (.int .u8 51)) g c n (ys.set i 51) := HI.out.1.set hlt2 51
            have HI2 : Hid (HeldE w (wi.setCell ⟨g, i, none⟩ (.int .u8 51)) g c n (ys.set i 51) ∧ (∀ b, b ≠ g → b < w5.heap.size → (wi.setCell ⟨g, i, none⟩ (.int .u8 51)).heap[b]? = w5.heap[b]?) ∧ w5.heap.size ≤ (wi.setCell ⟨g, i, none⟩ (.int .u8 51)).heap.size) := Lib.hid ⟨hset, fun b hb hlt => (Below.heap_setCell _ _ _ b (fun e => hb e)).trans (HI.out.2.1 b hb hlt), by have := HI.out.2.2; simpa using this⟩
            clear hset hd'
            go_wp2_with fail
            go_roundw
            case rel => exact ⟨i + 1, _, by go_num, hlt2, HI2⟩
            case measure => simp [intOf]; omega
          by_cases h2 : (bAt ys i).toNat = 97
          · skip
            have hd' : ((bAt ys i).toNat : Int) = 97 := by omega
            rw [hd'] at hcell
            have hset : HeldE w (wi.setCell ⟨g, i, none⟩ (.int .u8 99)) g c n (ys.set i 99) := HI.out.1.set hlt2 99
            have HI2 : Hid (HeldE w (wi.setCell ⟨g, i, none⟩ (.int .u8 99)) g c n (ys.set i 99) ∧ (∀ b, b ≠ g → b < w5.heap.size → (wi.setCell ⟨g, i, none⟩ (.int .u8 99)).heap[b]? = w5.heap[b]?) ∧ w5.heap.size ≤ (wi.setCell ⟨g, i, none⟩ (.int .u8 99)).heap.size) := Lib.hid ⟨hset, fun b hb hlt => (Below.heap_setCell _ _ _ b (fun e => hb e)).trans (HI.out.2.1 b hb hlt), by have := HI.out.2.2; simpa using this⟩
            clear hset hd'
            go_wp2_with fail
            go_roundw
            case rel => exact ⟨i + 1, _, by go_num, hlt2, HI2⟩
            case measure => simp [intOf]; omega
          by_cases h3 : (bAt ys i).toNat = 43
          · skip
            have hd' : ((bAt ys i).toNat : Int) = 43 := by omega
            rw [hd'] at hcell
            have hset : HeldE w (wi.setCell ⟨g, i, none⟩ (.int .u8 45)) g c n (ys.set i 45) := HI.out.1.set hlt2 45
            have HI2 : Hid (HeldE w (wi.setCell ⟨g, i, none⟩ (.int .u8 45)) g c n (ys.set i 45) ∧ (∀ b, b ≠ g → b < w5.heap.size → (wi.setCell ⟨g, i, none⟩ (.int .u8 45)).heap[b]? = w5.heap[b]?) ∧ w5.heap.size ≤ (wi.setCell ⟨g, i, none⟩ (.int .u8 45)).heap.size) := Lib.hid ⟨hset, fun b hb hlt => (Below.heap_setCell _ _ _ b (fun e => hb e)).trans (HI.out.2.1 b hb hlt), by have := HI.out.2.2; simpa using this⟩
            clear hset hd'
            go_wp2_with fail
            go_roundw
            case rel => exact ⟨i + 1, _, by go_num, hlt2, HI2⟩
            case measure => simp [intOf]; omega
          have t1 : (((bAt ys i).toNat : Int) == 49) = false := beq_eq_false_iff_ne.2 (by omega)
          have t2 : (((bAt ys i).toNat : Int) == 97) = false := beq_eq_false_iff_ne.2 (by omega)
          have t3 : (((bAt ys i).toNat : Int) == 43) = false := beq_eq_false_iff_ne.2 (by omega)
          generalize (bAt ys i).toNat = d at hcell t1 t2 t3
          clear h1 h2 h3
          go_wp2_with fail
          go_roundw
          case rel => exact ⟨i + 1, ys, by go_num, hlt2, HI⟩
          case measure => simp [intOf]; omega
        · obtain rfl : i = n := by omega
          have HIR := HI
          have h45 := HB5.out.size
          have e0 := (show Bx wi E 26 [.slice ad m ec] from (HIR.out.2.1 E (Ne.symm hEg) (by have := HF.out; omega)).trans (HXE.out.keep HB5.out HXE.out.lt)).c 0 rfl
          have f0 := (show Bx wi F 26 [.slice ad' m ec'] from (HIR.out.2.1 F (Ne.symm hFg) (by have := HF.out; omega)).trans (HXF.out.keep HB5.out HXF.out.lt)).c 0 rfl
          have HA5 := (HA4.out.keep h45 (fun b _ h => HB5.out.block b h)).keep HIR.out.2.2 (fun b hb1 hb2 => HIR.out.2.1 b (by omega) hb2)
          have HC5 := (HC4.out.keep h45 (fun b _ h => HB5.out.block b h)).keep HIR.out.2.2 (fun b hb1 hb2 => HIR.out.2.1 b (by have := HE.out; omega) hb2)
          have HSM2 := Lib.hid (HA5.same HC5 hec hec')
          have HZ6 := Lib.hid HIR.out.1
          clear HA5 HC5 h45
          go_wp2_with (go_at_call 7; refine HSM2.out.mono ?_; rintro e w7 ⟨rfl, hb7⟩; have HZ7 := Lib.hid (HZ6.out.below hb7); clear hb7)
          go_roundw
          case rel => exact ⟨k + 1, ys, by go_num, by omega, HZ7⟩
          case measure => simp [intOf]; omega
    · go_wp2_with fail
      go_ret
      exact ⟨rfl, HZ.out.2.2⟩
end Go.Proofs.YtddeoemkjedonaaGreatDoor
