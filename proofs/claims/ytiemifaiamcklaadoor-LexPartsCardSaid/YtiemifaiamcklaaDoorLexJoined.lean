/- LexJoined. -/
import Derived.Test.YtiemifaiamcklaaDoorSame
import Derived.StillTailTactics
namespace Go.Proofs.YtiemifaiamcklaaDoor
open Go.RowKit Go.Shelf
set_option maxRecDepth 100000

theorem own_form {w : World} {base e N : Nat} {v : Value} {xs : List Value} (hown : w.ownsRow base e 1 v N xs) : ∃ ba bc, v = .slice ba N bc := by
  rcases hown.2 with ⟨h, h0⟩ | ⟨g, cap, cur, h, _⟩
  · exact ⟨none, 0, by rw [h, h0]⟩
  · exact ⟨_, _, h⟩
/-- what is joined after k tokens, and how long it is -/
def JRel (l : List UInt8) (k : Nat) (J : List UInt8) (N : Nat) : Prop := J = (joinB l ((allF l).take k)).drop 1 ∧ J.length = N
theorem JRel.start (l : List UInt8) : JRel l 0 [] 0 := ⟨rfl, rfl⟩
theorem JRel.first {l : List UInt8} {J : List UInt8} {N : Nat} (h : JRel l 0 J N) : J = [] ∧ N = 0 := by
  obtain ⟨rfl, rfl⟩ := h
  exact ⟨rfl, rfl⟩
theorem JRel.le {l : List UInt8} {k : Nat} {J : List UInt8} {N : Nat} (h : JRel l k J N) (hj : (joinB l (allF l)).length ≤ 2 * l.length) : N ≤ 2 * l.length := by
  obtain ⟨h1, h2⟩ := h
  have := joinB_take_le l (allF l) k
  rw [← h2, h1, List.length_drop]
  omega
theorem JRel.next {l : List UInt8} {k A sz : Nat} {J : List UInt8} {N : Nat} {x : Tok × Nat} (h : JRel l k J N) (hk : 0 < k) (hx : (allF l)[k]? = some x) (hat : x.1.at_ = A) (hsz : x.1.size = sz) (hpl : (pieceOf l A (A + sz)).length = sz) :
    JRel l (k + 1) ((J ++ [32]) ++ pieceOf l A (A + sz)) (N + 1 + sz) := by
  obtain ⟨rfl, h2⟩ := h
  have hlt : k < (allF l).length := (List.getElem?_eq_some_iff.1 hx).1
  have hp := joinB_pos l (allF l) k hk (Nat.le_of_lt hlt)
  have htake : (allF l).take (k + 1) = (allF l).take k ++ [x] := by rw [List.take_add_one, hx]; rfl
  refine ⟨?_, by rw [List.length_append, List.length_append, h2, hpl]; rfl⟩
  rw [htake, joinB_snoc, hat, hsz]
  obtain ⟨c, m, hm⟩ : ∃ c m, joinB l ((allF l).take k) = c :: m := by
    cases h : joinB l ((allF l).take k) with
    | nil => rw [h] at hp; simp at hp
    | cons c m => exact ⟨c, m, rfl⟩
  rw [hm]; simp
theorem JRel.next0 {l : List UInt8} {A sz : Nat} {x : Tok × Nat} (hx : (allF l)[0]? = some x) (hat : x.1.at_ = A) (hsz : x.1.size = sz) (hpl : (pieceOf l A (A + sz)).length = sz) :
    JRel l (0 + 1) (pieceOf l A (A + sz)) (0 + sz) := by
  have htake : (allF l).take (0 + 1) = [x] := by rw [List.take_add_one, hx]; rfl
  refine ⟨?_, by rw [hpl, Nat.zero_add]⟩
  rw [htake, joinB_cons, hat, hsz]
  simp [joinB]
theorem JRel.last {l : List UInt8} {J : List UInt8} {N : Nat} (h : JRel l (allF l).length J N) : J = (joinB l (allF l)).drop 1 := by rw [h.1, List.take_length]
theorem zero_of_map {xs ys : List (Tok × Nat)} (h : ys.map zT = xs.map zT) (hz : ∀ x ∈ xs, x.2 = 0) : ∀ y ∈ ys, y.2 = 0 := by
  intro y hy
  have : zT y ∈ xs.map zT := by rw [← h]; exact List.mem_map_of_mem hy
  obtain ⟨x, hx, he⟩ := List.mem_map.1 this
  have h2 : (zT y).2 = y.2 := rfl
  rw [← h2, ← he]
  exact hz x hx
theorem map_at {xs ys : List (Tok × Nat)} (h : ys.map zT = xs.map zT) {k : Nat} {x : Tok × Nat} (hx : xs[k]? = some x) : ∃ y, ys[k]? = some y ∧ zT y = zT x := by
  have := congrArg (·[k]?) h
  simp only [List.getElem?_map, hx, Option.map_some] at this
  cases hy : ys[k]? with
  | none => rw [hy] at this; simp at this
  | some y => rw [hy] at this; simp at this; exact ⟨y, rfl, this⟩

set_option maxHeartbeats 2000000 in
theorem joined_walk (a : Option Addr) (n cap : Nat) (l : List UInt8) (w : World) (hG : Glob w) (ht : Txt w a n cap l) (hr : n ≤ 140737488351232) :
    Calls Tryd.prog 6 #[.slice a n cap] w fun e w' => e = .returned (.bool true) ∧ Below w.heap.size w w' := by
  have HT := Lib.hid ht
  have HG := Lib.hid hG
  clear ht hG
  go_enter Tryd.func6, Tryd.ntmps6
  go_wp2_with fail
  refine (awake_any w HG.out).mono ?_
  rintro e w1 ⟨rfl, hb1⟩
  have HBW4 := Lib.hid hb1
  clear hb1
  go_wp2_with fail
  have hl := HT.out.1
  refine (lent_any a n cap l w1 (HT.out.below HBW4.out (Nat.le_refl _)) hr).mono ?_
  rintro e w5 ⟨g2, c2, rfl, hc2, hg2, hown2, hb5⟩
  have hcm2 : c2 ≤ maxLen := by
    rcases hown2.2 with ⟨h, _⟩ | ⟨_, _, _, he, _, _, _, h, _⟩
    · cases h
    · cases he; exact h
  have hT5 : Txt w5 (some ⟨g2, 0, none⟩) n c2 l := ⟨hl, by omega, hcm2, .inr ⟨_, rfl, (At.owned hown2).left⟩⟩
  have hbw5 : Below w.heap.size w w5 := HBW4.out.trans (hb5.mono HBW4.out.size)
  have HT5 := Lib.hid hT5
  have HBW5 := Lib.hid hbw5
  have HL := Lib.hid hl
  clear hT5 hbw5 hown2 hb5 hl
  go_wp2_with fail
  refine (Scan_any _ _ _ _ w5 HT5.out (HG.out.below HBW5.out (Nat.le_refl _))).mono ?_
  rintro e w6 ⟨hb6, ⟨v, rfl, hz, hr6⟩ | ⟨p, x, r, h1, h2, h3, rfl⟩⟩
  · have hbw6 : Below w.heap.size w w6 := HBW5.out.trans (hb6.mono HBW5.out.size)
    obtain ⟨va, vc2, hv⟩ : ∃ va vc2, v = .slice va (allF l).length vc2 := by
      rcases hr6.2 with ⟨rfl, h0⟩ | ⟨g, cap, cur, rfl, _⟩
      · exact ⟨none, 0, by rw [h0]⟩
      · exact ⟨_, _, rfl⟩
    subst hv
    have HR6 := Lib.hid hr6
    have HBW6 := Lib.hid hbw6
    have HZ := Lib.hid hz
    clear hr6 hbw6 hb6 hz
    obtain ⟨hn, hjl⟩ := joined_len l HZ.out
    have hlen := allF_len l
    obtain ⟨i0, hi, hz0, hz1, hz2⟩ := info_parts info5'
    go_wp2_with fail
    go_loopw [6, 7] (fun b i wr => ∃ (k N : Nat) (J : List UInt8), i = .int .i64 k ∧ k ≤ (allF l).length ∧ Hid (JRel l k J N) ∧ wr.ownsRow w6.heap.size 5 1 b N (u8s J) ∧ Below w6.heap.size w6 wr)
      (fun _ i _ => (allF l).length - (intOf i).toNat)
    case atStart => exact ⟨0, 0, [], rfl, Nat.zero_le _, JRel.start l, World.ownsRow_nil _ _ _ _, Below.refl _ _⟩
    case round =>
      obtain ⟨k, N, J, rfl, hk, hJ, hown, hbr⟩ := hrel
      have hbw : Below w.heap.size w wr := HBW6.out.trans (hbr.mono HBW6.out.size)
      have hsz := hbr.size
      have HBR := Lib.hid hbr
      have HBW := Lib.hid hbw
      have hN := hJ.out.le hjl
      have hN2 : N ≤ 65536 := by omega
      clear hN
      rcases Nat.lt_or_ge k (allF l).length with hlt | hge
      · obtain ⟨x, hx⟩ : ∃ x, (allF l)[k]? = some x := ⟨_, List.getElem?_eq_getElem hlt⟩
        have hmem : x ∈ allF l := List.mem_of_getElem? hx
        have hx0 := HZ.out x hmem
        obtain ⟨A, hA, hxt, hat, hkd, hpos, hE, hk'⟩ := mem_place l x hmem hx0
        obtain ⟨gv, rfl⟩ : ∃ gv, va = some ⟨gv, 0, none⟩ := by
          rcases HR6.out.2 with ⟨h, h0⟩ | ⟨g, cap, cur, h, _⟩
          · omega
          · cases h; exact ⟨_, rfl⟩
        have hgv := (HR6.out.lt gv rfl).2
        have cc : ∀ W, Below w6.heap.size w6 W → ∀ j u, j < 6 → (tokCells x.1)[j]? = some u → W.cell? ⟨gv, k * 6 + j, none⟩ = some u := fun W hW j u hj hu => by
          rw [hW.cell (p := ⟨gv, k * 6 + j, none⟩) hgv, HR6.out.cellAt _ (by omega), flatT_at _ k j x hx hj]
          exact hu
        have hpl := piece_len l (Nat.le_add_right A x.1.size) hE
        rw [Nat.add_sub_cancel_left] at hpl
        have hJn : ∀ (_ : 0 < k), JRel l (k + 1) ((J ++ [32]) ++ pieceOf l A (A + x.1.size)) (N + 1 + x.1.size) := fun h0 => hJ.out.next h0 hx hat rfl hpl
        have hJ0 : k = 0 → JRel l (0 + 1) (pieceOf l A (A + x.1.size)) (0 + x.1.size) := fun h0 => JRel.next0 (h0 ▸ hx) hat rfl hpl
        have hJf : k = 0 → J = [] ∧ N = 0 := fun h0 => (h0 ▸ hJ.out).first
        obtain ⟨⟨kd, tx, iv, rl, at_, sz⟩, er⟩ := x
        simp only at hat hpos hE hpl hkd hJn hJ0
        subst hat
        have sl : ∀ W, Txt W a n cap l → ∃ y, (∀ w', (Instr.slice 22 (.slice a n cap) (some (.int .i64 (at_ : Int))) (some (.int .i64 ((at_ : Int) + (sz : Int)))) none).run Tryd.prog w' = .ok (.slice (some y) sz (cap - at_)) w') ∧ At W y (pieceOf l at_ (at_ + sz)) := fun W hW => by
          obtain ⟨a3, h1, h2⟩ := slice_mid at_ (at_ + sz) hW (Nat.le_add_right _ _) (by rw [← HL.out]; exact hE)
          rw [Nat.add_sub_cancel_left] at h1 h2
          obtain ⟨_, _, _, ⟨_, h0, _⟩ | ⟨y, rfl, hy⟩⟩ := h2
          · omega
          · exact ⟨y, h1, by unfold pieceOf; rw [Nat.add_sub_cancel_left]; exact hy⟩
        have hwp : IntKind.i64.wrap ((at_ : Int) + (sz : Int)) = (at_ : Int) + (sz : Int) := by rw [IntKind.wrap_i64]; have := HL.out; omega
        obtain ⟨p, hp⟩ : ∃ p, p = pieceOf l at_ (at_ + sz) := ⟨_, rfl⟩
        rw [← hp] at hpl sl hJn hJ0
        have HSL := Lib.hid sl
        have HCC := Lib.hid cc
        have HJN := Lib.hid hJn
        have HJ0 := Lib.hid hJ0
        have HJF := Lib.hid hJf
        have HPL := Lib.hid hpl
        have hEn : at_ + sz ≤ n := by rw [← HL.out]; exact hE
        have hs3 : sz ≤ 32768 := by have := HL.out; omega
        clear sl cc hx hxt hk' hmem hx0 hbr hbw hE hp hJn hJ0 hJf hpl hJ
        rcases Nat.eq_zero_or_pos k with rfl | hk0
        · obtain ⟨rfl, rfl⟩ := HJF.out rfl
          have HJ1 := Lib.hid (HJ0.out rfl)
          obtain ⟨y, hsl, hy⟩ := HSL.out wr (HT.out.below HBW.out (Nat.le_refl _))
          have c4 := HCC.out wr HBR.out 4 _ (by decide) rfl
          have c5 := HCC.out wr HBR.out 5 _ (by decide) rfl
          go_wp2_with fail
          go_region_law ((refine step_append_mine rfl (.tmp 38) (.tmp 56) 22 rfl w6.heap.size 5 i0 (.int .u8 0) 1 1 Tryd.underlying22 hi hz0 hz1 hz2 rfl (by decide) _ _ _ rfl hown.drew y sz (cap - at_) (u8s p) rfl (by simp [u8s_length, HPL.out]) hy.cells (u8s_one _) (by unfold maxLen; omega) (by omega) hsz ?_; intro v' w9 hown' hgrow))
          all_goals
            rw [← u8s_append, List.nil_append] at hown'
            have R := And.intro hown' (HBR.out.drew.grown hgrow (by simp; omega) (fun b hb => (hown.lt b hb).1))
            clear hown' hgrow hown
            go_wp2
            go_roundw
            case rel => exact ⟨0 + 1, 0 + sz, p, by go_num, hlt, HJ1.out, R.1, R.2⟩
            case measure => simp [intOf]; omega
        · have HO := Lib.hid hown
          clear hown
          have hd0 : decide ((0 : Int) < (k : Int)) = true := by simp; omega
          go_wp2_with (at_builtin; refine wpList_append_own _ rfl _ _ 22 rfl w6.heap.size 5 i0 (.int .u8 0) 1 1 Tryd.underlying22 hi hz0 hz1 hz2 rfl (by decide) _ _ _ rfl (HO.out.alloc _) ⟨wr.heap.size, 0, none⟩ 1 1 (u8s [32]) rfl rfl (cells_new _ _ _) (u8s_one _) (by unfold maxLen; omega) (by omega) (by simp; omega) ?_)
          intro v2 w8 hown2 hgrow2 _
          have hb8 : Below w6.heap.size w6 w8 := (HBR.out.alloc hsz _).grown hgrow2 (by simp; omega) (fun b hb => (HO.out.lt b hb).1)
          have hz8 := hb8.size
          obtain ⟨v2a, v2c, rfl⟩ := ownsRow_succ hown2
          obtain ⟨y, hsl, hy⟩ := HSL.out w8 (HT.out.below (HBW6.out.trans (hb8.mono HBW6.out.size)) (Nat.le_refl _))
          rw [← u8s_append] at hown2
          obtain ⟨M, hM⟩ : ∃ M, M = N + 1 := ⟨_, rfl⟩
          have hJM := HJN.out hk0
          rw [← hM] at hown2 hJM ⊢
          have hM2 : M ≤ 65537 := by omega
          have HJM := Lib.hid hJM
          have HO2 := Lib.hid hown2
          have HB8 := Lib.hid hb8
          have c4 := HCC.out w8 hb8 4 _ (by decide) rfl
          have c5 := HCC.out w8 hb8 5 _ (by decide) rfl
          clear hb8 hgrow2 hown2 hM hJM
          go_wp2_with fail
          go_region_law ((refine step_append_mine rfl (.tmp 38) (.tmp 56) 22 rfl w6.heap.size 5 i0 (.int .u8 0) 1 1 Tryd.underlying22 hi hz0 hz1 hz2 rfl (by decide) _ _ _ rfl HO2.out.drew y sz (cap - at_) (u8s p) rfl (by simp [u8s_length, HPL.out]) hy.cells (u8s_one _) (by unfold maxLen; omega) (by omega) hz8 ?_; intro v' w9 hown' hgrow))
          all_goals
            rw [← u8s_append] at hown'
            have R := And.intro hown' (HB8.out.drew.grown hgrow (by simp; omega) (fun b hb => (HO2.out.lt b hb).1))
            clear hown' hgrow
            go_wp2
            go_roundw
            case rel => exact ⟨k + 1, M + sz, _, by go_num, hlt, HJM.out, R.1, R.2⟩
            case measure => simp [intOf]; omega
      · obtain rfl : k = (allF l).length := by omega
        have hlast := hJ.out.last
        have hJN := hJ.out.2
        obtain ⟨ba, bc, rfl⟩ := own_form hown
        have hTJ := txt_of_owned hown
        have HTJ := Lib.hid hTJ
        rcases Nat.lt_or_ge 32768 N with hbig | hsmall
        · have hn2 : 16384 < n := by
            have h1 : N = (joinB l (allF l)).length - 1 := by rw [← hJN, hlast, List.length_drop]
            have := HL.out
            omega
          clear hlast hJN hJ hown hTJ hjl hlen
          have hd16 : decide ((16384 : Int) < (n : Int)) = true := by simp; omega
          go_wp2_with fail
          go_ret
          exact ⟨rfl, HBW.out⟩
        · have hmap : (allF J).map zT = (allF l).map zT := by
            rw [hlast]
            refine scan_joined l (allF l) (fun x hx => ⟨hx, HZ.out x hx⟩) ?_
            rw [← hlast, hJN]; exact hsmall
          have hz8 := zero_of_map hmap HZ.out
          have hS := Scan_ok ba N bc J wr HTJ.out (HG.out.below HBW.out (Nat.le_refl _)) hz8
          have hlm : (allF J).length = (allF l).length := by have := congrArg List.length hmap; simpa using this
          rw [hlm] at hS
          have HMAP := Lib.hid hmap
          have HS := Lib.hid hS
          clear hlast hJN hJ hown hTJ hjl hlen hmap hz8 hS hlm
          go_wp2_with fail
          refine HS.out.mono ?_
          rintro e w7 ⟨v2, rfl, hr7, hb7⟩
          obtain ⟨m2, mc2, hv2⟩ : ∃ m2 mc2, v2 = .slice m2 (allF l).length mc2 := by
            rcases hr7.2 with ⟨rfl, h0⟩ | ⟨g, cap, cur, rfl, _⟩
            · exact ⟨none, 0, by rw [h0]⟩
            · exact ⟨_, _, rfl⟩
          subst hv2
          have HR7 := Lib.hid hr7
          have HB67 := Lib.hid (HBR.out.trans (hb7.mono hsz))
          have HBW7 := Lib.hid (HBW.out.trans (hb7.mono HBW.out.size))
          clear hr7 hb7 hk
          obtain ⟨M, hM⟩ : ∃ M, M = (allF l).length := ⟨_, rfl⟩
          have HM := Lib.hid hM
          have hMl : M ≤ 32768 + 1 := by rw [hM]; have := allF_len l; omega
          rw [← hM]
          clear hM
          go_wp2_with fail
          go_loopw [11] (fun i wr2 => ∃ k : Nat, i = .int .i64 k ∧ k ≤ M ∧ Below w7.heap.size w7 wr2) (fun i _ => M - (intOf i).toNat)
          case atStart => exact ⟨0, rfl, Nat.zero_le _, Below.refl _ _⟩
          case round =>
            obtain ⟨k, rfl, hk2, hbr2⟩ := hrel
            have HBR2 := Lib.hid hbr2
            rcases Nat.lt_or_ge k M with hlt | hge
            · have hlt' : k < (allF l).length := by rw [← HM.out]; exact hlt
              obtain ⟨x, hx⟩ : ∃ x, (allF l)[k]? = some x := ⟨_, List.getElem?_eq_getElem hlt'⟩
              obtain ⟨y, hy, hxy⟩ := map_at HMAP.out hx
              have hlt3 : k < (allF J).length := (List.getElem?_eq_some_iff.1 hy).1
              obtain ⟨gv, rfl⟩ : ∃ gv, va = some ⟨gv, 0, none⟩ := by
                rcases HR6.out.2 with ⟨h, h0⟩ | ⟨g, cap, cur, h, _⟩
                · omega
                · cases h; exact ⟨_, rfl⟩
              obtain ⟨gm, rfl⟩ : ∃ gm, m2 = some ⟨gm, 0, none⟩ := by
                rcases HR7.out.2 with ⟨h, h0⟩ | ⟨g, cap, cur, h, _⟩
                · omega
                · cases h; exact ⟨_, rfl⟩
              have hgv := (HR6.out.lt gv rfl).2
              have hgm := (HR7.out.lt gm rfl).2
              have hb62 : Below w6.heap.size w6 wr := HB67.out.trans (HBR2.out.mono HB67.out.size)
              have cx : ∀ j u, j < 6 → (tokCells x.1)[j]? = some u → wr.cell? ⟨gv, k * 6 + j, none⟩ = some u := fun j u hj hu => by
                rw [hb62.cell (p := ⟨gv, k * 6 + j, none⟩) hgv, HR6.out.cellAt _ (by omega), flatT_at _ k j x hx hj]
                exact hu
              have cy : ∀ j u, j < 6 → (tokCells y.1)[j]? = some u → wr.cell? ⟨gm, k * 6 + j, none⟩ = some u := fun j u hj hu => by
                rw [HBR2.out.cell (p := ⟨gm, k * 6 + j, none⟩) hgm, HR7.out.cellAt _ (by omega), flatT_at _ k j y hy hj]
                exact hu
              obtain ⟨⟨kd, tx, iv, rl, at_, sz⟩, er⟩ := x
              obtain ⟨⟨kd2, tx2, iv2, rl2, at2, sz2⟩, er2⟩ := y
              simp only [zT, Prod.mk.injEq, Tok.mk.injEq, true_and] at hxy
              obtain ⟨⟨rfl, rfl, rfl, rfl, rfl⟩, _⟩ := hxy
              have x0 : wr.cell? ⟨gv, k * 6, none⟩ = some (.int .i64 kd2) := cx 0 _ (by decide) rfl
              have x1 := cx 1 _ (by decide) rfl
              have x2 := cx 2 _ (by decide) rfl
              have x3 := cx 3 _ (by decide) rfl
              have x4 := cx 4 _ (by decide) rfl
              have x5 := cx 5 _ (by decide) rfl
              have y0 : wr.cell? ⟨gm, k * 6, none⟩ = some (.int .i64 kd2) := cy 0 _ (by decide) rfl
              have y1 := cy 1 _ (by decide) rfl
              have y2 := cy 2 _ (by decide) rfl
              have y3 := cy 3 _ (by decide) rfl
              have y4 := cy 4 _ (by decide) rfl
              have y5 := cy 5 _ (by decide) rfl
              have hz72 := hbr2.size
              clear cx cy hx hy hlt3 hb62 hbr2 hlt' hgv hgm
              go_wp2_with fail
              go_still_tail 8, (by kernel_rfl)
              change wpList _ _ _ _ _ wr.drew
              have hbd : Below w7.heap.size w7 wr.drew := HBR2.out.drew
              have hzd : w7.heap.size ≤ wr.drew.heap.size := hz72
              generalize wr.drew = wd at hbd hzd ⊢
              have HBD := Lib.hid hbd
              clear hbd x0 x1 x2 x3 x4 x5 y0 y1 y2 y3 y4 y5
              go_wp2_with fail
              refine (same_yes _ _ _ _ _ _ _ wd).mono ?_
              rintro e w9 ⟨rfl, hb9⟩
              have HB9 := Lib.hid (HBD.out.trans (hb9.mono hzd))
              clear hb9
              go_wp2_with fail
              go_roundw
              case rel => exact ⟨k + 1, by go_num, hlt, HB9.out⟩
              case measure => simp [intOf]; omega
            · obtain rfl : k = M := by omega
              have hbw2 : Below w.heap.size w wr := HBW7.out.trans (HBR2.out.mono HBW7.out.size)
              go_wp2_with fail
              go_ret
              exact ⟨rfl, hbw2⟩
  · have hbw6 : Below w.heap.size w w6 := HBW5.out.trans (hb6.mono HBW5.out.size)
    have HBW6 := Lib.hid hbw6
    have hz3 : ((x.2 : Int) != 0) = true := by rw [bne_iff_ne]; omega
    have hz1 : ((x.2 : Int) == 0) = false := by rw [beq_eq_false_iff_ne]; omega
    have hz2 : (x.2 == 0) = false := by rw [beq_eq_false_iff_ne]; exact h3
    have hz4 : (x.2 != 0) = true := by rw [bne_iff_ne]; exact h3
    clear hbw6 hb6 h1 h2
    go_wp2_with fail
    go_ret
    exact ⟨rfl, HBW6.out⟩
end Go.Proofs.YtiemifaiamcklaaDoor
