/- Queue: an item behind all others. -/
import Derived.Test.YtpemdfdmnbhpjaaQuLaid
import Derived.Deep.RegionWith
import Derived.Deep.RegionHeld3
import Derived.Deep.DeepCutAuto
set_option linter.all false
namespace Go.Proofs.Ytpemdfdmnbhpjaa
open Go.RowKit Go.Shelf
set_option maxRecDepth 100000
/-- places in memory: none, or a block -/
def Pl (w : World) (a : Option Addr) (n cap first : Nat) (F : List Nat) (L : List It) : Prop :=
  n ≤ cap ∧ n ≤ 4611686018427387904 ∧ ((n = 0 ∧ first = 0 ∧ F = [] ∧ L = []) ∨ ∃ pb cs, a = some ⟨pb, 0, none⟩ ∧ F = [pb] ∧ Bk w pb 64 cs ∧ Rg cs n first L)
theorem Pl.few {w : World} {a : Option Addr} {n cap first : Nat} {F : List Nat} {L : List It} (h : Pl w a n cap first F L) : L.length ≤ n := by
  obtain ⟨_, _, ⟨rfl, _, _, rfl⟩ | ⟨pb, cs, _, _, _, r⟩⟩ := h
  · exact Nat.le_refl _
  · exact r.few
theorem Pl.src {w : World} {g : Nat} {T : TypeId} {a : Option Addr} {n cap first : Nat} {F : List Nat} {L : List It} {rest : List Value} (h : Pl w a n cap first F L) (hb : Bk w g T (hd a n cap first L.length rest)) : Src w g T L (.slice a n cap) first rest := by
  refine ⟨hb, fun hl => ?_, Nat.le_trans h.few h.2.1⟩
  obtain ⟨h1, h2, ⟨rfl, _, _, rfl⟩ | ⟨pb, cs, rfl, rfl, hk, r⟩⟩ := h
  · exact absurd rfl hl
  · exact ⟨pb, n, cap, cs, rfl, hb, hk, r, h1, h2⟩
theorem Pl.ring {w : World} {g : Nat} {T : TypeId} {a : Option Addr} {n cap first : Nat} {F : List Nat} {L : List It} {rest : List Value} (h : Pl w a n cap first F L) (hb : Bk w g T (hd a n cap first L.length rest)) (hn : 0 < n) : ∃ pb cs, a = some ⟨pb, 0, none⟩ ∧ F = [pb] ∧ Ring w g T pb n cap first cs L rest := by
  obtain ⟨h1, h2, ⟨rfl, _, _, rfl⟩ | ⟨pb, cs, rfl, rfl, hk, r⟩⟩ := h
  · omega
  · exact ⟨pb, cs, rfl, rfl, hb, hk, r, h1, h2⟩
theorem Pl.keep {w w' : World} {a : Option Addr} {n cap first : Nat} {F : List Nat} {L : List It} (h : Pl w a n cap first F L) (hs : SameB F w w') : Pl w' a n cap first F L := by
  obtain ⟨h1, h2, h3 | ⟨pb, cs, rfl, rfl, hk, r⟩⟩ := h
  · exact ⟨h1, h2, .inl h3⟩
  · exact ⟨h1, h2, .inr ⟨pb, cs, rfl, rfl, (hs pb (List.mem_singleton_self _)).trans hk, r⟩⟩
theorem Pl.lt {w : World} {a : Option Addr} {n cap first : Nat} {F : List Nat} {L : List It} (h : Pl w a n cap first F L) : ∀ b ∈ F, b < w.heap.size := by
  obtain ⟨_, _, ⟨_, _, rfl, _⟩ | ⟨pb, cs, _, rfl, hk, _⟩⟩ := h
  · intro b hb; cases hb
  · intro b hb; rw [List.mem_singleton.1 hb]; exact hk.lt
/-- an item stored behind the last, where there is room -/
def AddP (g : Nat) (T : TypeId) (F : List Nat) (L : List It) (rest : List Value) (w : World) (e : Ending) (w' : World) : Prop :=
  e = .returned (.tuple #[]) ∧ ∃ (a : Option Addr) (n cap first : Nat) (F' : List Nat), Bk w' g T (hd a n cap first L.length rest) ∧ Pl w' a n cap first F' L ∧ Out (g :: F) w w' ∧ (∀ b ∈ F', b ∈ F ∨ w.heap.size ≤ b)
set_option maxHeartbeats 4000000 in
theorem add_any {w : World} {g : Nat} {T : TypeId} {a : Option Addr} {n cap first : Nat} {F : List Nat} {L : List It} {rest : List Value} (hbx : Bk w g T (hd a n cap first L.length rest)) (hpl : Pl w a n cap first F L) (hgF : g ∉ F) (x : It) (most : Int) (hm : (L.length : Int) < most) (hm2 : most ≤ 9223372036854775807) (hfew : L.length ≤ 8796093022207) :
    Calls Try.prog 27 #[.pointer (some ⟨g, 0, none⟩), .agg #[.int .i64 x.1, .int .i64 x.2], .int .i64 most] w (AddP g T F (L ++ [x]) rest w) := by
  obtain ⟨w1, hw1⟩ : ∃ w1, w1 = w.alloc (.cells #[.int .i64 x.1, .int .i64 x.2] 64) := ⟨_, rfl⟩
  have k1 : Below w.heap.size w w1 := by rw [hw1]; exact (Below.refl _ w).alloc (Nat.le_refl _) _
  have b1 := hbx.below k1
  have p1 := hpl.keep (SameB.of_below k1 hpl.lt)
  have i1 : Bk w1 w.heap.size 64 [.int .i64 x.1, .int .i64 x.2] := by rw [hw1]; exact Bk.new w _ _
  have hglt := hbx.lt
  have HF := Lib.hid hpl.lt
  obtain ⟨ib, hib⟩ : ∃ ib, ib = w.heap.size := ⟨_, rfl⟩
  rw [← hib] at i1 hglt HF
  have hE1 := Lib.hid hw1.symm
  have HIB := Lib.hid hib
  have B1 := Lib.hid b1
  have P1 := Lib.hid p1
  have I1 := Lib.hid i1
  have K1 := Lib.hid k1
  have hln := hpl.few
  have hn2 := hpl.2.1
  have hGF := Lib.hid hgF
  clear hw1 k1 b1 p1 i1 hib hbx hpl hgF
  have c0 := B1.out.c 0 rfl
  have c2 := B1.out.c 2 rfl
  obtain ⟨te, hte⟩ : ∃ te, te = decide (L.length = n) := ⟨_, rfl⟩
  have t1 : ((L.length : Int) == (n : Int)) = te := by rw [hte, Bool.eq_iff_iff]; simp; omega
  have HTE := Lib.hid hte
  clear hte
  go_enter Try.func27, Try.ntmps27
  go_wp2_with fail
  rw [hE1.out, ← HIB.out]
  go_quiet (fail)
  obtain ⟨w2, hw2⟩ : ∃ w2, w2 = w1.drewN nq := ⟨_, rfl⟩
  have B2 : Hid (Bk w2 g T (hd a n cap first L.length rest)) := Lib.hid (by rw [hw2]; exact B1.out.drewN nq)
  have I2 : Hid (Bk w2 ib 64 [.int .i64 x.1, .int .i64 x.2]) := Lib.hid (by rw [hw2]; exact I1.out.drewN nq)
  have P2 : Hid (Pl w2 a n cap first F L) := Lib.hid (by rw [hw2]; exact P1.out.keep (fun _ _ => rfl))
  have K2 : Hid (Below w.heap.size w w2) := Lib.hid (by rw [hw2]; exact below_drewN K1.out nq)
  rw [← hw2]
  clear hw2 B1 P1 I1 K1 hE1 c0 c2
  go_upto_if 15 with (fail)
  go_cut [] (fun wx => ∃ (pb n' cap' first' : Nat) (cs : List Value), Hid (Ring wx g T pb n' cap' first' cs L rest) ∧ Hid (Bk wx ib 64 [.int .i64 x.1, .int .i64 x.2]) ∧ Hid (Out (g :: F) w wx) ∧ Hid (L.length < n') ∧ Hid (g ≠ pb ∧ ib ≠ pb) ∧ Hid (pb ∈ F ∨ w.heap.size ≤ pb))
  case first =>
    by_cases hfull : L.length = n
    · have e : te = true := by rw [HTE.out]; simpa using hfull
      subst e
      have hsrc := P2.out.src B2.out
      obtain ⟨p, hp⟩ : ∃ p : Nat, (p : Int) = min (2 * (L.length : Int) + 1) most := ⟨(min (2 * (L.length : Int) + 1) most).toNat, by omega⟩
      have HLD := Lib.hid (laid_any hsrc p (by omega) (by omega))
      have HPP := Lib.hid hp
      have c2 := B2.out.c 2 rfl
      have w1' : IntKind.i64.wrap (2 * (L.length : Int)) = 2 * (L.length : Int) := by rw [IntKind.wrap_i64]; omega
      have w2' : IntKind.i64.wrap (2 * (L.length : Int) + 1) = 2 * (L.length : Int) + 1 := by rw [IntKind.wrap_i64]; omega
      have HFU := Lib.hid hfull
      clear hsrc hp t1 hfull
      go_wp2_with fail
      all_goals
        first
          | (with_reducible refine (show Calls Try.prog 26 #[.pointer (some ⟨g, 0, none⟩), .int .i64 (2 * (L.length : Int) + 1)] w2 (LaidP L p w2) from by rw [show 2 * (L.length : Int) + 1 = (p : Int) by have := HPP.out; omega]; exact HLD.out).mono ?_)
          | (with_reducible refine (show Calls Try.prog 26 #[.pointer (some ⟨g, 0, none⟩), .int .i64 most] w2 (LaidP L p w2) from by rw [show most = (p : Int) by have := HPP.out; omega]; exact HLD.out).mono ?_)
        rintro e w3 ⟨pb, cs, rfl, hpb, hb3, hk3, hc3, ht3⟩
        have B3 := Lib.hid (B2.out.below hb3)
        have I3 := Lib.hid (I2.out.below hb3)
        have HB3 := Lib.hid (K2.out.trans (hb3.mono K2.out.size))
        have hpz : w.heap.size ≤ w2.heap.size := K2.out.size
        have hpl : ib < pb := by have := I2.out.lt; omega
        have HK3 := Lib.hid hk3
        have HRG := Lib.hid (Rg.laid (cs := cs) (n := p) (L := L) (by have := HPP.out; omega) (by have := HPP.out; have := HFU.out; omega) (by omega) ht3)
        clear hb3 hk3 ht3
        have d0 := B3.out.c 0 rfl
        have d1 := B3.out.c 1 rfl
        have d2 := B3.out.c 2 rfl
        have f0 := B3.out.fz 0
        have f1 := B3.out.fz 1
        have f2 := B3.out.fz 2
        go_wp2_with fail
        go_meet
        refine ⟨pb, p, p, 0, cs, Lib.hid ⟨((B3.out.set 0 _).set 1 _).set 2 _, (((HK3.out.other (by omega) 0 _).other (by omega) 1 _).other (by omega) 2 _), HRG.out, Nat.le_refl _, by have := HPP.out; omega⟩, Lib.hid (((I3.out.other (by omega) 0 _).other (by omega) 1 _).other (by omega) 2 _), Lib.hid ((((Out.of_below HB3.out).setCell (.inl (List.mem_cons_self ..)) 0 _).setCell (.inl (List.mem_cons_self ..)) 1 _).setCell (.inl (List.mem_cons_self ..)) 2 _), Lib.hid (by have := HPP.out; omega), Lib.hid ⟨by omega, by omega⟩, Lib.hid (.inr (by omega))⟩
    · have e : te = false := by rw [HTE.out]; simpa using hfull
      subst e
      have hn0 : 0 < n := by omega
      obtain ⟨pb, cs, rfl, rfl, hr⟩ := P2.out.ring B2.out hn0
      have hlt := HF.out pb (List.mem_singleton_self _)
      have HR := Lib.hid hr
      clear hr t1
      go_wp2_with fail
      go_meet
      exact ⟨_, _, _, _, _, HR, I2, Lib.hid (Out.of_below K2.out), Lib.hid (by omega), Lib.hid ⟨fun e => hGF.out (by rw [e]; exact List.mem_singleton_self _), by omega⟩, Lib.hid (.inl (List.mem_singleton_self _))⟩
  case rest =>
    obtain ⟨pb, n', cap', first', cs, HR, HI, HO, HL, HN, HPB⟩ := hcut
    have hsl := slot_lt (first := first') (k := L.length) (show 0 < n' by have := HL.out; omega)
    have hroom := HR.out.rg.room
    have HAT := Lib.hid (fun W (hW : Below wc.heap.size wc W) => at_any (HR.out.below hW).box HR.out.rg.pos (k := L.length) HL.out HR.out.few HR.out.cap)
    have HPUT := Lib.hid (HR.out.rg.add HL.out x)
    obtain ⟨S, hS⟩ : ∃ S, S = slot n' first' L.length := ⟨_, rfl⟩
    rw [← hS] at hsl HAT HPUT
    have hs0 : S * 2 < cs.length := by omega
    have hs1 : S * 2 + 1 < cs.length := by omega
    obtain ⟨z0, e0⟩ : ∃ z, wc.cell? ⟨pb, S * 2, none⟩ = some z := ⟨_, HR.out.pls.c (S * 2) (List.getElem?_eq_getElem hs0)⟩
    obtain ⟨z1, e1⟩ : ∃ z, wc.cell? ⟨pb, S * 2 + 1, none⟩ = some z := ⟨_, HR.out.pls.c (S * 2 + 1) (List.getElem?_eq_getElem hs1)⟩
    have g0 := HR.out.pls.fz (S * 2)
    have g1 := HR.out.pls.fz (S * 2 + 1)
    have j0 := HI.out.c 0 rfl
    have j1 := HI.out.c 1 rfl
    have c2 := HR.out.box.c 2 rfl
    have f2 := HR.out.box.fz 2
    have HH := Lib.hid hS
    have HS0 := Lib.hid hs0
    clear hS hroom hsl hs0 hs1
    go_wp2_with fail
    go_region_with (go_at_call 28; refine (HAT.out _ ?_).mono ?_; exact (Below.refl _ wc).drew; rintro e w' ⟨rfl, q, rfl⟩)
    all_goals
      obtain ⟨W3, hW3⟩ : ∃ W3, W3 = ((wc.drewN (1 + q)).setCell ⟨pb, S * 2, none⟩ (.int .i64 x.1)).setCell ⟨pb, S * 2 + 1, none⟩ (.int .i64 x.2) := ⟨_, rfl⟩
      have B3 : Bk W3 g T (hd (some ⟨pb, 0, none⟩) n' cap' first' L.length rest) := by rw [hW3]; exact ((HR.out.box.drewN (1 + q)).other HN.out.1 _ _).other HN.out.1 _ _
      have P3 : Bk W3 pb 64 (put2 cs S (.int .i64 x.1) (.int .i64 x.2)) := by rw [hW3]; exact ((HR.out.pls.drewN (1 + q)).set _ _).set _ _
      have O3 : Out (g :: F) w W3 := by rw [hW3]; exact ((HO.out.drewN (1 + q)).setCell (HPB.out.imp (List.mem_cons_of_mem _) id) _ _).setCell (HPB.out.imp (List.mem_cons_of_mem _) id) _ _
      have HB3 := Lib.hid B3
      have HP3 := Lib.hid P3
      have HO3 := Lib.hid O3
      rw [← hW3]
      clear hW3 B3 P3 O3 e0 e1 g0 g1 j0 j1 c2 f2 HAT
      have c2 := HB3.out.c 2 rfl
      have f2 := HB3.out.fz 2
      have hw9 : IntKind.i64.wrap ((L.length : Int) + 1) = (L.length : Int) + 1 := by rw [IntKind.wrap_i64]; omega
      go_wp2
      go_end0
      refine ⟨rfl, some ⟨pb, 0, none⟩, n', cap', first', [pb], ?_, ⟨HR.out.cap, HR.out.few, .inr ⟨pb, _, rfl, rfl, HP3.out.other (Ne.symm HN.out.1) _ _, HPUT.out⟩⟩, HO3.out.setCell (.inl (List.mem_cons_self ..)) _ _, fun b hb => by rw [List.mem_singleton.1 hb]; exact HPB.out⟩
      have := HB3.out.set 2 (.int .i64 ((L.length : Int) + 1))
      rw [List.length_append]
      exact this
end Go.Proofs.Ytpemdfdmnbhpjaa
