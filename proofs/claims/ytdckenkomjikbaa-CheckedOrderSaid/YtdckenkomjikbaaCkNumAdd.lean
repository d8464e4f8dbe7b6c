/- The reference's numbers: sums and products. -/
import Derived.Test.YtdckenkomjikbaaCkNumOps
import Derived.Deep.RegionHeld3
namespace Go.Proofs.Ytdckenkomjikbaa
open Go.RowKit
set_option maxRecDepth 100000

theorem numint_any {w : World} {v : Value} {s : Int} (h : NumAt w v s) :
    Calls Try.prog 32 #[v] w fun e w' => e = .returned (.tuple #[.int .i64 (fitV s), .int .i64 (fitE s)]) ∧ Below w.heap.size w w' := by
  obtain ⟨b, a, n, cap, ds, rfl, hI, hD, hC, rfl⟩ := h
  rcases Nat.eq_zero_or_pos n with rfl | hn
  · have hv : val ds = 0 := hC.zero.1 hI.1
    cases b
    · exact numint_zero_false hI hD hC hv
    · exact numint_zero_true hI hD hC hv
  · have hI2 := hI
    obtain ⟨x, o, rfl, hc⟩ := hI.cell hn
    cases b
    · rcases Int.lt_or_le 9223372036854775807 (val ds) with hv | hv
      · exact numint_over_false hI hD hC hv
      · exact numint_fit_false hI hD hC hn hv
    · rcases Int.lt_or_le 9223372036854775808 (val ds) with hv | hv
      · exact numint_over_true hI hD hC hv
      · exact numint_fit_true hI hD hC hn hv

/-- digits lie in no box of a sign and a slice -/
theorem Ints.set {w : World} {a : Option Addr} {n c g j : Nat} {l : List Int} {x : Bool} {ya : Option Addr} {yn yc : Nat} (h : Ints w a n c l) (hb : Box2 w g (.bool x) (.slice ya yn yc)) (u : Value) : Ints (w.setCell ⟨g, j, none⟩ u) a n c l := by
  obtain ⟨h1, h2, h3, h5, h4⟩ := h
  refine ⟨h1, h2, h3, h5, h4.imp id ?_⟩
  rintro ⟨p, rfl, hp⟩
  refine ⟨p, rfl, hp.mono fun i hi => ?_⟩
  have hc := hp i hi
  refine World.cell?_setCell_other _ _ _ _ ?_
  intro e
  rw [← e] at hc
  match j, hc with
  | 0, hc => rw [hb.c0] at hc; cases hc
  | 1, hc => rw [hb.c1] at hc; cases hc
  | j + 2, hc => rw [cell_of_row w g (j + 2) _ _ _ hb] at hc; simp at hc
/-- the end of a sum or a product -/
theorem numEnd {w w1 : World} {b x : Bool} {ra ya : Option Addr} {rc yn yc g : Nat} {ds : List Int} {s : Int} (hb : Below w.heap.size w w1) (Y : Box2 w1 g (.bool x) (.slice ya yn yc)) (hg : w.heap.size ≤ g) (hri : Ints w1 ra ds.length rc ds) (hd : Dig ds) (hc : Can ds) (hs : (if b then -val ds else val ds) = s) :
    NumP w s (.returned (.agg #[.bool b, .slice ra ds.length rc])) ((w1.setCell ⟨g, 0, none⟩ (.bool b)).setCell ⟨g, 1, none⟩ (.slice ra ds.length rc)) :=
  ⟨_, rfl, ⟨b, ra, _, rc, ds, rfl, (hri.set Y _).set (Y.set0 _) _, hd, hc, hs⟩, (hb.setCell hg _).setCell hg _⟩

/-- the world when a sum begins: the two numbers in boxes of their own, a place for the answer -/
def addW (w : World) (x y : Array Value) : World := ((w.alloc (.cells x 39)).alloc (.cells y 39)).alloc (.cells #[.bool false, .slice none 0 0] 39)
theorem addW_size (w : World) (x y : Array Value) : (addW w x y).heap.size = w.heap.size + 3 := by unfold addW; simp
theorem addW_below (w : World) (x y : Array Value) : Below w.heap.size w (addW w x y) := by
  unfold addW; exact (((Below.refl w.heap.size w).alloc (Nat.le_refl _) _).alloc (by simp) _).alloc (by simp; omega) _
theorem addW_0 (w : World) (x y u v : Value) : Box2 (addW w #[x, y] #[u, v]) w.heap.size x y := by
  unfold addW Box2
  rw [Below.heap_alloc _ _ _ (by simp; omega)]; exact heap_alloc2_old _ _ _
theorem addW_1 (w : World) (x y u v : Value) : Box2 (addW w #[x, y] #[u, v]) (w.heap.size + 1) u v := by
  unfold addW Box2
  rw [Below.heap_alloc _ _ _ (by simp)]; exact heap_alloc2_new _ _ _
theorem addW_2 (w : World) (x y u v : Value) : Box2 (addW w #[x, y] #[u, v]) (w.heap.size + 1 + 1) (.bool false) (.slice none 0 0) := by
  unfold addW Box2
  have := heap_alloc_new ((w.alloc (.cells #[x, y] 39)).alloc (.cells #[u, v] 39)) (.cells #[.bool false, .slice none 0 0] 39)
  rw [show ((w.alloc (.cells #[x, y] 39)).alloc (.cells #[u, v] 39)).heap.size = w.heap.size + 1 + 1 by simp] at this
  exact this

set_option maxHeartbeats 4000000 in
theorem numadd_same_false {w : World} {a1 a2 : Option Addr} {n1 n2 c1 c2 : Nat} {d1 d2 : List Int} (h1 : Ints w a1 n1 c1 d1) (h2 : Ints w a2 n2 c2 d2) (e1 : Dig d1) (e2 : Dig d2) (f1 : Can d1) (f2 : Can d2) (g1 : n1 ≤ 1000) (g2 : n2 ≤ 1000) :
    Calls Try.prog 31 #[.agg #[.bool false, .slice a1 n1 c1], .agg #[.bool false, .slice a2 n2 c2]] w (NumP w ((if false then -val d1 else val d1) + (if false then -val d2 else val d2))) := by
  obtain ⟨W0, hW0⟩ : ∃ W0, W0 = addW w #[.bool false, .slice a1 n1 c1] #[.bool false, .slice a2 n2 c2] := ⟨_, rfl⟩
  have hB := addW_below w #[.bool false, .slice a1 n1 c1] #[.bool false, .slice a2 n2 c2]
  have x0 := addW_0 w (.bool false) (.slice a1 n1 c1) (.bool false) (.slice a2 n2 c2)
  have x1 := addW_1 w (.bool false) (.slice a1 n1 c1) (.bool false) (.slice a2 n2 c2)
  have x2 := addW_2 w (.bool false) (.slice a1 n1 c1) (.bool false) (.slice a2 n2 c2)
  have hz := addW_size w #[.bool false, .slice a1 n1 c1] #[.bool false, .slice a2 n2 c2]
  rw [← hW0] at hB x0 x1 x2 hz
  have HI1 : Hid (Ints W0 a1 n1 c1 d1) := Lib.hid (h1.below hB (Nat.le_refl _))
  have HI2 : Hid (Ints W0 a2 n2 c2 d2) := Lib.hid (h2.below hB (Nat.le_refl _))
  have HB := Lib.hid hB
  have HZ := Lib.hid hz
  have X0 := Lib.hid x0
  have X1 := Lib.hid x1
  have X2 := Lib.hid x2
  have HW0 := Lib.hid hW0
  clear hW0 hB hz x0 x1 x2 h1 h2
  go_enter Try.func31, Try.ntmps31
  go_wp2_with fail
  have e := HW0.out
  unfold addW at e
  rw [← e]
  clear e
  have k0 := X0.out.c0
  have k1 := X0.out.c1
  have k2 := X1.out.c1
  have k7 := X1.out.c0
  have k3 := X2.out.c0
  have k4 := X2.out.c1
  have k5 := X2.out.fz 0
  have k6 := X2.out.fz 1
  have hlt := X2.out.lt
  go_region_held3 (fun w' => w'.cell? ⟨w.heap.size, 0, none⟩ = some (.bool false) ∧ w'.cell? ⟨w.heap.size, 1, none⟩ = some (.slice a1 n1 c1) ∧ w'.cell? ⟨w.heap.size + 1, 1, none⟩ = some (.slice a2 n2 c2))
    (((try dsimp only); refine ⟨?_, ?_, ?_⟩) <;> first | assumption | (rw [World.cell?_setCell_other _ _ _ _ (by simp), World.cell?_setCell_other _ _ _ _ (by simp)]; assumption) | go_keep)
    (first | (go_at_call 41; refine (tog_any (HI1.out.drewN 1) (HI2.out.drewN 1) e1 e2 g1 g2).mono ?_; rintro e w1 ⟨v1, ds, rfl, ⟨ra, rc, rfl, hri, hb1⟩, hv, hd, hc, _⟩; have hb2 : Below W0.heap.size W0 w1 := (below_drewN (Below.refl W0.heap.size W0) 1).trans hb1; have hri := Lib.hid hri; have hv := Lib.hid hv; have hc := Lib.hid hc; have hd := Lib.hid hd; have s0 := (X0.out.keep hb2 (by omega)).c0; have s1 := (X0.out.keep hb2 (by omega)).c1; have s2 := (X1.out.keep hb2 (by omega)).c1; have Y2 := Lib.hid (X2.out.keep hb2 hlt); have j3 := Y2.out.c0; have j4 := Y2.out.c1; have j5 := Y2.out.fz 0; have j6 := Y2.out.fz 1; have j7 := Y2.out.lt))
  go_wp2
  have Z0 := (Y2.out.set0 (.bool false)).set1 (.slice ra ds.length rc)
  have z0 := Z0.c0
  have z1 := Z0.c1
  have hbw : Below w.heap.size w w1 := HB.out.trans (hb2.mono (by rw [HZ.out]; omega))
  exact bodyPost_ret (v := .agg #[.bool false, .slice ra ds.length rc]) (by simp [results, Try.results31, go_sem, z0, z1]) rfl (numEnd hbw Y2.out (by omega) hri.out hd.out (hc.out f1 f2) (by have := hv.out; simp; omega))

set_option maxHeartbeats 4000000 in
theorem numadd_same_true {w : World} {a1 a2 : Option Addr} {n1 n2 c1 c2 : Nat} {d1 d2 : List Int} (h1 : Ints w a1 n1 c1 d1) (h2 : Ints w a2 n2 c2 d2) (e1 : Dig d1) (e2 : Dig d2) (f1 : Can d1) (f2 : Can d2) (g1 : n1 ≤ 1000) (g2 : n2 ≤ 1000) :
    Calls Try.prog 31 #[.agg #[.bool true, .slice a1 n1 c1], .agg #[.bool true, .slice a2 n2 c2]] w (NumP w ((if true then -val d1 else val d1) + (if true then -val d2 else val d2))) := by
  obtain ⟨W0, hW0⟩ : ∃ W0, W0 = addW w #[.bool true, .slice a1 n1 c1] #[.bool true, .slice a2 n2 c2] := ⟨_, rfl⟩
  have hB := addW_below w #[.bool true, .slice a1 n1 c1] #[.bool true, .slice a2 n2 c2]
  have x0 := addW_0 w (.bool true) (.slice a1 n1 c1) (.bool true) (.slice a2 n2 c2)
  have x1 := addW_1 w (.bool true) (.slice a1 n1 c1) (.bool true) (.slice a2 n2 c2)
  have x2 := addW_2 w (.bool true) (.slice a1 n1 c1) (.bool true) (.slice a2 n2 c2)
  have hz := addW_size w #[.bool true, .slice a1 n1 c1] #[.bool true, .slice a2 n2 c2]
  rw [← hW0] at hB x0 x1 x2 hz
  have HI1 : Hid (Ints W0 a1 n1 c1 d1) := Lib.hid (h1.below hB (Nat.le_refl _))
  have HI2 : Hid (Ints W0 a2 n2 c2 d2) := Lib.hid (h2.below hB (Nat.le_refl _))
  have HB := Lib.hid hB
  have HZ := Lib.hid hz
  have X0 := Lib.hid x0
  have X1 := Lib.hid x1
  have X2 := Lib.hid x2
  have HW0 := Lib.hid hW0
  clear hW0 hB hz x0 x1 x2 h1 h2
  go_enter Try.func31, Try.ntmps31
  go_wp2_with fail
  have e := HW0.out
  unfold addW at e
  rw [← e]
  clear e
  have k0 := X0.out.c0
  have k1 := X0.out.c1
  have k2 := X1.out.c1
  have k7 := X1.out.c0
  have k3 := X2.out.c0
  have k4 := X2.out.c1
  have k5 := X2.out.fz 0
  have k6 := X2.out.fz 1
  have hlt := X2.out.lt
  go_region_held3 (fun w' => w'.cell? ⟨w.heap.size, 0, none⟩ = some (.bool true) ∧ w'.cell? ⟨w.heap.size, 1, none⟩ = some (.slice a1 n1 c1) ∧ w'.cell? ⟨w.heap.size + 1, 1, none⟩ = some (.slice a2 n2 c2))
    (((try dsimp only); refine ⟨?_, ?_, ?_⟩) <;> first | assumption | (rw [World.cell?_setCell_other _ _ _ _ (by simp), World.cell?_setCell_other _ _ _ _ (by simp)]; assumption) | go_keep)
    (first | (go_at_call 41; refine (tog_any (HI1.out.drewN 1) (HI2.out.drewN 1) e1 e2 g1 g2).mono ?_; rintro e w1 ⟨v1, ds, rfl, ⟨ra, rc, rfl, hri, hb1⟩, hv, hd, hc, _⟩; have hb2 : Below W0.heap.size W0 w1 := (below_drewN (Below.refl W0.heap.size W0) 1).trans hb1; have hri := Lib.hid hri; have hv := Lib.hid hv; have hc := Lib.hid hc; have hd := Lib.hid hd; have s0 := (X0.out.keep hb2 (by omega)).c0; have s1 := (X0.out.keep hb2 (by omega)).c1; have s2 := (X1.out.keep hb2 (by omega)).c1; have Y2 := Lib.hid (X2.out.keep hb2 hlt); have j3 := Y2.out.c0; have j4 := Y2.out.c1; have j5 := Y2.out.fz 0; have j6 := Y2.out.fz 1; have j7 := Y2.out.lt))
  go_wp2
  have Z0 := (Y2.out.set0 (.bool true)).set1 (.slice ra ds.length rc)
  have z0 := Z0.c0
  have z1 := Z0.c1
  have hbw : Below w.heap.size w w1 := HB.out.trans (hb2.mono (by rw [HZ.out]; omega))
  exact bodyPost_ret (v := .agg #[.bool true, .slice ra ds.length rc]) (by simp [results, Try.results31, go_sem, z0, z1]) rfl (numEnd hbw Y2.out (by omega) hri.out hd.out (hc.out f1 f2) (by have := hv.out; simp; omega))

set_option maxHeartbeats 4000000 in
theorem numadd_less_false {w : World} {a1 a2 : Option Addr} {n1 n2 c1 c2 : Nat} {d1 d2 : List Int} (h1 : Ints w a1 n1 c1 d1) (h2 : Ints w a2 n2 c2 d2) (e1 : Dig d1) (e2 : Dig d2) (f1 : Can d1) (f2 : Can d2) (g1 : n1 ≤ 1000) (g2 : n2 ≤ 1000) (hlv : val d1 < val d2) :
    Calls Try.prog 31 #[.agg #[.bool false, .slice a1 n1 c1], .agg #[.bool true, .slice a2 n2 c2]] w (NumP w ((if false then -val d1 else val d1) + (if true then -val d2 else val d2))) := by
  have T : decide (val d1 < val d2) = true := by simpa using hlv
  have HLV := Lib.hid hlv
  clear hlv
  obtain ⟨W0, hW0⟩ : ∃ W0, W0 = addW w #[.bool false, .slice a1 n1 c1] #[.bool true, .slice a2 n2 c2] := ⟨_, rfl⟩
  have hB := addW_below w #[.bool false, .slice a1 n1 c1] #[.bool true, .slice a2 n2 c2]
  have x0 := addW_0 w (.bool false) (.slice a1 n1 c1) (.bool true) (.slice a2 n2 c2)
  have x1 := addW_1 w (.bool false) (.slice a1 n1 c1) (.bool true) (.slice a2 n2 c2)
  have x2 := addW_2 w (.bool false) (.slice a1 n1 c1) (.bool true) (.slice a2 n2 c2)
  have hz := addW_size w #[.bool false, .slice a1 n1 c1] #[.bool true, .slice a2 n2 c2]
  rw [← hW0] at hB x0 x1 x2 hz
  have HI1 : Hid (Ints W0 a1 n1 c1 d1) := Lib.hid (h1.below hB (Nat.le_refl _))
  have HI2 : Hid (Ints W0 a2 n2 c2 d2) := Lib.hid (h2.below hB (Nat.le_refl _))
  have HB := Lib.hid hB
  have HZ := Lib.hid hz
  have X0 := Lib.hid x0
  have X1 := Lib.hid x1
  have X2 := Lib.hid x2
  have HW0 := Lib.hid hW0
  clear hW0 hB hz x0 x1 x2 h1 h2
  go_enter Try.func31, Try.ntmps31
  go_wp2_with fail
  have e := HW0.out
  unfold addW at e
  rw [← e]
  clear e
  have k0 := X0.out.c0
  have k1 := X0.out.c1
  have k2 := X1.out.c1
  have k7 := X1.out.c0
  have k3 := X2.out.c0
  have k4 := X2.out.c1
  have k5 := X2.out.fz 0
  have k6 := X2.out.fz 1
  have hlt := X2.out.lt
  refine (less_any HI1.out HI2.out e1 e2 f1 f2).mono ?_
  rintro e wq ⟨rfl, q, rfl⟩
  have hbq := below_drewN (Below.refl W0.heap.size W0) q
  have hzq : (W0.drewN q).heap.size = w.heap.size + 3 := HZ.out
  generalize W0.drewN q = W1 at hbq hzq ⊢
  clear k0 k1 k2 k3 k4 k5 k6 k7 hlt
  have hbw1 : Below w.heap.size w W1 := HB.out.trans (hbq.mono (by rw [HZ.out]; omega))
  have HB1 := Lib.hid hbw1
  have HZ1 := Lib.hid hzq
  have Z0 := Lib.hid (X0.out.keep hbq (by rw [HZ.out]; omega))
  have Z1 := Lib.hid (X1.out.keep hbq (by rw [HZ.out]; omega))
  have Z2 := Lib.hid (X2.out.keep hbq (by rw [HZ.out]; omega))
  have J1 := Lib.hid (HI1.out.below hbq (Nat.le_refl _))
  have J2 := Lib.hid (HI2.out.below hbq (Nat.le_refl _))
  have k0 := Z0.out.c0
  have k1 := Z0.out.c1
  have k2 := Z1.out.c1
  have k7 := Z1.out.c0
  have k3 := Z2.out.c0
  have k4 := Z2.out.c1
  have k5 := Z2.out.fz 0
  have k6 := Z2.out.fz 1
  have hlt := Z2.out.lt
  clear hbq hzq hbw1
  go_wp2_with fail
  go_region_held3 (fun w' => w'.cell? ⟨w.heap.size + 1, 0, none⟩ = some (.bool true) ∧ w'.cell? ⟨w.heap.size, 1, none⟩ = some (.slice a1 n1 c1) ∧ w'.cell? ⟨w.heap.size + 1, 1, none⟩ = some (.slice a2 n2 c2))
    (((try dsimp only); refine ⟨?_, ?_, ?_⟩) <;> first | assumption | (rw [World.cell?_setCell_other _ _ _ _ (by simp), World.cell?_setCell_other _ _ _ _ (by simp)]; assumption) | go_keep)
    (first | (go_at_call 43; refine (apa_any (J2.out.drewN 1) (J1.out.drewN 1) e2 e1 f1 (by have := HLV.out; omega) g2 g1).mono ?_; rintro e w1 ⟨v1, ds, rfl, ⟨ra, rc, rfl, hri, hb1⟩, hv, hd, hc⟩; have hb2 : Below W1.heap.size W1 w1 := (below_drewN (Below.refl W1.heap.size W1) 1).trans hb1; have hri := Lib.hid hri; have hv := Lib.hid hv; have hc := Lib.hid hc; have hd := Lib.hid hd; have s0 := (Z1.out.keep hb2 (by omega)).c0; have s1 := (Z0.out.keep hb2 (by omega)).c1; have s2 := (Z1.out.keep hb2 (by omega)).c1; have Y2 := Lib.hid (Z2.out.keep hb2 hlt); have j3 := Y2.out.c0; have j4 := Y2.out.c1; have j5 := Y2.out.fz 0; have j6 := Y2.out.fz 1; have j7 := Y2.out.lt))
  go_wp2
  have Z0 := (Y2.out.set0 (.bool true)).set1 (.slice ra ds.length rc)
  have z0 := Z0.c0
  have z1 := Z0.c1
  have hbw : Below w.heap.size w w1 := HB1.out.trans (hb2.mono (by rw [HZ1.out]; omega))
  exact bodyPost_ret (v := .agg #[.bool true, .slice ra ds.length rc]) (by simp [results, Try.results31, go_sem, z0, z1]) rfl (numEnd hbw Y2.out (by omega) hri.out hd.out hc.out (by have := hv.out; simp; omega))

set_option maxHeartbeats 4000000 in
theorem numadd_more_false {w : World} {a1 a2 : Option Addr} {n1 n2 c1 c2 : Nat} {d1 d2 : List Int} (h1 : Ints w a1 n1 c1 d1) (h2 : Ints w a2 n2 c2 d2) (e1 : Dig d1) (e2 : Dig d2) (f1 : Can d1) (f2 : Can d2) (g1 : n1 ≤ 1000) (g2 : n2 ≤ 1000) (hlv : ¬ val d1 < val d2) :
    Calls Try.prog 31 #[.agg #[.bool false, .slice a1 n1 c1], .agg #[.bool true, .slice a2 n2 c2]] w (NumP w ((if false then -val d1 else val d1) + (if true then -val d2 else val d2))) := by
  have T : decide (val d1 < val d2) = false := by simpa using hlv
  have HLV := Lib.hid hlv
  clear hlv
  obtain ⟨W0, hW0⟩ : ∃ W0, W0 = addW w #[.bool false, .slice a1 n1 c1] #[.bool true, .slice a2 n2 c2] := ⟨_, rfl⟩
  have hB := addW_below w #[.bool false, .slice a1 n1 c1] #[.bool true, .slice a2 n2 c2]
  have x0 := addW_0 w (.bool false) (.slice a1 n1 c1) (.bool true) (.slice a2 n2 c2)
  have x1 := addW_1 w (.bool false) (.slice a1 n1 c1) (.bool true) (.slice a2 n2 c2)
  have x2 := addW_2 w (.bool false) (.slice a1 n1 c1) (.bool true) (.slice a2 n2 c2)
  have hz := addW_size w #[.bool false, .slice a1 n1 c1] #[.bool true, .slice a2 n2 c2]
  rw [← hW0] at hB x0 x1 x2 hz
  have HI1 : Hid (Ints W0 a1 n1 c1 d1) := Lib.hid (h1.below hB (Nat.le_refl _))
  have HI2 : Hid (Ints W0 a2 n2 c2 d2) := Lib.hid (h2.below hB (Nat.le_refl _))
  have HB := Lib.hid hB
  have HZ := Lib.hid hz
  have X0 := Lib.hid x0
  have X1 := Lib.hid x1
  have X2 := Lib.hid x2
  have HW0 := Lib.hid hW0
  clear hW0 hB hz x0 x1 x2 h1 h2
  go_enter Try.func31, Try.ntmps31
  go_wp2_with fail
  have e := HW0.out
  unfold addW at e
  rw [← e]
  clear e
  have k0 := X0.out.c0
  have k1 := X0.out.c1
  have k2 := X1.out.c1
  have k7 := X1.out.c0
  have k3 := X2.out.c0
  have k4 := X2.out.c1
  have k5 := X2.out.fz 0
  have k6 := X2.out.fz 1
  have hlt := X2.out.lt
  refine (less_any HI1.out HI2.out e1 e2 f1 f2).mono ?_
  rintro e wq ⟨rfl, q, rfl⟩
  have hbq := below_drewN (Below.refl W0.heap.size W0) q
  have hzq : (W0.drewN q).heap.size = w.heap.size + 3 := HZ.out
  generalize W0.drewN q = W1 at hbq hzq ⊢
  clear k0 k1 k2 k3 k4 k5 k6 k7 hlt
  have hbw1 : Below w.heap.size w W1 := HB.out.trans (hbq.mono (by rw [HZ.out]; omega))
  have HB1 := Lib.hid hbw1
  have HZ1 := Lib.hid hzq
  have Z0 := Lib.hid (X0.out.keep hbq (by rw [HZ.out]; omega))
  have Z1 := Lib.hid (X1.out.keep hbq (by rw [HZ.out]; omega))
  have Z2 := Lib.hid (X2.out.keep hbq (by rw [HZ.out]; omega))
  have J1 := Lib.hid (HI1.out.below hbq (Nat.le_refl _))
  have J2 := Lib.hid (HI2.out.below hbq (Nat.le_refl _))
  have k0 := Z0.out.c0
  have k1 := Z0.out.c1
  have k2 := Z1.out.c1
  have k7 := Z1.out.c0
  have k3 := Z2.out.c0
  have k4 := Z2.out.c1
  have k5 := Z2.out.fz 0
  have k6 := Z2.out.fz 1
  have hlt := Z2.out.lt
  clear hbq hzq hbw1
  go_wp2_with fail
  refine (apa_any J1.out J2.out e1 e2 f2 (by have := HLV.out; omega) g1 g2).mono ?_
  rintro e w1 ⟨v1, ds, rfl, ⟨ra, rc, rfl, hri, hb2⟩, hv, hd, hc⟩
  have hzz := hc.zero
  have hri := Lib.hid hri
  have hv := Lib.hid hv
  have hc := Lib.hid hc
  have hd := Lib.hid hd
  have s0 := (Z0.out.keep hb2 (by omega)).c0
  have s1 := (Z0.out.keep hb2 (by omega)).c1
  have s2 := (Z1.out.keep hb2 (by omega)).c1
  have Y2 := Lib.hid (Z2.out.keep hb2 hlt)
  have j3 := Y2.out.c0
  have j4 := Y2.out.c1
  have j5 := Y2.out.fz 0
  have j6 := Y2.out.fz 1
  have j7 := Y2.out.lt
  have HBW : Hid (Below w.heap.size w w1) := Lib.hid (HB1.out.trans (hb2.mono (by rw [HZ1.out]; omega)))
  clear hb2
  clear hzz
  go_wp2
  have Z0 := (Y2.out.set0 (.bool false)).set1 (.slice ra ds.length rc)
  have z0 := Z0.c0
  have z1 := Z0.c1
  exact bodyPost_ret (v := .agg #[.bool false, .slice ra ds.length rc]) (by simp [results, Try.results31, go_sem, z0, z1]) rfl (numEnd HBW.out Y2.out (by omega) hri.out hd.out hc.out (by have := hv.out; simp; omega))

set_option maxHeartbeats 4000000 in
theorem numadd_less_true {w : World} {a1 a2 : Option Addr} {n1 n2 c1 c2 : Nat} {d1 d2 : List Int} (h1 : Ints w a1 n1 c1 d1) (h2 : Ints w a2 n2 c2 d2) (e1 : Dig d1) (e2 : Dig d2) (f1 : Can d1) (f2 : Can d2) (g1 : n1 ≤ 1000) (g2 : n2 ≤ 1000) (hlv : val d1 < val d2) :
    Calls Try.prog 31 #[.agg #[.bool true, .slice a1 n1 c1], .agg #[.bool false, .slice a2 n2 c2]] w (NumP w ((if true then -val d1 else val d1) + (if false then -val d2 else val d2))) := by
  have T : decide (val d1 < val d2) = true := by simpa using hlv
  have HLV := Lib.hid hlv
  clear hlv
  obtain ⟨W0, hW0⟩ : ∃ W0, W0 = addW w #[.bool true, .slice a1 n1 c1] #[.bool false, .slice a2 n2 c2] := ⟨_, rfl⟩
  have hB := addW_below w #[.bool true, .slice a1 n1 c1] #[.bool false, .slice a2 n2 c2]
  have x0 := addW_0 w (.bool true) (.slice a1 n1 c1) (.bool false) (.slice a2 n2 c2)
  have x1 := addW_1 w (.bool true) (.slice a1 n1 c1) (.bool false) (.slice a2 n2 c2)
  have x2 := addW_2 w (.bool true) (.slice a1 n1 c1) (.bool false) (.slice a2 n2 c2)
  have hz := addW_size w #[.bool true, .slice a1 n1 c1] #[.bool false, .slice a2 n2 c2]
  rw [← hW0] at hB x0 x1 x2 hz
  have HI1 : Hid (Ints W0 a1 n1 c1 d1) := Lib.hid (h1.below hB (Nat.le_refl _))
  have HI2 : Hid (Ints W0 a2 n2 c2 d2) := Lib.hid (h2.below hB (Nat.le_refl _))
  have HB := Lib.hid hB
  have HZ := Lib.hid hz
  have X0 := Lib.hid x0
  have X1 := Lib.hid x1
  have X2 := Lib.hid x2
  have HW0 := Lib.hid hW0
  clear hW0 hB hz x0 x1 x2 h1 h2
  go_enter Try.func31, Try.ntmps31
  go_wp2_with fail
  have e := HW0.out
  unfold addW at e
  rw [← e]
  clear e
  have k0 := X0.out.c0
  have k1 := X0.out.c1
  have k2 := X1.out.c1
  have k7 := X1.out.c0
  have k3 := X2.out.c0
  have k4 := X2.out.c1
  have k5 := X2.out.fz 0
  have k6 := X2.out.fz 1
  have hlt := X2.out.lt
  refine (less_any HI1.out HI2.out e1 e2 f1 f2).mono ?_
  rintro e wq ⟨rfl, q, rfl⟩
  have hbq := below_drewN (Below.refl W0.heap.size W0) q
  have hzq : (W0.drewN q).heap.size = w.heap.size + 3 := HZ.out
  generalize W0.drewN q = W1 at hbq hzq ⊢
  clear k0 k1 k2 k3 k4 k5 k6 k7 hlt
  have hbw1 : Below w.heap.size w W1 := HB.out.trans (hbq.mono (by rw [HZ.out]; omega))
  have HB1 := Lib.hid hbw1
  have HZ1 := Lib.hid hzq
  have Z0 := Lib.hid (X0.out.keep hbq (by rw [HZ.out]; omega))
  have Z1 := Lib.hid (X1.out.keep hbq (by rw [HZ.out]; omega))
  have Z2 := Lib.hid (X2.out.keep hbq (by rw [HZ.out]; omega))
  have J1 := Lib.hid (HI1.out.below hbq (Nat.le_refl _))
  have J2 := Lib.hid (HI2.out.below hbq (Nat.le_refl _))
  have k0 := Z0.out.c0
  have k1 := Z0.out.c1
  have k2 := Z1.out.c1
  have k7 := Z1.out.c0
  have k3 := Z2.out.c0
  have k4 := Z2.out.c1
  have k5 := Z2.out.fz 0
  have k6 := Z2.out.fz 1
  have hlt := Z2.out.lt
  clear hbq hzq hbw1
  go_wp2_with fail
  go_region_held3 (fun w' => w'.cell? ⟨w.heap.size + 1, 0, none⟩ = some (.bool false) ∧ w'.cell? ⟨w.heap.size, 1, none⟩ = some (.slice a1 n1 c1) ∧ w'.cell? ⟨w.heap.size + 1, 1, none⟩ = some (.slice a2 n2 c2))
    (((try dsimp only); refine ⟨?_, ?_, ?_⟩) <;> first | assumption | (rw [World.cell?_setCell_other _ _ _ _ (by simp), World.cell?_setCell_other _ _ _ _ (by simp)]; assumption) | go_keep)
    (first | (go_at_call 43; refine (apa_any (J2.out.drewN 1) (J1.out.drewN 1) e2 e1 f1 (by have := HLV.out; omega) g2 g1).mono ?_; rintro e w1 ⟨v1, ds, rfl, ⟨ra, rc, rfl, hri, hb1⟩, hv, hd, hc⟩; have hb2 : Below W1.heap.size W1 w1 := (below_drewN (Below.refl W1.heap.size W1) 1).trans hb1; have hri := Lib.hid hri; have hv := Lib.hid hv; have hc := Lib.hid hc; have hd := Lib.hid hd; have s0 := (Z1.out.keep hb2 (by omega)).c0; have s1 := (Z0.out.keep hb2 (by omega)).c1; have s2 := (Z1.out.keep hb2 (by omega)).c1; have Y2 := Lib.hid (Z2.out.keep hb2 hlt); have j3 := Y2.out.c0; have j4 := Y2.out.c1; have j5 := Y2.out.fz 0; have j6 := Y2.out.fz 1; have j7 := Y2.out.lt))
  go_wp2
  have Z0 := (Y2.out.set0 (.bool false)).set1 (.slice ra ds.length rc)
  have z0 := Z0.c0
  have z1 := Z0.c1
  have hbw : Below w.heap.size w w1 := HB1.out.trans (hb2.mono (by rw [HZ1.out]; omega))
  exact bodyPost_ret (v := .agg #[.bool false, .slice ra ds.length rc]) (by simp [results, Try.results31, go_sem, z0, z1]) rfl (numEnd hbw Y2.out (by omega) hri.out hd.out hc.out (by have := hv.out; simp; omega))

set_option maxHeartbeats 4000000 in
theorem numadd_more_true {w : World} {a1 a2 : Option Addr} {n1 n2 c1 c2 : Nat} {d1 d2 : List Int} (h1 : Ints w a1 n1 c1 d1) (h2 : Ints w a2 n2 c2 d2) (e1 : Dig d1) (e2 : Dig d2) (f1 : Can d1) (f2 : Can d2) (g1 : n1 ≤ 1000) (g2 : n2 ≤ 1000) (hlv : ¬ val d1 < val d2) :
    Calls Try.prog 31 #[.agg #[.bool true, .slice a1 n1 c1], .agg #[.bool false, .slice a2 n2 c2]] w (NumP w ((if true then -val d1 else val d1) + (if false then -val d2 else val d2))) := by
  have T : decide (val d1 < val d2) = false := by simpa using hlv
  have HLV := Lib.hid hlv
  clear hlv
  obtain ⟨W0, hW0⟩ : ∃ W0, W0 = addW w #[.bool true, .slice a1 n1 c1] #[.bool false, .slice a2 n2 c2] := ⟨_, rfl⟩
  have hB := addW_below w #[.bool true, .slice a1 n1 c1] #[.bool false, .slice a2 n2 c2]
  have x0 := addW_0 w (.bool true) (.slice a1 n1 c1) (.bool false) (.slice a2 n2 c2)
  have x1 := addW_1 w (.bool true) (.slice a1 n1 c1) (.bool false) (.slice a2 n2 c2)
  have x2 := addW_2 w (.bool true) (.slice a1 n1 c1) (.bool false) (.slice a2 n2 c2)
  have hz := addW_size w #[.bool true, .slice a1 n1 c1] #[.bool false, .slice a2 n2 c2]
  rw [← hW0] at hB x0 x1 x2 hz
  have HI1 : Hid (Ints W0 a1 n1 c1 d1) := Lib.hid (h1.below hB (Nat.le_refl _))
  have HI2 : Hid (Ints W0 a2 n2 c2 d2) := Lib.hid (h2.below hB (Nat.le_refl _))
  have HB := Lib.hid hB
  have HZ := Lib.hid hz
  have X0 := Lib.hid x0
  have X1 := Lib.hid x1
  have X2 := Lib.hid x2
  have HW0 := Lib.hid hW0
  clear hW0 hB hz x0 x1 x2 h1 h2
  go_enter Try.func31, Try.ntmps31
  go_wp2_with fail
  have e := HW0.out
  unfold addW at e
  rw [← e]
  clear e
  have k0 := X0.out.c0
  have k1 := X0.out.c1
  have k2 := X1.out.c1
  have k7 := X1.out.c0
  have k3 := X2.out.c0
  have k4 := X2.out.c1
  have k5 := X2.out.fz 0
  have k6 := X2.out.fz 1
  have hlt := X2.out.lt
  refine (less_any HI1.out HI2.out e1 e2 f1 f2).mono ?_
  rintro e wq ⟨rfl, q, rfl⟩
  have hbq := below_drewN (Below.refl W0.heap.size W0) q
  have hzq : (W0.drewN q).heap.size = w.heap.size + 3 := HZ.out
  generalize W0.drewN q = W1 at hbq hzq ⊢
  clear k0 k1 k2 k3 k4 k5 k6 k7 hlt
  have hbw1 : Below w.heap.size w W1 := HB.out.trans (hbq.mono (by rw [HZ.out]; omega))
  have HB1 := Lib.hid hbw1
  have HZ1 := Lib.hid hzq
  have Z0 := Lib.hid (X0.out.keep hbq (by rw [HZ.out]; omega))
  have Z1 := Lib.hid (X1.out.keep hbq (by rw [HZ.out]; omega))
  have Z2 := Lib.hid (X2.out.keep hbq (by rw [HZ.out]; omega))
  have J1 := Lib.hid (HI1.out.below hbq (Nat.le_refl _))
  have J2 := Lib.hid (HI2.out.below hbq (Nat.le_refl _))
  have k0 := Z0.out.c0
  have k1 := Z0.out.c1
  have k2 := Z1.out.c1
  have k7 := Z1.out.c0
  have k3 := Z2.out.c0
  have k4 := Z2.out.c1
  have k5 := Z2.out.fz 0
  have k6 := Z2.out.fz 1
  have hlt := Z2.out.lt
  clear hbq hzq hbw1
  go_wp2_with fail
  refine (apa_any J1.out J2.out e1 e2 f2 (by have := HLV.out; omega) g1 g2).mono ?_
  rintro e w1 ⟨v1, ds, rfl, ⟨ra, rc, rfl, hri, hb2⟩, hv, hd, hc⟩
  have hzz := hc.zero
  have hri := Lib.hid hri
  have hv := Lib.hid hv
  have hc := Lib.hid hc
  have hd := Lib.hid hd
  have s0 := (Z0.out.keep hb2 (by omega)).c0
  have s1 := (Z0.out.keep hb2 (by omega)).c1
  have s2 := (Z1.out.keep hb2 (by omega)).c1
  have Y2 := Lib.hid (Z2.out.keep hb2 hlt)
  have j3 := Y2.out.c0
  have j4 := Y2.out.c1
  have j5 := Y2.out.fz 0
  have j6 := Y2.out.fz 1
  have j7 := Y2.out.lt
  have HBW : Hid (Below w.heap.size w w1) := Lib.hid (HB1.out.trans (hb2.mono (by rw [HZ1.out]; omega)))
  clear hb2
  rcases Nat.eq_zero_or_pos ds.length with hl0 | hl0
  · have hz := Lib.hid (hzz.1 hl0)
    have t0 : decide ((0 : Int) < (ds.length : Int)) = false := decide_eq_false (by omega)
    have t1 : decide (0 < ds.length) = false := decide_eq_false (by omega)
    clear hzz hl0
    go_wp2
    have Z0 := (Y2.out.set0 (.bool false)).set1 (.slice ra ds.length rc)
    have z0 := Z0.c0
    have z1 := Z0.c1
    exact bodyPost_ret (v := .agg #[.bool false, .slice ra ds.length rc]) (by simp [results, Try.results31, go_sem, z0, z1]) rfl (numEnd HBW.out Y2.out (by omega) hri.out hd.out hc.out (by have := hv.out; have := hz.out; simp; omega))
  · have t0 : decide ((0 : Int) < (ds.length : Int)) = true := decide_eq_true (by omega)
    have t1 : decide (0 < ds.length) = true := decide_eq_true (by omega)
    clear hzz hl0
    go_wp2
    have Z0 := (Y2.out.set0 (.bool true)).set1 (.slice ra ds.length rc)
    have z0 := Z0.c0
    have z1 := Z0.c1
    exact bodyPost_ret (v := .agg #[.bool true, .slice ra ds.length rc]) (by simp [results, Try.results31, go_sem, z0, z1]) rfl (numEnd HBW.out Y2.out (by omega) hri.out hd.out hc.out (by have := hv.out; simp; omega))

theorem numadd_any {w : World} {x y : Value} {p q : Int} (hx : NumAt w x p) (hy : NumAt w y q) (bp : -P10 900 < p ∧ p < P10 900) (bq : -P10 900 < q ∧ q < P10 900) :
    Calls Try.prog 31 #[x, y] w (NumP w (p + q)) := by
  obtain ⟨b1, a1, n1, c1, d1, rfl, h1, e1, f1, rfl⟩ := hx
  obtain ⟨b2, a2, n2, c2, d2, rfl, h2, e2, f2, rfl⟩ := hy
  have g1 : n1 ≤ 1000 := by
    have := f1.len (k := 900) (by cases b1 <;> simp at bp <;> omega)
    have := h1.1; omega
  have g2 : n2 ≤ 1000 := by
    have := f2.len (k := 900) (by cases b2 <;> simp at bq <;> omega)
    have := h2.1; omega
  cases b1 <;> cases b2
  · exact numadd_same_false h1 h2 e1 e2 f1 f2 g1 g2
  · rcases Int.lt_or_le (val d1) (val d2) with h | h
    · exact numadd_less_false h1 h2 e1 e2 f1 f2 g1 g2 h
    · exact numadd_more_false h1 h2 e1 e2 f1 f2 g1 g2 (by omega)
  · rcases Int.lt_or_le (val d1) (val d2) with h | h
    · exact numadd_less_true h1 h2 e1 e2 f1 f2 g1 g2 h
    · exact numadd_more_true h1 h2 e1 e2 f1 f2 g1 g2 (by omega)
  · exact numadd_same_true h1 h2 e1 e2 f1 f2 g1 g2
end Go.Proofs.Ytdckenkomjikbaa
