/- WireRows: what each step of the reading leaves as it was. -/
import Derived.Test.YtloofajopgbfmaaWrRows
namespace Go.Proofs.Ytloofajopgbfmaa
set_option linter.all false
open Go.RowKit Go.Shelf
set_option maxRecDepth 100000
theorem KO.of_eff {p : Nat} {T : TypeId} {cs : List Value} {a b : World} (h : Bk a p T cs) (he : Eff9 p a b) : KO T a b := fun x cs' t fr ht hx => (he.block x (some_lt hx) (fun e => by
  cases e
  have h' : a.heap[p]? = some (.cells cs.toArray T (0, 0)) := h
  rw [h'] at hx
  cases hx
  exact ht rfl)).trans hx
theorem KO.of_set {g : Nat} {T : TypeId} {v : Value} {w : World} (h : Boxed w g T v) (j : Nat) (u : Value) : KO T w (w.setCell ⟨g, j, none⟩ u) := fun x cs' t fr ht hx => (Below.heap_setCell w ⟨g, j, none⟩ u x (fun e => by
  have e' : x = g := e
  subst e'
  have h' : w.heap[x]? = some (.cells #[v] T (0, 0)) := h
  rw [h'] at hx
  cases hx
  exact ht rfl)).trans hx
theorem boxed_ko {W W' : World} {B : Nat} {t T : TypeId} {v : Value} (h : Boxed W B t v) (ht : t ≠ T) (hk : KO T W W') : Boxed W' B t v := hk B _ t _ ht h
theorem RSt.ko {w w' : World} {p : Nat} {a : Option Addr} {n cap : Nat} {l : List UInt8} {o : Option Nat} {T : TypeId} (h : RSt w p a n cap l o) (ht : Txt w' a n cap l) (hT : 40 ≠ T) (hk : KO T w w') : RSt w' p a n cap l o := by
  obtain ⟨k, b, hb, hr⟩ := h.box
  exact ⟨ht, h.off, k, b, hk _ _ _ _ hT hb, hr⟩
def offW (p : Nat) (w : World) : Nat := match w.cell? ⟨p, 1, none⟩ with | some (.int _ k) => k.toNat | _ => 0
theorem offW_at {p k : Nat} {w : World} {v x : Value} (h : Bk w p 40 [v, .int .i64 k, x]) : offW p w = k := by
  have hc := h.c 1 rfl
  unfold offW
  rw [hc]
  simp
theorem RSt.re {w w' : World} {p : Nat} {a : Option Addr} {n cap : Nat} {l : List UInt8} {o : Option Nat} (h : RSt w p a n cap l o) (ht : Txt w' a n cap l) (hk : ∀ cs, Bk w p 40 cs → Bk w' p 40 cs) : RSt w' p a n cap l o := by
  obtain ⟨k, b, hb, hr⟩ := h.box
  exact ⟨ht, h.off, k, b, hk _ hb, hr⟩
theorem places_laid (w7 : World) (P : Nat) (V v : Value) (T : TypeId) : ∀ j u, [v][j]? = some u → ((w7.setCell ⟨P, 0, none⟩ V).alloc (.cells [v].toArray T)).cell? ((⟨w7.heap.size, 0, none⟩ : Addr).add j) = some u := by
  have h := cells_laid (w7.setCell ⟨P, 0, none⟩ V) [v] T
  rw [show (w7.setCell ⟨P, 0, none⟩ V).heap.size = w7.heap.size by simp] at h
  exact h
/-- the reading of all messages, so far -/
structure RdI (P : Nat) (w2 : World) (a : Option Addr) (n cap : Nat) (l : List UInt8) (k f : Nat) (acc : List X9) (vw vp : Value) (w : World) : Prop where
  st : RSt w (P + 2) a n cap l (some k)
  wb : Boxed w P 51 vw
  pb : Boxed w (P + 1) 52 vp
  wn : Wn w (P + 3) vw (acc.map (·.1))
  pn : w.ownsRow (P + 3) 3 1 vp acc.length (acc.map fun x => .int .i64 (x.2 : Nat))
  bel : Below P w2 w
  kn : k ≤ n
  fu : n + 1 ≤ k + f
  sp : rowsF l = acc.map strip9 ++ rdR f k (l.drop k)
  cn : acc.length ≤ k
/-- the same, whatever the reading's state -/
structure RdJ (P : Nat) (w2 : World) (acc : List X9) (vw vp : Value) (w : World) : Prop where
  wb : Boxed w P 51 vw
  pb : Boxed w (P + 1) 52 vp
  wn : Wn w (P + 3) vw (acc.map (·.1))
  pn : w.ownsRow (P + 3) 3 1 vp acc.length (acc.map fun x => .int .i64 (x.2 : Nat))
  bel : Below P w2 w
theorem RdI.j {P : Nat} {w2 : World} {a : Option Addr} {n cap : Nat} {l : List UInt8} {k f : Nat} {acc : List X9} {vw vp : Value} {w : World} (h : RdI P w2 a n cap l k f acc vw vp w) : RdJ P w2 acc vw vp w := ⟨h.wb, h.pb, h.wn, h.pn, h.bel⟩
theorem RdJ.below {P : Nat} {w2 : World} {acc : List X9} {vw vp : Value} {w w' : World} (h : RdJ P w2 acc vw vp w) (hb : Below w.heap.size w w') (hp : P ≤ w.heap.size) : RdJ P w2 acc vw vp w' := ⟨boxed_below h.wb hb, boxed_below h.pb hb, h.wn.below hb, own_keep9 h.pn hb, h.bel.trans (hb.mono hp)⟩
/-- behind a step that turns the reading alone -/
theorem RdJ.eff {P : Nat} {w2 : World} {acc : List X9} {vw vp : Value} {w w' : World} {cs : List Value} (h : RdJ P w2 acc vw vp w) (hk : Bk w (P + 2) 40 cs) (he : Eff9 (P + 2) w w') : RdJ P w2 acc vw vp w' := by
  have hko := KO.of_eff hk he
  have hlt := hk.lt
  exact ⟨boxed_ko h.wb (by decide) hko, boxed_ko h.pb (by decide) hko, h.wn.ko (by decide) (by decide) hko, own_ko h.pn (by decide) hko, he.to h.bel (by omega) (by omega)⟩
/-- the list of messages, longer by one -/
theorem RdJ.want {P : Nat} {w2 : World} {acc : List X9} {vw vp v' : Value} {w w' : World} {x : X9} (h : RdJ P w2 acc vw vp w) (hx : InX x w) (hr : w'.ownsRow (P + 3) 35 3 v' (acc.length + 1) (cellsW (acc.map (·.1)) ++ cellsI x.1)) (hg : w.grownBy w' vw.ownBlock) :
    Wn (w'.setCell ⟨P, 0, none⟩ v') (P + 3) v' ((acc ++ [x]).map (·.1)) ∧ Boxed (w'.setCell ⟨P, 0, none⟩ v') P 51 v' ∧ Boxed (w'.setCell ⟨P, 0, none⟩ v') (P + 1) 52 vp ∧ (w'.setCell ⟨P, 0, none⟩ v').ownsRow (P + 3) 3 1 vp acc.length (acc.map fun x => .int .i64 (x.2 : Nat)) ∧ Below P w2 (w'.setCell ⟨P, 0, none⟩ v') ∧ KO 35 w w' ∧ KO 51 w' (w'.setCell ⟨P, 0, none⟩ v') := by
  have hk1 : KO 35 w w' := KO.of_grown h.wn.row hg
  have hb1 := boxed_ko h.wb (by decide) hk1
  have hk2 := KO.of_set hb1 0 v'
  have hlt := h.wb.lt
  refine ⟨?_, hb1.set v', boxed_ko (boxed_ko h.pb (by decide) hk1) (by decide) hk2, own_ko (own_ko h.pn (by decide) hk1) (by decide) hk2, ?_, hk1, hk2⟩
  · rw [List.map_append]
    have := Wn.snoc (x := x.1) h.wn hk1 (by rw [List.length_map]; exact hr) hx.1 hx.2
    exact this.ko (by decide) (by decide) hk2
  · exact (h.bel.grown hg (by omega) (fun g hg => by have := (h.wn.row.lt g hg).1; omega)).setCell (p := ⟨P, 0, none⟩) (Nat.le_refl _) _
/-- and the places -/
theorem places_on {P : Nat} {w2 : World} {vp vw v' : Value} {w w' : World} {l : List I9} {xs : List Value} {m : Nat} {x : Value} (hw : Wn w (P + 3) vw l) (hwb : Boxed w P 51 vw) (hpb : Boxed w (P + 1) 52 vp) (hpn : w.ownsRow (P + 3) 3 1 vp m xs) (hbel : Below P w2 w) (hr : w'.ownsRow (P + 3) 3 1 v' (m + 1) (xs ++ [x])) (hg : w.grownBy w' vp.ownBlock) :
    Wn (w'.setCell ⟨P + 1, 0, none⟩ v') (P + 3) vw l ∧ Boxed (w'.setCell ⟨P + 1, 0, none⟩ v') P 51 vw ∧ Boxed (w'.setCell ⟨P + 1, 0, none⟩ v') (P + 1) 52 v' ∧ (w'.setCell ⟨P + 1, 0, none⟩ v').ownsRow (P + 3) 3 1 v' (m + 1) (xs ++ [x]) ∧ Below P w2 (w'.setCell ⟨P + 1, 0, none⟩ v') ∧ KO 3 w w' ∧ KO 52 w' (w'.setCell ⟨P + 1, 0, none⟩ v') := by
  have hk1 : KO 3 w w' := KO.of_grown hpn hg
  have hb1 := boxed_ko hpb (by decide) hk1
  have hk2 := KO.of_set hb1 0 v'
  have hlt := hpb.lt
  exact ⟨(hw.ko (by decide) (by decide) hk1).ko (by decide) (by decide) hk2, boxed_ko (boxed_ko hwb (by decide) hk1) (by decide) hk2, hb1.set v', own_ko hr (by decide) hk2, (hbel.grown hg (by omega) (fun g hg => by have := (hpn.lt g hg).1; omega)).setCell (p := ⟨P + 1, 0, none⟩) (by simp) _, hk1, hk2⟩
/-- the reference's next message: none, or one -/
theorem msg_none {p k : Nat} {a : Option Addr} {n cap : Nat} {l : List UInt8} {w : World} (h : RSt w p a n cap l (some k)) (hr : rdM (l.drop k) = none) : Calls Try.prog 12 #[.pointer (some ⟨p, 0, none⟩)] w fun e w' => ∃ al cp, e = .returned (.agg #[.int .i64 0, .string ⟨#[]⟩, .slice al 0 cp]) ∧ RSt w' p a n cap l none ∧ Eff9 p w w' := by
  have hm := refMessage_any p k a n cap l w h
  rw [mxR_none hr] at hm
  refine hm.mono ?_
  rintro e w' ⟨al, cp, rfl, _, h1, h2⟩
  exact ⟨al, cp, rfl, h1, h2⟩
theorem msg_some {p k j : Nat} {a : Option Addr} {n cap : Nat} {l : List UInt8} {w : World} {m : M9} (h : RSt w p a n cap l (some k)) (hr : rdM (l.drop k) = some (m, j)) : Calls Try.prog 12 #[.pointer (some ⟨p, 0, none⟩)] w fun e w' => ∃ al cp, e = .returned (.agg #[.int .i64 m.id, .string ⟨m.tag.toArray⟩, .slice al m.vs.length cp]) ∧ w'.ownsRow 0 27 5 (.slice al m.vs.length cp) m.vs.length (cellsP m.vs) ∧ RSt w' p a n cap l (some (k + j)) ∧ Eff9 p w w' := by
  have hm := refMessage_any p k a n cap l w h
  have hmx : mxR l k = (m, some (k + j)) := by unfold mxR; rw [hr]
  rw [hmx] at hm
  refine hm.mono ?_
  rintro e w' ⟨al, cp, rfl, h0, h1, h2⟩
  exact ⟨al, cp, rfl, own_base9 h0 (Nat.zero_le _), h1, h2⟩
theorem end_none {p n cap : Nat} {a : Option Addr} {l : List UInt8} {w : World} (h : RSt w p a n cap l none) : Calls Try.prog 13 #[.pointer (some ⟨p, 0, none⟩)] w fun e w' => e = .returned (.tuple #[.int .i64 0, .int .i64 110]) ∧ w = w' := end_r p a n cap l none w h
theorem end_some {p n cap k : Nat} {a : Option Addr} {l : List UInt8} {w : World} (h : RSt w p a n cap l (some k)) : Calls Try.prog 13 #[.pointer (some ⟨p, 0, none⟩)] w fun e w' => e = .returned (.tuple #[.int .i64 k, .int .i64 0]) ∧ w = w' := end_r p a n cap l (some k) w h
end Go.Proofs.Ytloofajopgbfmaa
