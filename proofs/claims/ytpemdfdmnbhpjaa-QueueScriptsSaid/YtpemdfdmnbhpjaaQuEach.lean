/- Queue: the sequence of a ring's items. -/
import Derived.Test.YtpemdfdmnbhpjaaQuRange
set_option linter.all false
namespace Go.Proofs.Ytpemdfdmnbhpjaa
open Go.RowKit Go.Shelf
attribute [local go_sem] Oper.semAt_some
set_option maxRecDepth 100000
/-- a ring with items -/
structure Ring (w : World) (g : Nat) (T : TypeId) (pb n cap first : Nat) (cs : List Value) (L : List It) (rest : List Value) : Prop where
  box : Bk w g T (hd (some ⟨pb, 0, none⟩) n cap first L.length rest)
  pls : Bk w pb 64 cs
  rg : Rg cs n first L
  cap : n ≤ cap
  few : n ≤ 4611686018427387904
theorem Ring.below {w w' : World} {g : Nat} {T : TypeId} {pb n cap first : Nat} {cs : List Value} {L : List It} {rest : List Value} (h : Ring w g T pb n cap first cs L rest) (hb : Below w.heap.size w w') : Ring w' g T pb n cap first cs L rest :=
  ⟨h.box.below hb, h.pls.below hb, h.rg, h.cap, h.few⟩
theorem Ring.at {w : World} {g : Nat} {T : TypeId} {pb n cap first : Nat} {cs : List Value} {L : List It} {rest : List Value} (h : Ring w g T pb n cap first cs L rest) {k : Nat} (hk : k < L.length) :
    Calls Try.prog 28 #[.pointer (some ⟨g, 0, none⟩), .int .i64 (k : Int)] w (AtP pb (slot n first k) w) :=
  at_any h.box h.rg.pos (by have := h.rg.few; omega) h.few h.cap
theorem Ring.c0 {w : World} {g : Nat} {T : TypeId} {pb n cap first : Nat} {cs : List Value} {L : List It} {rest : List Value} (h : Ring w g T pb n cap first cs L rest) {k : Nat} {x : It} (hk : L[k]? = some x) : w.cell? ⟨pb, slot n first k * 2, none⟩ = some (.int .i64 x.1) := h.pls.c _ (h.rg.at0 k x hk)
theorem Ring.c1 {w : World} {g : Nat} {T : TypeId} {pb n cap first : Nat} {cs : List Value} {L : List It} {rest : List Value} (h : Ring w g T pb n cap first cs L rest) {k : Nat} {x : It} (hk : L[k]? = some x) : w.cell? ⟨pb, slot n first k * 2 + 1, none⟩ = some (.int .i64 x.2) := h.pls.c _ (h.rg.at1 k x hk)
/-- a ring (which may have no items) -/
structure Src (w : World) (g : Nat) (T : TypeId) (L : List It) (v0 : Value) (first : Nat) (rest : List Value) : Prop where
  cells : Bk w g T (v0 :: .int .i64 (first : Int) :: .int .i64 (L.length : Int) :: rest)
  ring : L ≠ [] → ∃ pb n cap cs, v0 = .slice (some ⟨pb, 0, none⟩) n cap ∧ Ring w g T pb n cap first cs L rest
  few : L.length ≤ 4611686018427387904
theorem Src.below {w w' : World} {g : Nat} {T : TypeId} {L : List It} {v0 : Value} {first : Nat} {rest : List Value} (h : Src w g T L v0 first rest) (hb : Below w.heap.size w w') : Src w' g T L v0 first rest :=
  ⟨h.cells.below hb, fun hl => by obtain ⟨pb, n, cap, cs, h1, h2⟩ := h.ring hl; exact ⟨pb, n, cap, cs, h1, h2.below hb⟩, h.few⟩
/-- the sequence's own box and the ring behind it -/
structure Seq (w : World) (rb g : Nat) (T : TypeId) (L : List It) (v0 : Value) (first : Nat) (rest : List Value) : Prop where
  box : Boxed w rb 74 (.pointer (some ⟨g, 0, none⟩))
  src : Src w g T L v0 first rest
theorem boxed_below {W W' : World} {B : Nat} {t : TypeId} {v : Value} (h : Boxed W B t v) (hb : Below W.heap.size W W') : Boxed W' B t v := (hb.block B h.lt).trans h
def encQ (x : It) : Array Value := #[.agg #[.int .i64 x.1, .int .i64 x.2]]
theorem take_snoc {L : List It} {k : Nat} {x : It} (h : L[k]? = some x) : L.take (k + 1) = L.take k ++ [x] := by
  obtain ⟨hk, rfl⟩ := List.getElem?_eq_some_iff.1 h
  exact (List.take_append_getElem hk).symm
set_option maxHeartbeats 4000000 in
theorem each1_any (m rb g : Nat) (T : TypeId) (L : List It) (v0 : Value) (first : Nat) (rest : List Value) (lw : Nat) (J Jx : List It → World → Prop) (W : World) (hm : 1 ≤ m)
    (hS : ∀ pre A, J pre A → Seq A rb g T L v0 first rest) (hJ : ∀ pre A B, J pre A → Below A.heap.size A B → J pre B)
    (hY : ∀ pre x W1, pre ++ [x] <+: L → J pre W1 → YieldAt Fence.wide (m - 1) Try.prog lw (encQ x) W1 fun e W' =>
      (e = .returned (.bool true) ∧ J (pre ++ [x]) W') ∨ (e = .returned (.bool false) ∧ Jx (pre ++ [x]) W')) (h0 : J [] W) :
    CallsIn Fence.wide m Try.prog 41 #[.func (.yield lw) #[] #[], .pointer (some ⟨rb, 0, none⟩)] W fun e W' => (∃ v, e = .returned v) ∧
      (J L W' ∨ ∃ pre : List It, pre <+: L ∧ Jx pre W') := by
  have hs := hS _ _ h0
  have hbox := hs.box.cell
  have hmany := hs.src.cells.c 2 rfl
  have hfew := hs.src.few
  have HS := Lib.hid hS
  have HJ := Lib.hid hJ
  have HY := Lib.hid hY
  have H0 := Lib.hid h0
  clear hS hJ hY h0 hs
  refine callsIn_of_wp Try.func41 rfl trivial ?_ rfl
  simp only [Try.ntmps41, List.size_toArray, List.length_cons, List.length_nil, Nat.reduceAdd, Nat.reduceSub, Array.replicate_succ, Array.replicate_zero, List.push_toArray, List.append_toArray, List.nil_append, List.cons_append]
  gi_wp2
  gi_loopw [8] (fun i wr => ∃ k : Nat, i = .int .i64 k ∧ k ≤ L.length ∧ Hid (J (L.take k) wr)) (fun i wr => L.length - (intOf i).toNat)
  case atStart => exact ⟨0, rfl, Nat.zero_le _, H0⟩
  case round =>
    obtain ⟨k, rfl, hk, HJS⟩ := hrel
    clear hbox hmany
    rcases Nat.lt_or_ge k L.length with hlt | hge
    · have hs := HS.out _ _ HJS.out
      have hbox := hs.box.cell
      obtain ⟨pb, n, cap, cs, rfl, hr⟩   := hs.src.ring (fun e => by rw [e] at hlt; simp at hlt)
      obtain ⟨x, hx⟩ : ∃ x, L[k]? = some x := ⟨_, List.getElem?_eq_getElem hlt⟩
      have HAT := Lib.hid (hr.at hlt)
      have hr0 : ∀ q, (wr.drewN q).cell? ⟨pb, slot n first k * 2, none⟩ = some (.int .i64 x.1) := fun q => hr.c0 hx
      have hr1 : ∀ q, (wr.drewN q).cell? ⟨pb, slot n first k * 2 + 1, none⟩ = some (.int .i64 x.2) := fun q => hr.c1 hx
      have HPRE := Lib.hid (show L.take k ++ [x] <+: L from by rw [← take_snoc hx]; exact List.take_prefix _ _)
      have HTS := Lib.hid (take_snoc hx)
      clear hs hr hx
      generalize slot n first k = sl at HAT hr0 hr1
      gi_wp2_with fail
      refine ⟨trivial, ?_⟩
      refine (callsIn_wide.2 HAT.out).mono ?_
      rintro e w1 ⟨rfl, q, rfl⟩
      have hc0 := hr0 q
      have hc1 := hr1 q
      have hJ2 := HJ.out _ _ _ HJS.out (below_drewN (Below.refl _ wr) q)
      obtain ⟨fn, tmps, assign, body, hy, hR⟩ := HY.out _ x _ HPRE.out hJ2
      simp only [encQ] at hy
      have HR := Lib.hid hR
      clear hr0 hr1 hJ2 hR HAT
      gi_wp2_with fail
      refine HR.out.mono ?_
      rintro e W3 (⟨rfl, hJ3⟩ | ⟨rfl, hJx3⟩)
      · have HJ3 := Lib.hid hJ3
        clear hJ3 hy hc0 hc1
        gi_wp2_with fail
        go_roundw
        case rel => exact ⟨k + 1, by go_num, by omega, by rw [HTS.out]; exact HJ3⟩
        case measure => simp [intOf]; omega
      · have HJX := Lib.hid hJx3
        clear hJx3 hy hc0 hc1
        gi_wp2_with fail
        refine bodyPost_ret (results_none rfl _ _ _) rfl ?_
        exact ⟨⟨_, rfl⟩, .inr ⟨_, HPRE.out, HJX.out⟩⟩
    · have e : L.take k = L := List.take_of_length_le hge
      have HE := Lib.hid (show J L wr by rw [← e]; exact HJS.out)
      clear e
      gi_wp2_with fail
      refine ⟨rfl, _, results_none rfl _ _ _, ?_⟩
      exact ⟨⟨_, rfl⟩, .inl HE.out⟩
end Go.Proofs.Ytpemdfdmnbhpjaa
