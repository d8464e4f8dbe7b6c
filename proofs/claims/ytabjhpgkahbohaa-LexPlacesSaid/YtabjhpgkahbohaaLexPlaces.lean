/- For every text, every place and every string, LexPlaces returns true, and the three read afterwards as they did: no condition beside the form's own reach. -/
import Derived.Test.YtabjhpgkahbohaaRows
import Derived.Test.YtabjhpgkahbohaaLineWalks
import Derived.Test.YtabjhpgkahbohaaQuoteWalks
import Derived.Test.YtabjhpgkahbohaaTextWalks
import Derived.WalkKit
import Derived.ProofKit
import Derived.OpenShut
import Derived.ShutString
import Derived.ChangeOld
import Derived.Below
import Derived.SizedLaws
namespace Go.Proofs.Ytabjhpgkahbohaa
open Go.ChangeShapes Go.WideShapes Go.ChangeAt Go.RowKit
open Go.ChangeMaps (open_string shut_string)

theorem own : ownKnob Try.prog.godebug = none := by kernel_rfl
theorem laidOut : laidOutB Try.prog = true := by kernel_rfl

theorem add_block (a : Addr) (i : Nat) : (a.add i).block = a.block := by unfold Addr.add; split <;> rfl

theorem quotes_agree (s : ByteArray) : ∃ (Q : ByteArray) (E : Int),
    (∀ w, Calls Try.prog 7 #[.string s] w fun e w' => e = .returned (.tuple #[.string Q, .int .i64 E]) ∧ Below w.heap.size w w') ∧
    (∀ w, Calls Try.prog 8 #[.string s] w fun e w' => e = .returned (.tuple #[.string Q, .int .i64 E]) ∧ Below w.heap.size w w') := by
  by_cases h : s.size ≤ 256
  · exact ⟨_, _, fun w => quote_any s w h, fun w => quoteRef_any s w h⟩
  · refine ⟨⟨#[]⟩, 3, fun w => (quote_long s w (by omega)).mono ?_, fun w => (quoteRef_long s w (by omega)).mono ?_⟩
    · rintro e w' ⟨rfl, rfl⟩; exact ⟨rfl, Below.refl _ _⟩
    · rintro e w' ⟨rfl, rfl⟩; exact ⟨rfl, Below.refl _ _⟩

theorem lines_agree (l : List UInt8) (n : Nat) (at_ : Int) (hl : l.length = n) (hr : n ≤ 140737488351232) : ∃ (L C : Int),
    (∀ g cap w, n ≤ cap → cap ≤ maxLen → At w ⟨g, 0, none⟩ l → Calls Try.prog 5 #[.slice (some ⟨g, 0, none⟩) n cap, .int .i64 at_] w fun e w' => e = .returned (.tuple #[.int .i64 L, .int .i64 C]) ∧ Below w.heap.size w w') ∧
    (∀ a cap w, Txt w a n cap l → Calls Try.prog 6 #[.slice a n cap, .int .i64 at_] w fun e w' => e = .returned (.tuple #[.int .i64 L, .int .i64 C]) ∧ w = w') := by
  by_cases h : at_ < 0 ∨ (n : Int) < at_
  · refine ⟨0, 0, fun g cap w _ _ _ => (lexLine_out _ n cap at_ w h).mono ?_, fun a cap w _ => refLine_out a n cap at_ w h⟩
    rintro e w' ⟨rfl, rfl⟩; exact ⟨rfl, Below.refl _ _⟩
  · obtain ⟨k, rfl⟩ : ∃ k : Nat, at_ = k := ⟨at_.toNat, by omega⟩
    have hk : k ≤ n := by omega
    refine ⟨1 + countTo l k, k - lastTo l k, fun g cap w h1 h2 h3 => lexLine_in g n cap k l w hk hl h1 h2 hr ?_, fun a cap w ht => ?_⟩
    · intro i hi
      have h0 : 0 < l.length := by omega
      exact (h3.spot h0).2 i hi
    · obtain ⟨_, h2, h3, h4⟩ := ht
      rcases Nat.eq_zero_or_pos n with h0 | h0
      · subst h0
        obtain rfl : k = 0 := by omega
        refine (refLine_zero a 0 cap w).mono ?_
        rintro e w' ⟨rfl, rfl⟩
        exact ⟨rfl, rfl⟩
      · rcases h4 with ⟨_, h5, _⟩ | ⟨x, rfl, hx⟩
        · omega
        · obtain ⟨b, o, s⟩ := x
          obtain ⟨rfl, hc⟩ := hx.spot (by omega)
          exact refLine_in b o n cap k l w hk hl hr hc

theorem walk (a : Option Addr) (n cap : Nat) (l : List UInt8) (at_ : Int) (s : ByteArray) (w : World) (ht : Txt w a n cap l) (hr : n ≤ 140737488351232) :
    Calls Try.prog 3 #[.slice a n cap, .int .i64 at_, .string s] w fun e w' => e = .returned (.bool true) ∧ Below w.heap.size w w' := by
  obtain ⟨Q, E, q1, q2⟩ := quotes_agree s
  obtain ⟨L, C, l1, l2⟩ := lines_agree l n at_ ht.1 hr
  have Q1 := Lib.hid q1
  have Q2 := Lib.hid q2
  have L1 := Lib.hid l1
  have L2 := Lib.hid l2
  have HT := Lib.hid ht
  clear q1 q2 l1 l2 ht
  go_enter Try.func3, Try.ntmps3
  go_wp2_with fail
  refine (lent_any a n cap l w HT.out hr).mono ?_
  rintro e w1 ⟨g, c, rfl, hc, hg, hown, hb1⟩
  have hat := At.owned hown
  have hgl := (hown.lt g rfl).2
  have hcm : c ≤ maxLen := by
    rcases hown.2 with ⟨h, _⟩ | ⟨_, _, _, he, _, _, _, h, _⟩
    · cases h
    · cases he; exact h
  have HAT := Lib.hid hat
  clear hown hat
  go_wp2_with fail
  refine (L1.out g c w1 (by omega) hcm HAT.out.left).mono ?_
  rintro e w2 ⟨rfl, hb2⟩
  have HB2 := Lib.hid hb2
  clear hb2
  go_wp2_with fail
  refine (L2.out a cap w2 ((HT.out.below hb1 (Nat.le_refl _)).below HB2.out (Nat.le_refl _))).mono ?_
  rintro e w2' ⟨rfl, rfl⟩
  go_wp2_with fail
  refine (Q1.out w2).mono ?_
  rintro e w3 ⟨rfl, hb3⟩
  go_wp2_with fail
  refine (Q2.out w3).mono ?_
  rintro e w4 ⟨rfl, hb4⟩
  have z1 := hb1.size
  have z2 := HB2.out.size
  have z3 := hb3.size
  have hb24 : Below w1.heap.size w1 w4 := (HB2.out.trans (hb3.mono z2)).trans (hb4.mono (by omega))
  have hb04 : Below w.heap.size w w4 := hb1.trans (hb24.mono z1)
  have hat4 : At w4 ⟨g, 0, none⟩ (l ++ [201, 202]) := HAT.out.mono fun i _ => hb24.cell (p := (⟨g, 0, none⟩ : Addr).add i) (by rw [add_block]; exact hgl)
  have hk := Lib.hid (kept_any g n c cap a l w4 hr hat4 hc (HT.out.below hb04 (Nat.le_refl _)))
  have HB := Lib.hid hb04
  clear hb1 hb3 hb4 hb24 hb04 hat4
  go_wp2_with fail
  refine hk.out.mono ?_
  rintro e w5 ⟨rfl, rfl⟩
  go_wp2_with fail
  go_ret
  exact ⟨by simp, HB.out⟩

theorem u8_wf {x : Int} (h : (Lit.int .u8 x).wf = true) : 0 ≤ x ∧ x < 256 := by
  have := bounds_u8 h
  omega

/-- what the form hands over of a slice of bytes is a text -/
theorem txt_of_row {w : World} {x : Addr} {len cap : Nat} {zs : List Int} (hl : len ≤ cap) (hm : cap ≤ maxLen) (hz : zs.length = cap) (hc : ∀ i, i < zs.length → w.cell? (x.add i) = some (.int .u8 (zs.getD i 0))) (hw : ∀ n ∈ zs, (Lit.int .u8 n).wf = true) :
    Txt w (some x) len cap ((zs.take len).map fun n => UInt8.ofNat n.toNat) := by
  refine ⟨by simp; omega, hl, hm, .inr ⟨x, rfl, fun i hi => ?_⟩⟩
  have hi2 : i < len := by simp at hi; omega
  rw [hc i (by omega)]
  have hmem : zs[i]'(by omega) ∈ zs := List.getElem_mem _
  have hb := hw _ hmem
  have hb2 : 0 ≤ zs[i]'(by omega) ∧ zs[i]'(by omega) < 256 := u8_wf hb
  simp only [List.getElem_map, List.getElem_take]
  rw [List.getD_eq_getElem?_getD, List.getElem?_eq_getElem (by omega)]
  simp only [Option.getD_some]
  have e : ((UInt8.ofNat (zs[i]'(by omega)).toNat).toNat : Int) = zs[i]'(by omega) := by
    simp
    omega
  rw [e]

theorem bytes5 : Try.prog.bytesOf 5 = 1 := by kernel_rfl

set_option maxRecDepth 100000 in
theorem lifted (os : Os) (started : os.Started) (H : Type) (enc : TypeId × Value → H) :
    ReturnsInHanded {} Try.checked os 3 .any (Rows.lexPlacesSpec.pre6 enc Try.prog Try.f3 Rows.lexPlacesRow.domain false) (Rows.lexPlacesSpec.post enc Try.prog Try.f3 false true false false) := by
  refine returnsInHanded_of_change_sized (C := Try.checked) own started (by kernel_rfl) Try.func3
    (ChangeSpec.witness6 (enc := enc) (C := Try.checked) false ⟨#[], #[.slice none 0 0, .int .i64 0, .string ByteArray.empty], []⟩ 8 (by kernel_rfl) (by kernel_rfl) (by kernel_rfl) (by kernel_rfl)) ?_
  intro W base args ds gs before hval0 hW hcnd hsz0 _
  have hsz : (DataW.weightsEach Try.prog (Try.f3.params.toList ++ Rows.lexPlacesSpec.plain.varTypes Try.prog) (ds ++ gs)).all (· ≤ reachBytes) = true := hsz0
  clear hsz0 hcnd
  have hval : ∀ (j : Nat) t v, Try.f3.params[j]? = some t → args[j]? = some v → Value.okWide Try.prog W .any base t v := hval0
  have hW' := hW
  obtain ⟨p, q, hA0, hV, rfl, hfz, hnd⟩ := hW
  have hA : DataW.TrodAll enc Try.prog W 0 (fun _ => true) true Try.f3.params.toList args.toList ds p := hA0
  rw [Try.params3] at hA hval hsz
  obtain ⟨v0, vs0, d0, ds0, p0, q0, hargs, rfl, rfl, h0, r0⟩ := trodAll_cons hA
  obtain ⟨v1, vs1, d1, ds1, p1, q1, rfl, rfl, rfl, h1, r1⟩ := trodAll_cons r0
  obtain ⟨v2, vs2, d2, ds2, p2, q2, rfl, rfl, rfl, h2, r2⟩ := trodAll_cons r1
  obtain ⟨rfl, rfl, rfl⟩ := trodAll_nil r2
  obtain rfl : args = #[v0, v1, v2] := by cases args; simp_all
  obtain ⟨rfl, rfl⟩ := trodVars_none hV
  obtain ⟨a0, len0, cap0, rfl⟩ := okWide_slice Try.underlying22 (hval 0 22 v0 rfl rfl)
  have k0 := h0
  have lt0 : ∀ x ∈ p0, x.block < W.heap.size := by obtain ⟨m, hm⟩ := k0; exact DataW.trod_lt m _ _ _ hm
  obtain ⟨z0, w0, hr⟩ : ∃ l, Txt W a0 len0 cap0 l ∧ len0 ≤ 140737488351232 := by
    obtain ⟨fuel, hf⟩ := h0
    rcases open_ints Try.underlying22 Try.underlying5 (by kernel_rfl) hf with ⟨hcs, _⟩ | ⟨x, l, c, zs, hcs, _, hl, hm, hz, hx, hcell, hwz⟩
    · simp [Value.cells] at hcs
      obtain ⟨rfl, rfl, rfl⟩ := hcs
      exact ⟨[], ⟨rfl, Nat.le_refl _, Nat.zero_le _, .inl ⟨rfl, rfl, rfl⟩⟩, Nat.zero_le _⟩
    · simp [Value.cells] at hcs
      obtain ⟨rfl, rfl, rfl⟩ := hcs
      have hz' : zs.length = cap0 := by simpa using hz
      refine ⟨_, txt_of_row hl hm hz' hcell hwz, ?_⟩
      simp only [Prod.mk.injEq] at hx
      obtain ⟨rfl, _⟩ := hx
      have := sized_slice hsz (j := 0) (t := 22) (e := 5) rfl rfl Try.underlying22
      rw [bytes5] at this
      simp only [lits, List.length_map, List.length_take, List.length_drop, reachBytes] at this
      omega
  obtain ⟨a1, rfl, rfl, rfl, w1⟩ := open_int Try.underlying3 (hval 1 3 v1 rfl rfl) h1
  obtain ⟨a2, rfl, rfl, rfl, w2⟩ := open_string Try.underlying9 (hval 2 9 v2 rfl rfl) h2
  clear hA0 hval0
  refine (walk a0 len0 cap0 z0 a1 a2 W w0 hr).mono fun e W' ⟨he, bel⟩ => ?_
  subst he
  exact ⟨_, rfl, _, _, _, [], _, [], hW', trodAll_mk1 (shut_bool Try.underlying4 _), (trodAll_cons_mk (Below.trod laidOut (by kernel_rfl) (of_decide_eq_true (by kernel_rfl)) k0 bel lt0) (trodAll_cons_mk (shut_int Try.underlying3 w1) (trodAll_cons_mk (shut_string Try.underlying9 w2) trodAll_mk0))), rfl, bel.frame _, fun h => by cases h⟩

theorem over : Rows.lexPlacesRow.holds Try.pinned (OpenSpec.ofChange Rows.lexPlacesSpec) :=
  OpenClaim.holds_of_wide 3 Try.f3 rfl rfl rfl rfl rfl rfl rfl ⟨rfl, rfl, rfl, rfl, rfl⟩ rfl rfl rfl rfl rfl (by kernel_rfl) Try.func3 (by kernel_rfl)
    (of_decide_eq_true (by kernel_rfl)) (by unfold Func.isWrapper; first | (rw [if_pos (by decide +kernel)]; kernel_rfl) | (rw [if_neg (by decide +kernel)]; exact ⟨rfl, rfl⟩))
    (fun os started H enc _ => lifted os started H enc)

theorem lexPlaces_holds : Rows.LexPlacesSaid := over
#print axioms lexPlaces_holds
end Go.Proofs.Ytabjhpgkahbohaa
