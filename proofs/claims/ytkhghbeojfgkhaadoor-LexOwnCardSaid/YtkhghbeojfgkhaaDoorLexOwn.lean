/- LexOwn. -/
import Derived.Test.YtkhghbeojfgkhaaDoorOwnKit
namespace Go.Proofs.YtkhghbeojfgkhaaDoor
open Go.RowKit Go.Shelf
set_option maxRecDepth 100000

theorem infoTok' : (Tryd.prog.info? 40).map (fun i => (i.zero, i.size, i.bytes)) = some (some (.agg #[.int .i64 0, .string ByteArray.empty, .int .i64 0, .float .f64 0, .int .i64 0, .int .i64 0]), 6, 56) := infoTok
theorem infoToks : (Tryd.prog.info? 24).map (fun i => (i.zero, i.size, i.bytes)) = some (some (.slice none 0 0), 1, 24) := by kernel_rfl
/-- a slice of slices: each of them in its place -/
def OwnAll (w : World) (B : Nat) (b : Value) (R : List (Value × Nat)) : Prop := w.ownsRow B 24 1 b R.length (R.map (·.1))
/-- slices of tokens, each in memory of its own -/
def AllRows (w : World) (B : Nat) (R : List (Value × Nat)) (P : Nat → Value × Nat → (Nat → Int) → Prop) : Prop :=
  (∀ (i : Nat) (r : Value × Nat), R[i]? = some r → r.2 ≤ 32769 ∧ ∃ f, KR w B r.1 r.2 f ∧ P i r f) ∧ (∀ (i j : Nat) (r s : Value × Nat), R[i]? = some r → R[j]? = some s → i ≠ j → Apart r.1 s.1)
section
variable {w w' : World} {B : Nat} {b : Value} {R R' : List (Value × Nat)} {P Q : Nat → Value × Nat → (Nat → Int) → Prop}
theorem OwnAll.below (h : OwnAll w B b R) (hb : Below w.heap.size w w') : OwnAll w' B b R := own_below h hb (Nat.le_refl _)
theorem OwnAll.kept {u : Value} (h : OwnAll w B b R) (hg : w.grownBy w' u.ownBlock) (ha : Apart b u) : OwnAll w' B b R := World.ownsRow.kept h hg ha.row
theorem OwnAll.apart {n : Nat} {v : Value} {f : Nat → Int} (h : OwnAll w B b R) (hv : KR w B v n f) : Apart b v := by
  obtain ⟨cs, h1, _⟩ := hv
  exact Apart.of_types h h1 (by decide)
theorem OwnAll.form {n : Nat} (h : OwnAll w B b R) (hn : R.length = n + 1) : ∃ g c, b = .slice (some ⟨g, 0, none⟩) (n + 1) c := by
  unfold OwnAll at h
  rw [hn] at h
  exact ownsRow_succ h
theorem OwnAll.at {g n c : Nat} (h : OwnAll w B (.slice (some ⟨g, 0, none⟩) n c) R) {i : Nat} {r : Value × Nat} (hr : R[i]? = some r) : w.cell? ⟨g, i, none⟩ = some r.1 := by
  have hi := (List.getElem?_eq_some_iff.1 hr).1
  have hn : n = R.length := by
    rcases h.2 with ⟨he, _⟩ | ⟨_, _, _, he, _⟩
    · cases he
    · cases he; rfl
  subst hn
  rw [World.ownsRow.cellAt h i (by omega)]
  simp [hr]
theorem AllRows.below (h : AllRows w B R P) (hb : Below w.heap.size w w') : AllRows w' B R P :=
  ⟨fun i r hr => by obtain ⟨h1, f, h2, h3⟩ := h.1 i r hr; exact ⟨h1, f, h2.below hb, h3⟩, h.2⟩
theorem AllRows.kept {u : Value} (h : AllRows w B R P) (hg : w.grownBy w' u.ownBlock) (ha : ∀ (i : Nat) (r : Value × Nat), R[i]? = some r → Apart r.1 u) : AllRows w' B R P :=
  ⟨fun i r hr => by obtain ⟨h1, f, h2, h3⟩ := h.1 i r hr; exact ⟨h1, f, h2.kept hg (ha i r hr), h3⟩, h.2⟩
theorem AllRows.mono (h : AllRows w B R P) (hp : ∀ (i : Nat) (r : Value × Nat) (f : Nat → Int), R[i]? = some r → P i r f → Q i r f) : AllRows w B R Q :=
  ⟨fun i r hr => by obtain ⟨h1, f, h2, h3⟩ := h.1 i r hr; exact ⟨h1, f, h2, hp i r f hr h3⟩, h.2⟩
theorem AllRows.away (h : AllRows w B R P) (ho : OwnAll w B b R') : ∀ (i : Nat) (r : Value × Nat), R[i]? = some r → Apart r.1 b := fun i r hr => by
  obtain ⟨_, f, h2, _⟩ := h.1 i r hr
  exact (ho.apart h2).symm
/-- one row is another one -/
theorem AllRows.change {u : Value} (h : AllRows w B R P) {i : Nat} {r : Value × Nat} (hr : R[i]? = some r) (hg : w.grownBy w' u.ownBlock) (ha : ∀ (j : Nat) (s : Value × Nat), R[j]? = some s → j ≠ i → Apart s.1 u) {f : Nat → Int} (hk : KR w' B r.1 r.2 f) (hq : Q i r f)
    (hp : ∀ (j : Nat) (s : Value × Nat) (g : Nat → Int), R[j]? = some s → j ≠ i → P j s g → Q j s g) : AllRows w' B R Q := by
  refine ⟨fun j s hs => ?_, h.2⟩
  by_cases hji : j = i
  · subst hji
    rw [hr] at hs
    cases hs
    exact ⟨(h.1 j r hr).1, f, hk, hq⟩
  · obtain ⟨h1, g, h2, h3⟩ := h.1 j s hs
    exact ⟨h1, g, h2.kept hg (ha j s hs hji), hp j s g hs hji h3⟩
/-- one row more -/
theorem AllRows.more (h : AllRows w B R fun _ _ _ => True) {v : Value} {n : Nat} {f : Nat → Int} (hv : KR w B v n f) (hn : n ≤ 32769) (ha : ∀ (i : Nat) (r : Value × Nat), R[i]? = some r → Apart r.1 v) : AllRows w B (R ++ [(v, n)]) fun _ _ _ => True := by
  have split : ∀ i (r : Value × Nat), (R ++ [(v, n)])[i]? = some r → (i < R.length ∧ R[i]? = some r) ∨ (i = R.length ∧ r = (v, n)) := by
    intro i r hr
    rcases Nat.lt_or_ge i R.length with hi | hi
    · rw [List.getElem?_append_left hi] at hr
      exact .inl ⟨hi, hr⟩
    · rw [List.getElem?_append_right hi] at hr
      have hlt := (List.getElem?_eq_some_iff.1 hr).1
      simp at hlt
      have e : i - R.length = 0 := by omega
      rw [e] at hr
      simp at hr
      exact .inr ⟨by omega, hr.symm⟩
  refine ⟨fun i r hr => ?_, fun i j r s hr hs hij => ?_⟩
  · rcases split i r hr with ⟨_, h1⟩ | ⟨_, rfl⟩
    · exact h.1 i r h1
    · exact ⟨hn, f, hv, trivial⟩
  · rcases split i r hr with ⟨_, h1⟩ | ⟨e1, rfl⟩
    · rcases split j s hs with ⟨_, h2⟩ | ⟨e2, rfl⟩
      · exact h.2 i j r s h1 h2 hij
      · exact ha i r h1
    · rcases split j s hs with ⟨_, h2⟩ | ⟨e2, rfl⟩
      · exact (ha j s h2).symm
      · omega
end
/-- so far written -/
def P2 (i kk : Nat) (j : Nat) (r : Value × Nat) (f : Nat → Int) : Prop := (j < i → ∀ k, k < r.2 → f k = -(j : Int) - 1) ∧ (j = i → ∀ k, k < kk → k < r.2 → f k = -(j : Int) - 1)
def P3 (j : Nat) (r : Value × Nat) (f : Nat → Int) : Prop := ∀ k, k < r.2 → f k = -(j : Int) - 1
theorem flatT_R (xs : List (Tok × Nat)) : flatT xs = flatR (xs.map (·.1)) := by unfold flatT flatR; rw [List.flatMap_map]
def kindAt (xs : List Tok) (k : Nat) : Int := ((xs[k]?.map fun t => t.kind).getD 0 : Nat)
theorem kr_of_row {w : World} {B : Nat} {v : Value} {xs : List Tok} (h : w.ownsRow B 40 6 v xs.length (flatR xs)) : KR w B v xs.length (kindAt xs) := by
  refine ⟨flatR xs, h, fun k hk => ?_⟩
  have hx : xs[k]? = some xs[k] := List.getElem?_eq_getElem hk
  have := flatR_at xs k 0 _ hx (by decide)
  rw [Nat.add_zero] at this
  rw [this]
  unfold kindAt
  rw [hx]
  rfl
/-- what Scan answers, whatever the text: a row of tokens -/
def ScanK (w : World) (e : Ending) (w' : World) : Prop := Below w.heap.size w w' ∧ ∃ v n, ∃ p er : Int, e = .returned (.tuple #[v, .int .i64 p, .int .i64 er]) ∧ n ≤ 32769 ∧ ∃ f, KR w' w.heap.size v n f
theorem scan_rows (a : Option Addr) (n cap : Nat) (l : List UInt8) (w : World) (hT : Txt w a n cap l) (hG : Glob w) : Calls Tryd.prog 8 #[.slice a n cap] w (ScanK w) := by
  refine (Scan_any a n cap l w hT hG).mono ?_
  rintro e w' ⟨hb, ⟨v, rfl, hz, hr⟩ | ⟨p, x, r, h1, h2, h3, rfl⟩⟩
  · refine ⟨hb, v, (allF l).length, 0, 0, rfl, allF_len l, kindAt ((allF l).map (·.1)), ?_⟩
    rw [flatT_R] at hr
    have hl : ((allF l).map (·.1)).length = (allF l).length := by simp
    rw [← hl] at hr ⊢
    exact kr_of_row hr
  · exact ⟨hb, _, 0, _, _, rfl, by omega, fun _ => 0, KR.nil _ _ _⟩
/-- what the grown rows are -/
def GRows (w : World) (B : Nat) (R G : List (Value × Nat)) : Prop := ∀ (j : Nat) (s r : Value × Nat), G[j]? = some s → R[j]? = some r →
  s.2 = r.2 + 40 ∧ (∃ f, KR w B s.1 s.2 f ∧ (∀ k, k < r.2 → f k = -(j : Int) - 1) ∧ (∀ k, r.2 ≤ k → k < s.2 → f k = 100 + (j : Int))) ∧ (∀ (i : Nat) (r' : Value × Nat), R[i]? = some r' → i ≠ j → Apart s.1 r'.1)
/-- the one that is being grown -/
def Cur (w : World) (B : Nat) (R G : List (Value × Nat)) (i : Nat) (r : Value × Nat) (c : Value) (kk : Nat) : Prop :=
  (∃ f, KR w B c (r.2 + kk) f ∧ (∀ k, k < r.2 → f k = -(i : Int) - 1) ∧ (∀ k, r.2 ≤ k → k < r.2 + kk → f k = 100 + (i : Int))) ∧ Link c r.1 ∧ (∀ (j : Nat) (r' : Value × Nat), R[j]? = some r' → j ≠ i → Apart c r'.1) ∧ (∀ (j : Nat) (s : Value × Nat), G[j]? = some s → Apart c s.1)

section
variable {w w' : World} {B : Nat} {R G : List (Value × Nat)}
theorem GRows.below (h : GRows w B R G) (hb : Below w.heap.size w w') : GRows w' B R G := fun j s r hs hr => by
  obtain ⟨h1, ⟨f, h2, h3, h4⟩, h5⟩ := h j s r hs hr
  exact ⟨h1, ⟨f, h2.below hb, h3, h4⟩, h5⟩
theorem GRows.kept {u : Value} (h : GRows w B R G) (hg : w.grownBy w' u.ownBlock) (ha : ∀ (j : Nat) (s : Value × Nat), G[j]? = some s → Apart s.1 u) : GRows w' B R G := fun j s r hs hr => by
  obtain ⟨h1, ⟨f, h2, h3, h4⟩, h5⟩ := h j s r hs hr
  exact ⟨h1, ⟨f, h2.kept hg (ha j s hs), h3, h4⟩, h5⟩
theorem GRows.more (h : GRows w B R G) {k rn : Nat} {rv c : Value} (hr : R[k]? = some (rv, rn)) (hl : G.length = k) {f : Nat → Int} (hk : KR w B c (rn + 40) f) (h1 : ∀ q, q < rn → f q = -(k : Int) - 1) (h2 : ∀ q, rn ≤ q → q < rn + 40 → f q = 100 + (k : Int))
    (h3 : ∀ (j : Nat) (r' : Value × Nat), R[j]? = some r' → j ≠ k → Apart c r'.1) : GRows w B R (G ++ [(c, rn + 40)]) := fun j s r hs hr' => by
  rcases Nat.lt_or_ge j G.length with hj | hj
  · rw [List.getElem?_append_left hj] at hs
    exact h j s r hs hr'
  · rw [List.getElem?_append_right hj] at hs
    have hlt := (List.getElem?_eq_some_iff.1 hs).1
    simp at hlt
    obtain rfl : j = k := by omega
    rw [show j - G.length = 0 by omega] at hs
    simp at hs
    subst hs
    rw [hr] at hr'
    cases hr'
    exact ⟨rfl, ⟨f, hk, h1, h2⟩, h3⟩
end
theorem six_one {x : Int} : ∀ u ∈ [Value.int .i64 x, .string ⟨#[]⟩, .int .i64 0, .float .f64 0, .int .i64 0, .int .i64 0], u.oneCell' = true := by
  intro u hu; simp at hu; rcases hu with rfl | rfl | rfl | rfl | rfl <;> rfl

set_option maxHeartbeats 16000000 in
theorem own_walk (a1 a2 : Option Addr) (n1 c1 n2 c2 : Nat) (l1 l2 : List UInt8) (w : World) (hG : Glob w) (ht1 : Txt w a1 n1 c1 l1) (ht2 : Txt w a2 n2 c2 l2) (hr1 : n1 ≤ 140737488351232) (hr2 : n2 ≤ 140737488351232) :
    Calls Tryd.prog 5 #[.slice a1 n1 c1, .slice a2 n2 c2] w fun e w' => e = .returned (.bool true) ∧ Below w.heap.size w w' := by
  obtain ⟨i0, hi, hz0, hz1, hz2⟩ := info_parts infoTok'
  obtain ⟨j0, hj, hy0, hy1, hy2⟩ := info_parts infoToks
  have HT1 := Lib.hid ht1
  have HT2 := Lib.hid ht2
  have HG := Lib.hid hG
  clear ht1 ht2 hG
  have sf : ∀ (p : Addr) (b : Nat) (mo : Mode) (w' : World), (store p (.float .f64 b) mo).run Tryd.prog w' = stored Tryd.prog w' p (.float .f64 b) mo := fun p b mo w' => run_store _ w' p _ mo rfl
  go_enter Tryd.func5, Tryd.ntmps5
  go_wp2_with fail
  refine (awake_any w HG.out).mono ?_
  rintro e w1 ⟨rfl, hb1⟩
  have HB1 := Lib.hid hb1
  clear hb1
  go_wp2_with fail
  go_loopw [5, 6] (fun b i wr => ∃ (k : Nat) (R : List (Value × Nat)), i = .int .i64 k ∧ k ≤ 4 ∧ R.length = k ∧ Hid (OwnAll wr w.heap.size b R) ∧ Hid (AllRows wr w.heap.size R fun _ _ _ => True) ∧ Below w.heap.size w wr) (fun _ i _ => 4 - (intOf i).toNat)
  case atStart => exact ⟨0, [], rfl, by omega, rfl, World.ownsRow_nil _ _ _ _, ⟨fun i r h => by simp at h, fun i j r s h => by simp at h⟩, HB1.out⟩
  case round =>
    obtain ⟨k, R, rfl, hk, hRl, HO, HA, hbr⟩ := hrel
    have HRL := Lib.hid hRl
    have HBR := Lib.hid hbr
    have hsz := hbr.size
    clear hRl hbr
    by_cases hk4 : k < 4
    · have hways : (((k : Int) == 1) = true ∨ ((k : Int) == 1) = false) := by cases ((k : Int) == 1) <;> simp
      rcases hways with t1 | t1
      case' inl => obtain ⟨HTX, hrX⟩ : Hid (Txt w a2 n2 c2 l2) ∧ n2 ≤ 140737488351232 := ⟨HT2, hr2⟩
      case' inr => obtain ⟨HTX, hrX⟩ : Hid (Txt w a1 n1 c1 l1) ∧ n1 ≤ 140737488351232 := ⟨HT1, hr1⟩
      all_goals
        go_wp2_with fail
        refine (lent_any _ _ _ _ wr (HTX.out.below HBR.out (Nat.le_refl _)) hrX).mono ?_
        rintro e w2 ⟨g, c, rfl, hc, hg, hown, hb2⟩
        have HH : Hid (HeldB wr w2 g c _ _) := Lib.hid ⟨HTX.out.1, hown, hb2⟩
        have HB2 := Lib.hid (HBR.out.trans (hb2.mono hsz))
        have HO2 := Lib.hid (HO.out.below hb2)
        have HA2 := Lib.hid (HA.out.below hb2)
        clear hown hb2
        go_wp2_with fail
        refine (scan_rows _ _ _ _ w2 HH.out.txt (HG.out.below HB2.out (Nat.le_refl _))).mono ?_
        rintro e w3 ⟨hb3, v, n, p, er, rfl, hn, f, hkr⟩
        obtain ⟨va, vc, rfl⟩ := hkr.form
        have hap : ∀ (i : Nat) (r : Value × Nat), R[i]? = some r → Apart r.1 (.slice va n vc) := fun i r hr g h1 h2 => by
          obtain ⟨_, f', h3, _⟩ := HA2.out.1 i r hr
          have hlt := h3.lt h1
          obtain ⟨cs, h4, _⟩ := hkr
          have := (h4.lt g h2).1
          omega
        have HB3 := Lib.hid (HB2.out.trans (hb3.mono HB2.out.size))
        have HO3 := Lib.hid (HO2.out.below hb3)
        have HA3 := Lib.hid (HA2.out.below hb3)
        have hs2 := HB2.out.size
        have HK3 := Lib.hid (hkr.weak hs2)
        have HAP := Lib.hid hap
        have hl5 : R.length ≤ 4 := by rw [HRL.out]; omega
        clear hb3 hkr hap
        go_wp2_with (at_builtin; refine wpList_append_own_at _ rfl (.tmp 36) (.tmp 38) 44 rfl w.heap.size 24 j0 (.slice none 0 0) 1 24 Tryd.underlying44 hj hy0 hy1 hy2 rfl (by decide) _ _ _ rfl (World.ownsRow.alloc HO3.out _) ⟨w3.heap.size, 0, none⟩ 1 1 [.slice va n vc] rfl rfl (cells_new w3 _ _) (by intro u hu; simp at hu; subst hu; rfl) (by unfold maxLen; omega) (by omega) (by have := HB3.out.size; simp; omega) ?_)
        intro b2 w4 hown4 hgrow4 _ _
        have ha3 : Below w3.heap.size w3 (w3.alloc (.cells #[.slice va n vc] 24)) := (Below.refl _ w3).alloc (Nat.le_refl _) _
        have hoa := HO3.out.below ha3
        have hka := HK3.out.below ha3
        have haa := HA3.out.below ha3
        have HB4 := Lib.hid ((HB3.out.alloc HB3.out.size _).grown hgrow4 (by have := HB3.out.size; simp; omega) (fun b hb => (World.ownsRow.lt HO3.out b hb).1))
        have HA4 := Lib.hid ((haa.kept hgrow4 (haa.away hoa)).more (hka.kept hgrow4 (hoa.apart hka).symm) hn HAP.out)
        have HO4 : Hid (OwnAll w4 w.heap.size b2 (R ++ [(.slice va n vc, n)])) := Lib.hid (by unfold OwnAll; rw [List.length_append, List.map_append]; exact hown4)
        clear hown4 hgrow4 ha3 hoa hka haa
        go_wp2_with fail
        go_roundw
        case rel => exact ⟨k + 1, R ++ [(.slice va n vc, n)], by go_num, by omega, by simp [HRL.out], HO4, HA4, HB4.out⟩
        case measure => simp [intOf]; omega
    · obtain rfl : k = 4 := by omega
      obtain ⟨gb, cb, hbv⟩ := HO.out.form (n := 3) HRL.out
      have hbv' : _ = Value.slice (some ⟨gb, 0, none⟩) 4 cb := hbv
      subst hbv'
      clear hbv
      have e4 : ((4 : Nat) : Int) = 4 := rfl
      rw [e4]
      have HA2 := Lib.hid (HA.out.mono (Q := P2 0 0) (fun i r f _ _ => ⟨fun h => by omega, fun h k hk => by omega⟩))
      go_wp2_with fail
      go_loopw [11] (fun i wr => ∃ k : Nat, i = .int .i64 k ∧ k ≤ 4 ∧ Hid (OwnAll wr w.heap.size (.slice (some ⟨gb, 0, none⟩) 4 cb) R) ∧ Hid (AllRows wr w.heap.size R (P2 k 0)) ∧ Below w.heap.size w wr) (fun i _ => 4 - (intOf i).toNat)
      case atStart => exact ⟨0, rfl, by omega, HO, HA2, HBR.out⟩
      case round =>
        obtain ⟨k, rfl, hk, HO2, HA2, hbr2⟩ := hrel
        have HBR2 := Lib.hid hbr2
        clear hbr2
        by_cases hk4 : k < 4
        · obtain ⟨⟨rv, rn⟩, hr⟩ : ∃ r, R[k]? = some r := ⟨_, List.getElem?_eq_getElem (by rw [HRL.out]; exact hk4)⟩
          obtain ⟨hn, f, hkr, _⟩ := HA2.out.1 k _ hr
          simp only at hn hkr
          obtain ⟨ra, rc, rfl⟩ := hkr.form
          have call := HO2.out.at hr
          simp only at call
          have HR := Lib.hid hr
          clear hr hkr
          go_wp2_with fail
          clear call
          go_loopw [12] (fun q wr => ∃ kk : Nat, q = .int .i64 kk ∧ kk ≤ rn ∧ Hid (OwnAll wr w.heap.size (.slice (some ⟨gb, 0, none⟩) 4 cb) R) ∧ Hid (AllRows wr w.heap.size R (P2 k kk)) ∧ Below w.heap.size w wr) (fun q _ => rn - (intOf q).toNat)
          case atStart => exact ⟨0, rfl, Nat.zero_le _, HO2, HA2, HBR2.out⟩
          case round =>
            obtain ⟨kk, rfl, hkk, HO3, HA3, hbr3⟩ := hrel
            have HBR3 := Lib.hid hbr3
            clear hbr3
            have call := HO3.out.at HR.out
            simp only at call
            by_cases hkn : kk < rn
            · obtain ⟨_, f3, hk3, hp3⟩ := HA3.out.1 k _ HR.out
              simp only at hk3
              obtain ⟨g, hga, _, hnc, x0, hglt, hgB⟩ := hk3.at hkn
              subst hga
              have y0 := (hk3.cells hkn (j := 0) (by decide)).2
              rw [Nat.add_zero] at y0
              obtain ⟨⟨u1, x1⟩, y1⟩ := hk3.cells hkn (j := 1) (by decide)
              obtain ⟨⟨u2, x2⟩, y2⟩ := hk3.cells hkn (j := 2) (by decide)
              obtain ⟨⟨u3, x3⟩, y3⟩ := hk3.cells hkn (j := 3) (by decide)
              obtain ⟨⟨u4, x4⟩, y4⟩ := hk3.cells hkn (j := 4) (by decide)
              obtain ⟨⟨u5, x5⟩, y5⟩ := hk3.cells hkn (j := 5) (by decide)
              have HK3 := Lib.hid hk3
              have HP3 := Lib.hid hp3
              clear hk3 hp3
              have hg6 := grown_six wr g (kk * 6) (kk * 6 + 1) (kk * 6 + 2) (kk * 6 + 3) (kk * 6 + 4) (kk * 6 + 5) (.int .i64 (-(k : Int) - 1)) (.string ⟨#[]⟩) (.int .i64 0) (.float .f64 0) (.int .i64 0) (.int .i64 0)
              have HO4 := Lib.hid (OwnAll.kept (u := .slice (some ⟨g, 0, none⟩) rn rc) HO3.out hg6 (HO3.out.apart HK3.out))
              have HA4 := Lib.hid (AllRows.change (u := .slice (some ⟨g, 0, none⟩) rn rc) (Q := P2 k (kk + 1)) HA3.out HR.out hg6 (fun j s hs hj => HA3.out.2 j k s _ hs HR.out hj) (HK3.out.put hkn (-(k : Int) - 1) (.string ⟨#[]⟩) (.int .i64 0) (.float .f64 0) (.int .i64 0) (.int .i64 0))
                ⟨fun h => by omega, fun _ q hq hq2 => by
                  unfold upd
                  by_cases hqk : q = kk
                  · rw [if_pos hqk]
                  · rw [if_neg hqk]
                    exact HP3.out.2 rfl q (by omega) hq2⟩
                (fun j s g hs hj hp => ⟨hp.1, fun h => absurd h hj⟩))
              have HB4 := Lib.hid (below_six HBR3.out (.int .i64 (-(k : Int) - 1)) (.string ⟨#[]⟩) (.int .i64 0) (.float .f64 0) (.int .i64 0) (.int .i64 0) (p1 := ⟨g, kk * 6, none⟩) (p2 := ⟨g, kk * 6 + 1, none⟩) (p3 := ⟨g, kk * 6 + 2, none⟩) (p4 := ⟨g, kk * 6 + 3, none⟩) (p5 := ⟨g, kk * 6 + 4, none⟩) (p6 := ⟨g, kk * 6 + 5, none⟩) hgB hgB hgB hgB hgB hgB)
              clear hg6
              go_wp2_with fail
              go_roundw
              case rel => exact ⟨kk + 1, by go_num, hkn, HO4, HA4, HB4.out⟩
              case measure => simp [intOf]; omega
            · obtain rfl : kk = rn := by omega
              have HA4 := Lib.hid (HA3.out.mono (Q := P2 (k + 1) 0) (fun j s f hs hp => ⟨fun hj q hq => by
                rcases Nat.lt_or_ge j k with h | h
                · exact hp.1 h q hq
                · obtain rfl : j = k := by omega
                  have := HR.out
                  rw [hs] at this
                  cases this
                  exact hp.2 rfl q hq hq, fun _ q hq => by omega⟩))
              go_wp2_with fail
              go_roundw
              case rel => exact ⟨k + 1, by go_num, by omega, HO3, HA4, HBR3.out⟩
              case measure => simp [intOf]; omega
        · obtain rfl : k = 4 := by omega
          rw [e4]
          have HA3 := Lib.hid (HA2.out.mono (Q := P3) (fun j s f hs hp q hq => hp.1 (by have := (List.getElem?_eq_some_iff.1 hs).1; rw [HRL.out] at this; exact this) q hq))
          go_wp2_with fail
          go_loopw [13, 14] (fun gv i wr => ∃ (k : Nat) (G : List (Value × Nat)), i = .int .i64 k ∧ k ≤ 4 ∧ G.length = k ∧ Hid (OwnAll wr w.heap.size gv G) ∧ Hid (OwnAll wr w.heap.size (.slice (some ⟨gb, 0, none⟩) 4 cb) R) ∧ Hid (Apart (.slice (some ⟨gb, 0, none⟩) 4 cb) gv) ∧ Hid (AllRows wr w.heap.size R P3) ∧ Hid (GRows wr w.heap.size R G) ∧ Below w.heap.size w wr) (fun _ i _ => 4 - (intOf i).toNat)
          case atStart => exact ⟨0, [], rfl, by omega, rfl, World.ownsRow_nil _ _ _ _, HO2, Lib.hid (fun g _ h => by simp [Value.ownBlock] at h), HA3, Lib.hid (fun j s r h _ => by simp at h), HBR2.out⟩
          case round =>
            obtain ⟨k, G, rfl, hk, hGl, HOG, HO4, HAP4, HA4, HG4, hbr4⟩ := hrel
            have HBR4 := Lib.hid hbr4
            have HGL := Lib.hid hGl
            clear hbr4 hGl
            by_cases hk4 : k < 4
            · obtain ⟨⟨rv, rn⟩, hr⟩ : ∃ r, R[k]? = some r := ⟨_, List.getElem?_eq_getElem (by rw [HRL.out]; exact hk4)⟩
              obtain ⟨hn, f, hkr, hp3⟩ := HA4.out.1 k _ hr
              simp only at hn hkr
              obtain ⟨ra, rc, rfl⟩ := hkr.form
              have call := HO4.out.at hr
              simp only at call
              have d4 : decide ((k : Int) < 4) = true := by rw [decide_eq_true_eq]; omega
              have HC : Hid (Cur wr w.heap.size R G k (.slice ra rn rc, rn) (.slice ra rn rc) 0) := Lib.hid ⟨⟨f, hkr, hp3, fun q h1 h2 => by omega⟩, Link.self hkr, fun j r' hj hne => (HA4.out.2 j k r' _ hj hr hne).symm, fun j s hs => by
                have hj := (List.getElem?_eq_some_iff.1 hs).1
                rw [HGL.out] at hj
                obtain ⟨rj, hrj⟩ : ∃ r, R[j]? = some r := ⟨_, List.getElem?_eq_getElem (by rw [HRL.out]; omega)⟩
                exact ((HG4.out j s rj hs hrj).2.2 k _ hr (by omega)).symm⟩
              have HR := Lib.hid hr
              clear hr hkr hp3
              go_wp2_with fail
              clear call
              go_loopw [15, 16] (fun c q wr => ∃ kk : Nat, q = .int .i64 kk ∧ kk ≤ 40 ∧ Hid (OwnAll wr w.heap.size u13 G) ∧ Hid (OwnAll wr w.heap.size (.slice (some ⟨gb, 0, none⟩) 4 cb) R) ∧ Hid (AllRows wr w.heap.size R P3) ∧ Hid (GRows wr w.heap.size R G) ∧ Hid (Cur wr w.heap.size R G k (.slice ra rn rc, rn) c kk) ∧ Below w.heap.size w wr) (fun _ q _ => 40 - (intOf q).toNat)
              case atStart => exact ⟨0, rfl, by omega, HOG, HO4, HA4, HG4, HC, HBR4.out⟩
              case round =>
                obtain ⟨kk, rfl, hkk, HOG5, HO5, HA5, HG5, HC5, hbr5⟩ := hrel
                have HBR5 := Lib.hid hbr5
                clear hbr5
                obtain ⟨⟨fc, hkc, hc1, hc2⟩, hlk, hcr, hcg⟩ := HC5.out
                simp only at hkc hc1 hc2
                by_cases hk40 : kk < 40
                · obtain ⟨_, fr, hkr, hp3⟩ := HA5.out.1 k _ HR.out
                  simp only at hkr
                  have ha : Below wr.heap.size wr (wr.alloc (.cells [Value.int .i64 (100 + (k : Int)), .string ⟨#[]⟩, .int .i64 0, .float .f64 0, .int .i64 0, .int .i64 0].toArray 40)) := (Below.refl _ wr).alloc (Nat.le_refl _) _
                  have HKC := Lib.hid (hkc.below ha)
                  have HKR := Lib.hid (hkr.below ha)
                  have HP3 := Lib.hid hp3
                  have HLK := Lib.hid hlk
                  have HCR := Lib.hid hcr
                  have HCG := Lib.hid hcg
                  have HC1 := Lib.hid hc1
                  have HC2 := Lib.hid hc2
                  have HOGA := Lib.hid (HOG5.out.below ha)
                  have HOA := Lib.hid (HO5.out.below ha)
                  have HAA := Lib.hid (HA5.out.below ha)
                  have HGA := Lib.hid (HG5.out.below ha)
                  have hbs := HBR5.out.size
                  clear ha hkc hkr hp3 hlk hcr hcg hc1 hc2
                  go_wp2_with (at_builtin; refine wpList_append_link _ rfl (.tmp 79) (.tmp 83) 24 rfl w.heap.size i0 (.agg #[.int .i64 0, .string ByteArray.empty, .int .i64 0, .float .f64 0, .int .i64 0, .int .i64 0]) Tryd.underlying24 hi hz0 hz1 hz2 rfl _ (rn + kk) fc rfl HKC.out _ rn fr HKR.out HLK.out ⟨wr.heap.size, 0, none⟩ 1 (100 + (k : Int)) [.int .i64 (100 + (k : Int)), .string ⟨#[]⟩, .int .i64 0, .float .f64 0, .int .i64 0, .int .i64 0] rfl rfl rfl (cells_new wr _ _) six_one (by unfold maxLen; omega) (by omega) (by simp; omega) ?_)
                  intro c' w8 hkc8 hkr8 hlk8 hg8 hblk
                  have hcnew : ∀ u : Value, Apart u15 u → (∀ g, u.ownBlock = some g → g < wr.heap.size + 1) → Apart c' u := fun u hu hlt g h1 h2 => by
                    rcases hblk with h | h
                    · rw [h] at h1; exact hu g h1 h2
                    · rw [h] at h1
                      cases h1
                      have := hlt _ h2
                      simp at this
                  have HOG8 := Lib.hid (HOGA.out.kept hg8 (HOGA.out.apart HKC.out))
                  have HO8 := Lib.hid (HOA.out.kept hg8 (HOA.out.apart HKC.out))
                  have HA8 := Lib.hid (AllRows.change (u := u15) (Q := P3) HAA.out HR.out hg8 (fun j s hs hj => (HCR.out j s hs hj).symm) hkr8 HP3.out (fun _ _ _ _ _ hp => hp))
                  have HG8 := Lib.hid (HGA.out.kept hg8 (fun j s hs => (HCG.out j s hs).symm))
                  have HC8 : Hid (Cur w8 w.heap.size R G k (.slice ra rn rc, rn) c' (kk + 1)) := Lib.hid ⟨⟨_, hkc8, fun q hq => by unfold grow; simp only at hq; rw [if_pos (by omega)]; exact HC1.out q hq, fun q hq hq2 => by
                      unfold grow
                      simp only at hq hq2
                      by_cases h : q < rn + kk
                      · rw [if_pos h]; exact HC2.out q hq h
                      · rw [if_neg h]⟩, hlk8,
                    fun j r' hj hne => hcnew _ (HCR.out j r' hj hne) (fun g hg => by obtain ⟨_, f', h3, _⟩ := HAA.out.1 j r' hj; simpa using h3.lt hg),
                    fun j s hs => hcnew _ (HCG.out j s hs) (fun g hg => by
                      obtain ⟨rj, hrj⟩ : ∃ r, R[j]? = some r := ⟨_, List.getElem?_eq_getElem (by have := (List.getElem?_eq_some_iff.1 hs).1; have := HGL.out; have := HRL.out; omega)⟩
                      obtain ⟨_, ⟨f', h3, _⟩, _⟩ := HGA.out j s rj hs hrj
                      simpa using h3.lt hg)⟩
                  have HB8 := Lib.hid ((HBR5.out.alloc hbs _).grown hg8 (by simp; omega) (fun g hg => by obtain ⟨cs, h1, _⟩ := HKC.out; exact (h1.lt g hg).1))
                  clear hkc8 hkr8 hlk8 hg8 hblk hcnew
                  go_wp2_with fail
                  go_roundw
                  case rel => exact ⟨kk + 1, by go_num, by omega, HOG8, HO8, HA8, HG8, HC8, HB8.out⟩
                  case measure => simp [intOf]; omega
                · obtain rfl : kk = 40 := by omega
                  obtain ⟨ca, cc, hcf⟩ := hkc.form
                  subst hcf
                  have ha : Below wr.heap.size wr (wr.alloc (.cells [Value.slice ca (rn + 40) cc].toArray 24)) := (Below.refl _ wr).alloc (Nat.le_refl _) _
                  have HKC := Lib.hid (hkc.below ha)
                  have HCR := Lib.hid hcr
                  have HC1 := Lib.hid hc1
                  have HC2 := Lib.hid hc2
                  have HOGA := Lib.hid (HOG5.out.below ha)
                  have HOA := Lib.hid (HO5.out.below ha)
                  have HAA := Lib.hid (HA5.out.below ha)
                  have HGA := Lib.hid (HG5.out.below ha)
                  have hbs := HBR5.out.size
                  have hgl4 : G.length ≤ 4 := by have := HGL.out; omega
                  clear ha hkc hlk hcr hcg hc1 hc2
                  go_wp2_with (at_builtin; refine wpList_append_own_at _ rfl (.tmp 85) (.tmp 87) 44 rfl w.heap.size 24 j0 (.slice none 0 0) 1 24 Tryd.underlying44 hj hy0 hy1 hy2 rfl (by decide) _ _ _ rfl HOGA.out ⟨wr.heap.size, 0, none⟩ 1 1 [.slice ca (rn + 40) cc] rfl rfl (cells_new wr _ _) (by intro u hu; simp at hu; subst hu; rfl) (by unfold maxLen; omega) (by omega) (by simp; omega) ?_)
                  intro g8 w8 hown8 hg8 _ hblk
                  have HOG8 : Hid (OwnAll w8 w.heap.size g8 (G ++ [(.slice ca (rn + 40) cc, rn + 40)])) := Lib.hid (by unfold OwnAll; rw [List.length_append, List.map_append]; exact hown8)
                  have HO8 := Lib.hid (HOA.out.kept hg8 HAP4.out)
                  have HAP8 : Hid (Apart (.slice (some ⟨gb, 0, none⟩) 4 cb) g8) := Lib.hid fun g h1 h2 => by
                    rcases hblk with h | h
                    · rw [h] at h2; exact HAP4.out g h1 h2
                    · rw [h] at h2
                      cases h2
                      have := (World.ownsRow.lt HOA.out _ h1).2
                      simp at this
                  have HA8 := Lib.hid (HAA.out.kept hg8 (HAA.out.away HOGA.out))
                  have HG8 := Lib.hid (GRows.more (HGA.out.kept hg8 (fun j s hs => by
                      obtain ⟨rj, hrj⟩ : ∃ r, R[j]? = some r := ⟨_, List.getElem?_eq_getElem (by have := (List.getElem?_eq_some_iff.1 hs).1; have := HGL.out; have := HRL.out; omega)⟩
                      obtain ⟨_, ⟨f', h3, _⟩, _⟩ := HGA.out j s rj hs hrj
                      exact (HOGA.out.apart h3).symm)) HR.out HGL.out (HKC.out.kept hg8 (HOGA.out.apart HKC.out).symm) HC1.out HC2.out HCR.out)
                  have HB8 := Lib.hid ((HBR5.out.alloc hbs _).grown hg8 (by simp; omega) (fun g hg => (World.ownsRow.lt HOGA.out g hg).1))
                  clear hown8 hg8 hblk
                  go_wp2_with fail
                  go_roundw
                  case rel => exact ⟨k + 1, G ++ [(.slice ca (rn + 40) cc, rn + 40)], by go_num, by omega, by simp [HGL.out], HOG8, HO8, HAP8, HA8, HG8, HB8.out⟩
                  case measure => simp [intOf]; omega
            · obtain rfl : k = 4 := by omega
              obtain ⟨gg, cg, hgv⟩ := HOG.out.form (n := 3) HGL.out
              have hgv' : _ = Value.slice (some ⟨gg, 0, none⟩) 4 cg := hgv
              subst hgv'
              clear hgv
              rw [e4]
              go_wp2_with fail
              go_loop [17] (fun i => ∃ k : Nat, i = .int .i64 k ∧ k ≤ 4) (fun i => 4 - (intOf i).toNat)
              case atStart => exact ⟨0, rfl, by omega⟩
              case round =>
                obtain ⟨k, rfl, hk⟩ := hrel
                by_cases hk4 : k < 4
                · obtain ⟨⟨rv, rn⟩, hr⟩ : ∃ r, R[k]? = some r := ⟨_, List.getElem?_eq_getElem (by rw [HRL.out]; exact hk4)⟩
                  obtain ⟨⟨sv, sn⟩, hs⟩ : ∃ r, G[k]? = some r := ⟨_, List.getElem?_eq_getElem (by rw [HGL.out]; exact hk4)⟩
                  obtain ⟨hn, f, hkr, hp3⟩ := HA4.out.1 k _ hr
                  obtain ⟨hsn, ⟨fs, hks, hs1, hs2⟩, _⟩ := HG4.out k _ _ hs hr
                  simp only at hn hkr hsn hks hs1 hs2
                  subst hsn
                  obtain ⟨ra, rc, rfl⟩ := hkr.form
                  obtain ⟨sa, sc, rfl⟩ := hks.form
                  have call := HO4.out.at hr
                  have cgrn := HOG.out.at hs
                  simp only at call cgrn
                  have HKR := Lib.hid hkr
                  have HKS := Lib.hid hks
                  have HP3 := Lib.hid hp3
                  have HS1 := Lib.hid hs1
                  have HS2 := Lib.hid hs2
                  clear hr hs hkr hp3 hks hs1 hs2
                  go_wp2_with fail
                  go_loop [18] (fun q => ∃ kk : Nat, q = .int .i64 kk ∧ kk ≤ rn + 40) (fun q => rn + 40 - (intOf q).toNat)
                  case atStart => exact ⟨0, rfl, Nat.zero_le _⟩
                  case round =>
                    obtain ⟨kk, rfl, hkk⟩ := hrel
                    by_cases hkn : kk < rn + 40
                    · obtain ⟨g2, hga2, _, _, x2, _, _⟩ := HKS.out.at hkn
                      subst hga2
                      by_cases hkr : kk < rn
                      · obtain ⟨g, hga, _, _, x0, _, _⟩ := HKR.out.at hkr
                        subst hga
                        rw [HP3.out kk hkr] at x0
                        rw [HS1.out kk hkr] at x2
                        have t1 : decide (kk < rn) = true := by rw [decide_eq_true_eq]; exact hkr
                        have t2 : decide (rn ≤ kk) = false := by rw [decide_eq_false_iff_not]; omega
                        go_wp2_with fail
                        go_round
                        case rel => exact ⟨kk + 1, by go_num, hkn⟩
                        case measure => simp [intOf]; omega
                      · rw [HS2.out kk (by omega) hkn] at x2
                        have t1 : decide (kk < rn) = false := by rw [decide_eq_false_iff_not]; exact hkr
                        have t2 : decide (rn ≤ kk) = true := by rw [decide_eq_true_eq]; omega
                        go_wp2_with fail
                        go_round
                        case rel => exact ⟨kk + 1, by go_num, hkn⟩
                        case measure => simp [intOf]; omega
                    · obtain rfl : kk = rn + 40 := by omega
                      go_wp2_with fail
                      go_round
                      case rel => exact ⟨k + 1, by go_num, by omega⟩
                      case measure => simp [intOf]; omega
                · obtain rfl : k = 4 := by omega
                  go_wp2_with fail
                  go_ret
                  exact ⟨rfl, HBR4.out⟩
end Go.Proofs.YtkhghbeojfgkhaaDoor
