/- The operators of a level, in the order of the reference's list; no program. -/
import Derived.Test.YtddeoemkjedonaaDoorMExPlain
import Derived.Test.YtddeoemkjedonaaDoorMEbSmall
namespace Go.Proofs.YtddeoemkjedonaaDoor
open Go.RowKit

/-- the texts of a level's operators, and their kinds -/
def opsT (n : Nat) : List (List UInt8) := if n = 1 then [[124, 124]] else if n = 2 then [[38, 38]] else if n = 3 then [[61, 61], [33, 61], [60], [60, 61], [62], [62, 61]] else if n = 4 then [[43], [45]] else if n = 5 then [[42], [47], [37]] else if n = 6 then [[45], [33]] else []
def opsK (n : Nat) : List Nat := if n = 1 then [17] else if n = 2 then [16] else if n = 3 then [10, 11, 12, 13, 14, 15] else if n = 4 then [5, 6] else if n = 5 then [7, 8, 9] else if n = 6 then [3, 4] else []
def firstM (c : Cl) : List (List UInt8) → List Nat → Nat
  | s :: ss, k :: ks => if isM c s = true then k else firstM c ss ks
  | _, _ => 0
def oneK (n : Nat) (c : Cl) : Nat := if n = 6 then sgK c else if opL (clK c) = n then clK c else 0
theorem ops_len (n : Nat) : (opsT n).length = (opsK n).length := by
  unfold opsT opsK
  repeat' split
  all_goals rfl
theorem firstM_none {c : Cl} (h : ∀ s, isM c s = false) : ∀ (ss : List (List UInt8)) (ks : List Nat), firstM c ss ks = 0
  | [], _ => by unfold firstM; rfl
  | _ :: _, [] => by unfold firstM; rfl
  | s :: ss, k :: ks => by unfold firstM; rw [h s]; exact firstM_none h ss ks
theorem firstM_one (n : Nat) (h1 : 1 ≤ n) (h6 : n ≤ 6) (c : Cl) : firstM c (opsT n) (opsK n) = oneK n c := by
  have hn : n = 1 ∨ n = 2 ∨ n = 3 ∨ n = 4 ∨ n = 5 ∨ n = 6 := by omega
  have h0 : ∀ c : Cl, clK c = 0 → sgK c = 0 → oneK n c = 0 := fun c h h' => by
    unfold oneK
    rw [h, h']
    have e0 : opL 0 = 0 := by decide
    rw [e0]
    split
    · rfl
    · rw [if_neg (by omega)]
  cases c with
  | leaf l => rw [firstM_none (fun s => rfl), h0 _ rfl rfl]
  | word k => rw [firstM_none (fun s => rfl), h0 _ rfl rfl]
  | no => rw [firstM_none (fun s => rfl), h0 _ rfl rfl]
  | mark s =>
    by_cases e1 : s = [124, 124]
    · subst e1; rcases hn with rfl | rfl | rfl | rfl | rfl | rfl <;> decide
    by_cases e2 : s = [38, 38]
    · subst e2; rcases hn with rfl | rfl | rfl | rfl | rfl | rfl <;> decide
    by_cases e3 : s = [61, 61]
    · subst e3; rcases hn with rfl | rfl | rfl | rfl | rfl | rfl <;> decide
    by_cases e4 : s = [33, 61]
    · subst e4; rcases hn with rfl | rfl | rfl | rfl | rfl | rfl <;> decide
    by_cases e5 : s = [60]
    · subst e5; rcases hn with rfl | rfl | rfl | rfl | rfl | rfl <;> decide
    by_cases e6 : s = [60, 61]
    · subst e6; rcases hn with rfl | rfl | rfl | rfl | rfl | rfl <;> decide
    by_cases e7 : s = [62]
    · subst e7; rcases hn with rfl | rfl | rfl | rfl | rfl | rfl <;> decide
    by_cases e8 : s = [62, 61]
    · subst e8; rcases hn with rfl | rfl | rfl | rfl | rfl | rfl <;> decide
    by_cases e9 : s = [43]
    · subst e9; rcases hn with rfl | rfl | rfl | rfl | rfl | rfl <;> decide
    by_cases e10 : s = [45]
    · subst e10; rcases hn with rfl | rfl | rfl | rfl | rfl | rfl <;> decide
    by_cases e11 : s = [42]
    · subst e11; rcases hn with rfl | rfl | rfl | rfl | rfl | rfl <;> decide
    by_cases e12 : s = [47]
    · subst e12; rcases hn with rfl | rfl | rfl | rfl | rfl | rfl <;> decide
    by_cases e13 : s = [37]
    · subst e13; rcases hn with rfl | rfl | rfl | rfl | rfl | rfl <;> decide
    by_cases e14 : s = [33]
    · subst e14; rcases hn with rfl | rfl | rfl | rfl | rfl | rfl <;> decide
    have hk : clK (.mark s) = 0 := by
      show opK s = 0
      unfold opK
      rw [if_neg e1, if_neg e2, if_neg e3, if_neg e4, if_neg e5, if_neg e6, if_neg e7, if_neg e8, if_neg e9, if_neg e10, if_neg e11, if_neg e12, if_neg e13]
    have hs : sgK (.mark s) = 0 := by
      show (if s = [45] then 3 else if s = [33] then 4 else 0) = 0
      rw [if_neg e10, if_neg e14]
    rw [h0 _ hk hs]
    have hm : ∀ t : List UInt8, s ≠ t → isM (.mark s) t = false := fun t h => beq_eq_false_iff_ne.2 h
    rcases hn with rfl | rfl | rfl | rfl | rfl | rfl
    · show firstM (.mark s) [[124, 124]] [17] = 0; simp [firstM, hm _ e1]
    · show firstM (.mark s) [[38, 38]] [16] = 0; simp [firstM, hm _ e2]
    · show firstM (.mark s) [[61, 61], [33, 61], [60], [60, 61], [62], [62, 61]] [10, 11, 12, 13, 14, 15] = 0; simp [firstM, hm _ e3, hm _ e4, hm _ e5, hm _ e6, hm _ e7, hm _ e8]
    · show firstM (.mark s) [[43], [45]] [5, 6] = 0; simp [firstM, hm _ e9, hm _ e10]
    · show firstM (.mark s) [[42], [47], [37]] [7, 8, 9] = 0; simp [firstM, hm _ e11, hm _ e12, hm _ e13]
    · show firstM (.mark s) [[45], [33]] [3, 4] = 0; simp [firstM, hm _ e10, hm _ e14]
theorem firstM_at {c : Cl} : ∀ {ss : List (List UInt8)} {ks : List Nat} {i : Nat} {s : List UInt8} {k : Nat}, ss[i]? = some s → ks[i]? = some k → (∀ (j : Nat) (s' : List UInt8), j < i → ss[j]? = some s' → isM c s' = false) → isM c s = true → firstM c ss ks = k
  | [], _, i, s, k, h, _, _, _ => by simp at h
  | _ :: _, [], i, s, k, _, h, _, _ => by simp at h
  | s0 :: ss, k0 :: ks, 0, s, k, h, h2, _, hm => by
    simp at h h2
    subst h h2
    unfold firstM
    rw [if_pos hm]
  | s0 :: ss, k0 :: ks, i + 1, s, k, h, h2, hn, hm => by
    unfold firstM
    rw [if_neg (by rw [hn 0 s0 (by omega) rfl]; decide)]
    exact firstM_at (i := i) (by simpa using h) (by simpa using h2) (fun j s' hj hs' => hn (j + 1) s' (by omega) (by simpa using hs')) hm
theorem firstM_end {c : Cl} : ∀ {ss : List (List UInt8)} {ks : List Nat}, (∀ (j : Nat) (s' : List UInt8), ss[j]? = some s' → isM c s' = false) → firstM c ss ks = 0
  | [], _, _ => by unfold firstM; rfl
  | _ :: _, [], _ => by unfold firstM; rfl
  | s0 :: ss, k0 :: ks, hn => by
    unfold firstM
    rw [if_neg (by rw [hn 0 s0 rfl]; decide)]
    exact firstM_end (fun j s' hs' => hn (j + 1) s' (by simpa using hs'))
end Go.Proofs.YtddeoemkjedonaaDoor
/- The reference's lists of operators and words. -/
namespace Go.Proofs.YtddeoemkjedonaaDoor
open Go.RowKit
set_option maxRecDepth 100000

def StrsAt (w : World) (g : Nat) (T : List (List UInt8)) : Prop := ∀ (i : Nat) s, T[i]? = some s → w.cell? ⟨g, i, none⟩ = some (.string ⟨s.toArray⟩)
def KindsAt (w : World) (g : Nat) (K : List Nat) : Prop := ∀ (i : Nat) k, K[i]? = some k → w.cell? ⟨g, i, none⟩ = some (.int .i64 (k : Nat))
theorem strs_row {w : World} {g : Nat} {T : List (List UInt8)} {t : TypeId} (h : w.heap[g]? = some (.cells (T.map fun s => Value.string ⟨s.toArray⟩).toArray t (0, 0))) : StrsAt w g T := fun i s hs => by
  rw [cell_of_row w g i _ _ _ h]
  simp [hs]
theorem kinds_row {w : World} {g : Nat} {K : List Nat} {t : TypeId} (h : w.heap[g]? = some (.cells (K.map fun (k : Nat) => Value.int .i64 (k : Int)).toArray t (0, 0))) : KindsAt w g K := fun i s hs => by
  rw [cell_of_row w g i _ _ _ h]
  simp [hs]
theorem StrsAt.keep {w w' : World} {B g : Nat} {T : List (List UInt8)} (h : StrsAt w g T) (hb : Below B w w') (hg : g < B) : StrsAt w' g T := fun i s hs => (hb.cell (p := ⟨g, i, none⟩) hg).trans (h i s hs)
theorem KindsAt.keep {w w' : World} {B g : Nat} {T : List Nat} (h : KindsAt w g T) (hb : Below B w w') (hg : g < B) : KindsAt w' g T := fun i s hs => (hb.cell (p := ⟨g, i, none⟩) hg).trans (h i s hs)
theorem two_rows (w : World) (A B : Array Value) (t u : TypeId) : ((w.alloc (.cells A t)).alloc (.cells B u)).heap[w.heap.size]? = some (.cells A t (0, 0)) ∧ ((w.alloc (.cells A t)).alloc (.cells B u)).heap[w.heap.size + 1]? = some (.cells B u (0, 0)) ∧ Below w.heap.size w ((w.alloc (.cells A t)).alloc (.cells B u)) ∧ ((w.alloc (.cells A t)).alloc (.cells B u)).heap.size = w.heap.size + 2 := by
  have h1 : (w.alloc (.cells A t)).heap[w.heap.size]? = some (.cells A t (0, 0)) := heap_alloc_new _ _
  have hs : (w.alloc (.cells A t)).heap.size = w.heap.size + 1 := by simp
  have hb : Below (w.heap.size + 1) (w.alloc (.cells A t)) ((w.alloc (.cells A t)).alloc (.cells B u)) := (Below.refl _ _).alloc (by omega) _
  refine ⟨(hb.block _ (by omega)).trans h1, ?_, (((Below.refl _ w).alloc (Nat.le_refl _) _).alloc (by omega) _), by simp⟩
  have := heap_alloc_new (w.alloc (.cells A t)) (.cells B u)
  rw [hs] at this
  exact this
/-- a level's operators, told -/
def OpsD (n : Nat) (w : World) (e : Ending) (w' : World) : Prop :=
  ∃ g c g2 c2, e = .returned (.tuple #[.slice (some ⟨g, 0, none⟩) (opsT n).length c, .slice (some ⟨g2, 0, none⟩) (opsK n).length c2]) ∧ StrsAt w' g (opsT n) ∧ KindsAt w' g2 (opsK n) ∧ Below w.heap.size w w' ∧ w.heap.size ≤ g ∧ w.heap.size ≤ g2 ∧ g < w'.heap.size ∧ g2 < w'.heap.size
theorem ops_done (n : Nat) (w : World) (A B : Array Value) (t u : TypeId) (hA : A = ((opsT n).map fun s => Value.string ⟨s.toArray⟩).toArray) (hB : B = ((opsK n).map fun (k : Nat) => Value.int .i64 (k : Int)).toArray) (c c2 : Nat) (e : Ending)
    (he : e = .returned (.tuple #[.slice (some ⟨w.heap.size, 0, none⟩) (opsT n).length c, .slice (some ⟨w.heap.size + 1, 0, none⟩) (opsK n).length c2])) : OpsD n w e ((w.alloc (.cells A t)).alloc (.cells B u)) := by
  subst hA hB
  obtain ⟨h1, h2, h3, h4⟩ := two_rows w ((opsT n).map fun s => Value.string ⟨s.toArray⟩).toArray ((opsK n).map fun (k : Nat) => Value.int .i64 (k : Int)).toArray t u
  exact ⟨_, _, _, _, he, strs_row h1, kinds_row h2, h3, Nat.le_refl _, by omega, by omega, by omega⟩
set_option maxHeartbeats 2000000 in
theorem operators_any (n : Nat) (h1 : 1 ≤ n) (h6 : n ≤ 6) (w : World) : Calls Tryd.prog 33 #[.int .i64 n] w (OpsD n w) := by
  have hn : n = 1 ∨ n = 2 ∨ n = 3 ∨ n = 4 ∨ n = 5 ∨ n = 6 := by omega
  rcases hn with rfl | rfl | rfl | rfl | rfl | rfl
  all_goals
    go_enter Tryd.func33, Tryd.ntmps33
    go_wp2
    go_ret2
    exact ops_done _ w _ _ _ _ rfl rfl _ _ _ rfl
/-- the texts of the reserved words, and their kinds -/
def wdT : List (List UInt8) := [[114, 101], [105, 109], [115, 105, 122, 101, 50], [99, 111, 109, 112], [114, 101, 97, 108], [108, 101, 110], [97, 116], [99, 97, 116], [115, 116, 114]]
def wdK : List Nat := [18, 19, 20, 21, 22, 23, 24, 25, 26]
theorem firstM_word (s : List UInt8) : firstM (.mark s) wdT wdK = wordK s := by
  show firstM (.mark s) [[114, 101], [105, 109], [115, 105, 122, 101, 50], [99, 111, 109, 112], [114, 101, 97, 108], [108, 101, 110], [97, 116], [99, 97, 116], [115, 116, 114]] [18, 19, 20, 21, 22, 23, 24, 25, 26] = wordK s
  simp only [firstM, isM, beq_iff_eq]
  unfold wordK
  rfl
theorem words_any (w : World) : Calls Tryd.prog 41 #[] w fun e w' => e = .returned (.slice (some ⟨w.heap.size, 0, none⟩) 9 9) ∧ w' = w.alloc (.cells (wdT.map fun s => Value.string ⟨s.toArray⟩).toArray 9) := by
  go_enter Tryd.func41, Tryd.ntmps41
  go_wp2
  go_ret
  exact ⟨rfl, rfl⟩
set_option maxHeartbeats 2000000 in
/-- the kind of a word -/
theorem wordKind_any (s : ByteArray) (w : World) : Calls Tryd.prog 31 #[.string s] w fun e w' => e = .returned (.int .i64 (wordK s.data.toList)) ∧ Below w.heap.size w w' := by
  obtain ⟨W0, hW0, h1, h2, h3, h4⟩ : ∃ W0, W0 = (w.alloc (.cells (wdT.map fun s => Value.string ⟨s.toArray⟩).toArray 9)).alloc (.cells #[.int .i64 18, .int .i64 19, .int .i64 20, .int .i64 21, .int .i64 22, .int .i64 23, .int .i64 24, .int .i64 25, .int .i64 26] 3) ∧ _ := ⟨_, rfl, two_rows w (wdT.map fun s => Value.string ⟨s.toArray⟩).toArray #[.int .i64 18, .int .i64 19, .int .i64 20, .int .i64 21, .int .i64 22, .int .i64 23, .int .i64 24, .int .i64 25, .int .i64 26] 9 3⟩
  rw [← hW0] at h1 h2 h3 h4
  have HS := Lib.hid (strs_row h1)
  have HK : Hid (KindsAt W0 (w.heap.size + 1) wdK) := Lib.hid (kinds_row (K := wdK) h2)
  have HB := Lib.hid h3
  have HW0 := Lib.hid hW0
  clear h1 h2 h3 hW0
  rw [← firstM_word]
  go_enter Tryd.func31, Tryd.ntmps31
  go_upto_region 3 with (go_at_call 41; refine (words_any _).mono ?_; rintro e w1 ⟨rfl, rfl⟩)
  rw [← HW0.out]
  go_wp2
  go_loop [5] (fun i => ∃ k : Nat, i = .int .i64 k ∧ k ≤ 9 ∧ Hid (∀ (j : Nat) (s' : List UInt8), j < k → wdT[j]? = some s' → isM (.mark s.data.toList) s' = false)) (fun i => 9 - (intOf i).toNat)
  case atStart => exact ⟨0, rfl, by omega, Lib.hid fun j s' hj => absurd hj (by omega)⟩
  case round =>
    obtain ⟨k, rfl, hk, HN⟩ := hrel
    rcases Nat.lt_or_ge k 9 with hlt | hge
    · have hl1 : wdT.length = 9 := rfl
      have hl2 : wdK.length = 9 := rfl
      obtain ⟨T, hT⟩ : ∃ T, wdT[k]? = some T := ⟨_, List.getElem?_eq_getElem (by omega)⟩
      obtain ⟨K, hK⟩ : ∃ K, wdK[k]? = some K := ⟨_, List.getElem?_eq_getElem (by omega)⟩
      have c0 := HS.out k T hT
      have c1 := HK.out k K hK
      have HT := Lib.hid hT
      have HKK := Lib.hid hK
      clear hT hK hl1 hl2
      cases hb : (T == s.data.toList) with
      | true =>
        have HM : Hid (firstM (.mark s.data.toList) wdT wdK = K) := Lib.hid (firstM_at HT.out HKK.out HN.out (by show (s.data.toList == T) = true; rw [beq_iff_eq] at hb ⊢; exact hb.symm))
        have e1 : (T == s.toList) = true := by rw [tl_dat]; exact hb
        clear hb
        go_wp2
        go_ret
        exact ⟨by rw [HM.out]; rfl, HB.out⟩
      | false =>
        have hnb : isM (.mark s.data.toList) T = false := by
          show (s.data.toList == T) = false
          rw [beq_eq_false_iff_ne] at hb ⊢
          exact fun e => hb e.symm
        have HN2 := Lib.hid (fun (j : Nat) (s' : List UInt8) (hj : j < k + 1) (hs : wdT[j]? = some s') => (by
          rcases Nat.lt_or_ge j k with h | h
          · exact HN.out j s' h hs
          · obtain rfl : j = k := by omega
            have := hs.symm.trans HT.out
            cases this
            exact hnb : isM (.mark s.data.toList) s' = false))
        have e1 : (T == s.toList) = false := by rw [tl_dat]; exact hb
        clear hb hnb
        go_wp2
        go_round
        case rel => exact ⟨k + 1, by go_num, by omega, HN2⟩
        case measure => simp [intOf]; omega
    · obtain rfl : k = 9 := by omega
      have HM : Hid (firstM (.mark s.data.toList) wdT wdK = 0) := Lib.hid (firstM_end fun j s' hs => HN.out j s' (by obtain ⟨h, _⟩ := List.getElem?_eq_some_iff.1 hs; exact h) hs)
      go_wp2
      go_ret
      exact ⟨by rw [HM.out]; rfl, HB.out⟩
end Go.Proofs.YtddeoemkjedonaaDoor
/- How many children a word's node has, by the reference. -/
namespace Go.Proofs.YtddeoemkjedonaaDoor
open Go.RowKit
set_option maxRecDepth 100000

theorem opsK_lt (n : Nat) : ∀ (i k : Nat), (opsK n)[i]? = some k → k < 18 := by
  intro i k h
  have hm := List.mem_of_getElem? h
  have : ∀ k ∈ opsK n, k < 18 := by
    unfold opsK
    repeat' split
    all_goals decide
  exact this k hm
theorem opsK_six (n : Nat) : (opsK n).length ≤ 6 := by
  unfold opsK
  repeat' split
  all_goals decide
set_option maxHeartbeats 2000000 in
theorem levelOf_any (kd : Nat) (h : 18 ≤ kd) (h2 : kd ≤ 26) (w : World) : Calls Tryd.prog 42 #[.int .i64 kd] w fun e w' => e = .returned (.int .i64 7) ∧ Below w.heap.size w w' := by
  go_enter Tryd.func42, Tryd.ntmps42
  go_wp2
  go_loopw [3] (fun v wr => ∃ n : Nat, v = .int .i64 n ∧ 1 ≤ n ∧ n ≤ 7 ∧ Hid (Below w.heap.size w wr)) (fun v _ => 7 - (intOf v).toNat)
  case atStart => exact ⟨1, rfl, by omega, by omega, Lib.hid (Below.refl _ _)⟩
  case round =>
    obtain ⟨n, rfl, hn1, hn7, HB⟩ := hrel
    rcases Nat.lt_or_ge n 7 with hlt | hge
    · have HO := Lib.hid (operators_any n hn1 (by omega) wr)
      have hle := Lib.hid (HB.out.size)
      go_wp2_with (go_at_call 33; refine HO.out.mono ?_; rintro e w1 ⟨g, c, g2, c2, rfl, hs, hk, hb, hg, hg2, hl, hl2⟩; have HK := Lib.hid hk; have HB1 := Lib.hid (HB.out.trans (hb.mono hle.out)); clear hs hk hb; have hN6 := opsK_six n; generalize hN : (opsK n).length = N at hN6 ⊢)
      go_loop [6] (fun v => ∃ i : Nat, v = .int .i64 i ∧ i ≤ N) (fun v => N - (intOf v).toNat)
      case atStart => exact ⟨0, rfl, Nat.zero_le _⟩
      case round =>
        obtain ⟨i, rfl, hi⟩ := hrel
        rcases Nat.lt_or_ge i N with hlt2 | hge2
        · obtain ⟨K, hK⟩ : ∃ K, (opsK n)[i]? = some K := ⟨_, List.getElem?_eq_getElem (by omega)⟩
          have hK18 := opsK_lt n i K hK
          have c1 := HK.out i K hK
          have d1 : ((K : Int) == (kd : Int)) = false := beq_eq_false_iff_ne.2 (by omega)
          clear hK
          go_wp2
          go_round
          case rel => exact ⟨i + 1, by go_num, by omega⟩
          case measure => simp [intOf]; omega
        · obtain rfl : i = N := by omega
          go_wp2
          go_roundw
          case rel => exact ⟨n + 1, by go_num, by omega, by omega, HB1⟩
          case measure => simp [intOf]; omega
    · obtain rfl : n = 7 := by omega
      go_wp2
      go_ret
      exact ⟨rfl, HB.out⟩
set_option maxHeartbeats 2000000 in
theorem kids_any (kd : Nat) (h : 18 ≤ kd) (h2 : kd ≤ 26) (w : World) : Calls Tryd.prog 32 #[.int .i64 kd] w fun e w' => e = .returned (.int .i64 (wdN kd)) ∧ Below w.heap.size w w' := by
  have hk : kd = 18 ∨ kd = 19 ∨ kd = 20 ∨ kd = 21 ∨ kd = 22 ∨ kd = 23 ∨ kd = 24 ∨ kd = 25 ∨ kd = 26 := by omega
  have HL := Lib.hid (levelOf_any kd h h2 w)
  clear h h2
  rcases hk with rfl | rfl | rfl | rfl | rfl | rfl | rfl | rfl | rfl
  all_goals
    go_enter Tryd.func32, Tryd.ntmps32
    go_wp2_with (go_at_call 42; refine HL.out.mono ?_; rintro e w1 ⟨rfl, hb⟩)
    go_ret
    exact ⟨rfl, hb⟩
end Go.Proofs.YtddeoemkjedonaaDoor
