/- LexQuotes. -/
import Derived.Test.YtiemifaiamcklaaDoorRows
import Derived.Test.YtiemifaiamcklaaDoorAwake
import Derived.Test.YtiemifaiamcklaaDoorQuotesPlain
import Derived.Laws.IdiomStrings
namespace Go.Proofs.YtiemifaiamcklaaDoor
open Go.RowKit Go.Shelf
set_option maxRecDepth 100000

theorem flatT_len (xs : List (Tok × Nat)) : (flatT xs).length = xs.length * 6 := by
  induction xs with
  | nil => rfl
  | cons x xs ih => simp only [flatT, List.flatMap_cons, List.length_append] at ih ⊢; rw [ih]; simp [tokCells]; omega
theorem flatT_at : ∀ (xs : List (Tok × Nat)) (k j : Nat) (x : Tok × Nat), xs[k]? = some x → j < 6 → (flatT xs)[k * 6 + j]? = (tokCells x.1)[j]?
  | [], k, j, x, h, _ => by simp at h
  | y :: xs, 0, j, x, h, hj => by
    simp at h
    subst h
    show (tokCells y.1 ++ flatT xs)[0 * 6 + j]? = _
    rw [Nat.zero_mul, Nat.zero_add, List.getElem?_append_left (by simp [tokCells]; omega)]
  | y :: xs, k + 1, j, x, h, hj => by
    simp at h
    show (tokCells y.1 ++ flatT xs)[(k + 1) * 6 + j]? = _
    rw [List.getElem?_append_right (by simp [tokCells]; omega)]
    have e : (k + 1) * 6 + j - (tokCells y.1).length = k * 6 + j := by simp [tokCells]; omega
    rw [e]
    exact flatT_at xs k j x h hj
theorem size_list (s : ByteArray) : s.data.toList.length = s.size := Array.length_toList
theorem text_bytes (s : ByteArray) (w : World) (h : s.size ≤ maxLen) : ∃ c w', (convert 9 22 (.string s)).run Tryd.prog w = .ok (.slice (some ⟨w.heap.size, 0, none⟩) s.size c) w' ∧ Txt w' (some ⟨w.heap.size, 0, none⟩) s.size c s.data.toList ∧ Below w.heap.size w w' := by
  refine ⟨_, _, run_bytes_of_string w 9 22 5 s Tryd.underlying9 Tryd.underlying22 Tryd.underlying5, ?_, ((Below.refl _ w).drew).alloc (Nat.le_refl _) _⟩
  refine ⟨size_list s, grownCap_ge _ _ _ _, grownCap_le_maxLen _ _ _ _ h, .inr ⟨_, rfl, fun i hi => ?_⟩⟩
  have hi' : i < s.data.size := by simpa using hi
  have e1 : (⟨w.heap.size, 0, none⟩ : Addr).add i = ⟨w.heap.size, i, none⟩ := by unfold Addr.add; simp; intro h; exact h.symm
  have e2 := bytesRow_at s (grownCap w s.size 0 5) i hi'
  rw [e1]
  have e3 := heap_alloc_new w.drew (.cells (bytesRow s (grownCap w s.size 0 5)) 5 ((bytesRow s (grownCap w s.size 0 5)).size, (bytesRow s (grownCap w s.size 0 5)).size + 1))
  unfold World.cell?
  rw [show w.heap.size = w.drew.heap.size from rfl]
  simp only [e3]
  rw [e2]
  simp

set_option maxHeartbeats 2000000 in
theorem quotes_walk (s : ByteArray) (a : Option Addr) (n cap : Nat) (l : List UInt8) (w : World) (hG : Glob w) (ht : Txt w a n cap l) (hr : n ≤ 140737488351232) :
    Calls Tryd.prog 7 #[.string s, .slice a n cap] w fun e w' => e = .returned (.bool true) ∧ Below w.heap.size w w' := by
  have HT := Lib.hid ht
  have HG := Lib.hid hG
  clear ht hG
  rcases Nat.lt_or_ge 256 s.size with hs | hs
  · go_enter Tryd.func7, Tryd.ntmps7
    go_wp2_with fail
    refine (awake_any w HG.out).mono ?_
    rintro e w1 ⟨rfl, hb1⟩
    have HB1 := Lib.hid hb1
    clear hb1
    go_wp2_with fail
    refine (quote_long s w1 hs).mono ?_
    rintro e w2 ⟨rfl, rfl⟩
    go_wp2_with fail
    go_ret
    exact ⟨rfl, HB1.out⟩
  · have hs' : ¬ 256 < s.size := by omega
    go_enter Tryd.func7, Tryd.ntmps7
    go_wp2_with fail
    refine (awake_any w HG.out).mono ?_
    rintro e w1 ⟨rfl, hb1⟩
    have HB1 := Lib.hid hb1
    clear hb1
    go_wp2_with fail
    obtain ⟨qs, hqs⟩ : ∃ qs : ByteArray, qs = ⟨(quoted s.data.toList).toArray⟩ := ⟨_, rfl⟩
    have hqd : qs.data.toList = quoted s.data.toList := by rw [hqs]
    have hqn : qs.size = (quoted s.data.toList).length := by rw [← hqd, size_list]
    have hq1 := quote_any s w1 hs
    rw [← hqs] at hq1
    have hall := scan_quoted s.data.toList (by rw [size_list]; exact hs)
    rw [← hqn, ← hqd] at hall
    have hqm : qs.size ≤ 1026 := by
      rw [hqn]
      have := flat_le s.data.toList
      have e : (quoted s.data.toList).length = (s.data.toList.flatMap qPart).length + 2 := by unfold quoted qHead; simp
      have := size_list s
      omega
    have HALL := Lib.hid hall
    clear hqs hqd hqn hall
    refine hq1.mono ?_
    rintro e w2 ⟨rfl, hb2⟩
    obtain ⟨qc, w3, hcv, hT3, hb3⟩ := text_bytes qs w2 (Nat.le_trans hqm (by decide))
    have hbw2 : Below w.heap.size w w2 := HB1.out.trans (hb2.mono HB1.out.size)
    have hbw3 : Below w.heap.size w w3 := hbw2.trans (hb3.mono hbw2.size)
    have hs3 := Scan_ok _ _ _ _ w3 hT3 (HG.out.below hbw3 (Nat.le_refl _)) (by rw [HALL.out]; simp)
    rw [HALL.out] at hs3
    have HS3 := Lib.hid hs3
    have HBW3 := Lib.hid hbw3
    clear hq1 hb2 hT3 hb3 hbw2 hbw3 hs3
    go_wp2_with fail
    refine HS3.out.mono ?_
    rintro e w4 ⟨v, rfl, hr4, hb4⟩
    obtain ⟨g, vc, rfl⟩ := ownsRow_succ (k := 0) hr4
    have hbw4 : Below w.heap.size w w4 := HBW3.out.trans (hb4.mono HBW3.out.size)
    have cc : ∀ j u, (flatT [((⟨4, s.data.toList, 0, 0, 0, qs.size⟩ : Tok), 0)])[j]? = some u → w4.cell? ⟨g, j, none⟩ = some u := fun j u hj => by
      have hlt : j < (flatT [((⟨4, s.data.toList, 0, 0, 0, qs.size⟩ : Tok), 0)]).length := (List.getElem?_eq_some_iff.1 hj).1
      rw [hr4.cellAt j (by rw [hr4.1] at hlt; exact hlt)]; exact hj
    have c0 := cc 0 _ rfl
    have c5 := cc 5 _ rfl
    have hss : (⟨s.data.toList.toArray⟩ : ByteArray) = s := by simp
    have c1 : w4.cell? ⟨g, 1, none⟩ = some (.string s) := by rw [← hss]; exact cc 1 _ rfl
    clear hss
    have HBW4 := Lib.hid hbw4
    clear cc hr4 hb4 hbw4 hcv
    go_wp2_with fail
    have hl := HT.out.1
    refine (lent_any a n cap l w4 (HT.out.below HBW4.out (Nat.le_refl _)) hr).mono ?_
    rintro e w5 ⟨g2, c2, rfl, hc2, hg2, hown2, hb5⟩
    have hcm2 : c2 ≤ maxLen := by
      rcases hown2.2 with ⟨h, _⟩ | ⟨_, _, _, he, _, _, _, h, _⟩
      · cases h
      · cases he; exact h
    have hT5 : Txt w5 (some ⟨g2, 0, none⟩) n c2 l := ⟨hl, by omega, hcm2, .inr ⟨_, rfl, (At.owned hown2).left⟩⟩
    have hbw5 : Below w.heap.size w w5 := HBW4.out.trans (hb5.mono HBW4.out.size)
    have HT5 := Lib.hid hT5
    have HBW5 := Lib.hid hbw5
    have HL := Lib.hid hl
    clear hT5 hbw5 hown2 hb5 hl c0 c1 c5
    go_wp2_with fail
    refine (Scan_any _ _ _ _ w5 HT5.out (HG.out.below HBW5.out (Nat.le_refl _))).mono ?_
    rintro e w6 ⟨hb6, ⟨v, rfl, hz, hr6⟩ | ⟨p, x, r, h1, h2, h3, rfl⟩⟩
    · have hbw6 : Below w.heap.size w w6 := HBW5.out.trans (hb6.mono HBW5.out.size)
      obtain ⟨va, vc2, hv⟩ : ∃ va vc2, v = .slice va (allF l).length vc2 := by
        rcases hr6.2 with ⟨rfl, h0⟩ | ⟨g, cap, cur, rfl, _⟩
        · exact ⟨none, 0, by rw [h0]⟩
        · exact ⟨_, _, rfl⟩
      subst hv
      have HR6 := Lib.hid hr6
      have HBW6 := Lib.hid hbw6
      have HZ := Lib.hid hz
      clear hr6 hbw6 hb6 hz
      go_wp2_with fail
      go_loopw [13] (fun i wr => ∃ k : Nat, i = .int .i64 k ∧ k ≤ (allF l).length ∧ Below w6.heap.size w6 wr)
        (fun i _ => (allF l).length - (intOf i).toNat)
      case atStart => exact ⟨0, rfl, Nat.zero_le _, Below.refl _ _⟩
      case round =>
        obtain ⟨k, rfl, hk, hbr⟩ := hrel
        have HBR := Lib.hid hbr
        rcases Nat.lt_or_ge k (allF l).length with hlt | hge
        · obtain ⟨x, hx⟩ : ∃ x, (allF l)[k]? = some x := ⟨_, List.getElem?_eq_getElem hlt⟩
          have hmem : x ∈ allF l := List.mem_of_getElem? hx
          have hx0 := HZ.out x hmem
          have htk := text_token l x hmem hx0
          obtain ⟨gv, rfl⟩ : ∃ gv, va = some ⟨gv, 0, none⟩ := by
            rcases HR6.out.2 with ⟨h, h0⟩ | ⟨g, cap, cur, h, _⟩
            · omega
            · cases h; exact ⟨_, rfl⟩
          have hgv := (HR6.out.lt gv rfl).2
          have cc : ∀ j u, j < 6 → (tokCells x.1)[j]? = some u → wr.cell? ⟨gv, k * 6 + j, none⟩ = some u := fun j u hj hu => by
            rw [hbr.cell (p := ⟨gv, k * 6 + j, none⟩) hgv, HR6.out.cellAt _ (by omega), flatT_at _ k j x hx hj]
            exact hu
          obtain ⟨⟨kd, tx, iv, rl, at_, sz⟩, er⟩ := x
          have c0 : wr.cell? ⟨gv, k * 6, none⟩ = some (.int .i64 kd) := cc 0 _ (by decide) rfl
          have c1 := cc 1 _ (by decide) rfl
          have c2 := cc 2 _ (by decide) rfl
          have c3 := cc 3 _ (by decide) rfl
          have c4 := cc 4 _ (by decide) rfl
          have c5 := cc 5 _ (by decide) rfl
          have sf : ∀ (p : Addr) (b : Nat) (mo : Mode) (w' : World), (store p (.float .f64 b) mo).run Tryd.prog w' = stored Tryd.prog w' p (.float .f64 b) mo := fun p b mo w' => run_store _ w' p _ mo rfl
          have HTK := Lib.hid htk
          clear htk hmem hx0 hx cc hbr
          have hsz := HBR.out.size
          have hlen := allF_len l
          have hbw : Below w.heap.size w wr := HBW6.out.trans (HBR.out.mono HBW6.out.size)
          have HBW := Lib.hid hbw
          clear hbw
          by_cases hkd : kd = 4
          · obtain ⟨q1, q2, q3⟩ := HTK.out hkd
            simp only at q1 q2 q3
            have hq1 : ∀ w, Calls Tryd.prog 21 #[.string ⟨tx.toArray⟩] w fun e w' => e = .returned (.tuple #[.string ⟨(pieceOf l at_ (at_ + sz)).toArray⟩, .int .i64 0]) ∧ Below w.heap.size w w' := fun w => by
              rw [q2]
              exact quote_any ⟨tx.toArray⟩ w q1
            have hT := HT.out.below HBW.out (Nat.le_refl _)
            obtain ⟨a3, hsl, hT3⟩ := slice_mid at_ (at_ + sz) hT (Nat.le_add_right _ _) (by rw [← HL.out]; exact q3)
            have HQ1 := Lib.hid hq1
            have HT3 := Lib.hid hT3
            have hsl' : ∀ w', (Instr.slice 22 (.slice a n cap) (some (.int .i64 (at_ : Int))) (some (.int .i64 ((at_ : Int) + (sz : Int)))) none).run Tryd.prog w' = .ok (.slice a3 (at_ + sz - at_) (cap - at_)) w' := hsl
            rw [Nat.add_sub_cancel_left] at hsl'
            have q4 : at_ + sz ≤ n := by rw [← HL.out]; exact q3
            clear q1 q2 q3 hq1 hT hT3 hsl
            subst hkd
            obtain ⟨w7, hw7⟩ : ∃ w7, w7 = wr.alloc (.cells #[.int .i64 4, .string ⟨tx.toArray⟩, .int .i64 iv, .float .f64 rl, .int .i64 at_, .int .i64 sz] 40) := ⟨_, rfl⟩
            have hb7 : Below wr.heap.size wr w7 := by rw [hw7]; exact (Below.refl _ wr).alloc (Nat.le_refl _) _
            have hz7 : w7.heap.size = wr.heap.size + 1 := by rw [hw7]; simp
            have h7 : w7.heap[wr.heap.size]? = some (.cells #[.int .i64 4, .string ⟨tx.toArray⟩, .int .i64 iv, .float .f64 rl, .int .i64 at_, .int .i64 sz] 40 (0, 0)) := by rw [hw7]; exact heap_alloc_new wr _
            have d4 : w7.cell? ⟨wr.heap.size, 4, none⟩ = some (.int .i64 at_) := by simp [World.cell?, h7]
            have d5 : w7.cell? ⟨wr.heap.size, 5, none⟩ = some (.int .i64 sz) := by simp [World.cell?, h7]
            have HW7 := Lib.hid hw7
            have HB7 := Lib.hid hb7
            have HD4 := Lib.hid d4
            have HD5 := Lib.hid d5
            have HZ7 := Lib.hid hz7
            clear hw7 hb7 d4 d5 h7 hz7
            go_wp2_with fail
            rw [← HW7.out]
            refine (HQ1.out w7).mono ?_
            rintro e w8 ⟨rfl, hb8⟩
            have d4 : w8.cell? ⟨wr.heap.size, 4, none⟩ = some (.int .i64 at_) := (hb8.cell (p := ⟨wr.heap.size, 4, none⟩) (by have := HZ7.out; simp; omega)).trans HD4.out
            have d5 : w8.cell? ⟨wr.heap.size, 5, none⟩ = some (.int .i64 sz) := (hb8.cell (p := ⟨wr.heap.size, 5, none⟩) (by have := HZ7.out; simp; omega)).trans HD5.out
            have hb78 : Below wr.heap.size wr w8 := HB7.out.trans (hb8.mono HB7.out.size)
            have hcv := text_of (HT3.out.below hb78 (Nat.le_refl _))
            have hcv' : (convert 22 9 (.slice a3 (at_ + sz - at_) (cap - at_))).run Tryd.prog w8 = .ok (.string ⟨(pieceOf l at_ (at_ + sz)).toArray⟩) w8 := hcv
            obtain ⟨ps, hps⟩ : ∃ ps : ByteArray, ps = ⟨(pieceOf l at_ (at_ + sz)).toArray⟩ := ⟨_, rfl⟩
            rw [← hps] at hcv' ⊢
            rw [Nat.add_sub_cancel_left] at hcv'
            have HB8 := Lib.hid (HBR.out.trans (hb78.mono hsz))
            clear hb8 hb78 hcv hps
            go_wp2_with fail
            go_roundw
            case rel => exact ⟨k + 1, by go_num, hlt, HB8.out⟩
            case measure => simp [intOf]; omega
          · have hz3 : ((kd : Int) != 4) = true := by rw [bne_iff_ne]; omega
            have hz1 : ((kd : Int) == 4) = false := by rw [beq_eq_false_iff_ne]; omega
            go_wp2_with fail
            go_roundw
            case rel => exact ⟨k + 1, by go_num, hlt, HBR.out.alloc hsz _⟩
            case measure => simp [intOf]; omega
        · obtain rfl : k = (allF l).length := by omega
          have hbw : Below w.heap.size w wr := HBW6.out.trans (HBR.out.mono HBW6.out.size)
          go_wp2_with fail
          go_ret
          exact ⟨rfl, hbw⟩
    · have hbw6 : Below w.heap.size w w6 := HBW5.out.trans (hb6.mono HBW5.out.size)
      have HBW6 := Lib.hid hbw6
      clear hbw6 hb6 h1 h2 h3
      go_wp2_with fail
      go_loopw [13] (fun i wr => i = .int .i64 0 ∧ wr = w6) (fun _ _ => 0)
      case atStart => exact ⟨rfl, rfl⟩
      case round =>
        obtain ⟨rfl, rfl⟩ := hrel
        go_wp2_with fail
        go_ret
        exact ⟨rfl, HBW6.out⟩
end Go.Proofs.YtiemifaiamcklaaDoor
