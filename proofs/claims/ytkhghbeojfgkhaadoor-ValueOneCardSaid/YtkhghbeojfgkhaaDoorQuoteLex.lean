/- The walk of lex.Quote. -/
import Derived.Test.YtkhghbeojfgkhaaDoorRows
import Derived.Test.YtkhghbeojfgkhaaDoorQuotePlain
import Derived.WalkKit
import Derived.WalkSpells
import Derived.WalkLawsBesides
import Derived.Deep.RegionLaw
import Derived.RangeFuncBox
import Derived.Laws.IdiomStrings
import Derived.Lib.Hide
namespace Go.Proofs.YtkhghbeojfgkhaaDoor
open Go.RowKit

theorem isPlain_any (c : UInt8) (w : World) :
    Calls Tryd.prog 39 #[.int .u8 c.toNat] w fun e w' => e = .returned (.bool (decide (32 ≤ c.toNat ∧ c.toNat ≤ 126))) ∧ w = w' := by
  have h := c.toNat_lt
  by_cases h1 : 32 ≤ c.toNat
  · by_cases h2 : c.toNat ≤ 126
    · go_enter Tryd.func39, Tryd.ntmps39
      go_wp2
      go_ret
      exact ⟨by simp [h1, h2]; omega, rfl⟩
    · go_enter Tryd.func39, Tryd.ntmps39
      go_wp2
      go_ret
      exact ⟨by simp [h1, h2]; omega, rfl⟩
  · go_enter Tryd.func39, Tryd.ntmps39
    go_wp2
    go_ret
    exact ⟨by simp [h1], rfl⟩

theorem info5 : (Tryd.prog.info? 5).map (fun i => (i.zero, i.size, i.bytes)) = some (some (.int .u8 0), 1, 1) := by kernel_rfl


/-- the cells of a new block -/
theorem cells_new (w : World) (l : List Value) (t : TypeId) : ∀ j u, l[j]? = some u → (w.alloc (.cells l.toArray t)).cell? ((⟨w.heap.size, 0, none⟩ : Addr).add j) = some u := by
  intro j u h
  have hadd : (⟨w.heap.size, 0, none⟩ : Addr).add j = ⟨w.heap.size, j, none⟩ := by unfold Addr.add; split <;> simp_all
  rw [hadd, cell_of_row _ _ j _ _ _ (heap_alloc_new w _)]
  simpa using h


/-- append to an owned row, as one step of a region that draws its order -/
theorem step_append_mine {P : Program} {ops : Array Oper} {o : Oper} {a : Act} {w : World} {K : Act → World → Prop} {Q : Exit → Act → World → Prop} {E : Prop}
    (hg : o.guard = none) (s x : Operand) (t : TypeId) (hop : o.op = Op.call { callee := Callee.builtin Builtin.append, args := #[s, x], argTypes := #[t, t] })
    (base : Nat) (e : TypeId) (i : TypeInfo) (z : Value) (size bytes : Nat) (ht : P.underlying t = some (.slice e)) (hi : P.info? e = some i) (hz : i.zero = some z)
    (hsize : i.size = size) (hby : i.bytes = bytes) (hzs : z.cells.size = size) (hsz : 0 < size)
    (v : Value) (n : Nat) (xs : List Value) (hs : a.eval s = v) (hown : w.ownsRow base e size v n xs)
    (ad : Addr) (m c : Nat) (news : List Value) (hx : a.eval x = .slice (some ad) m c) (hl : news.length = m * size) (hnews : ∀ j u, news[j]? = some u → w.cell? (ad.add j) = some u) (h1 : ∀ u ∈ news, u.oneCell' = true)
    (h63 : n + m ≤ maxLen) (hbytes : (n + m) * bytes ≤ 140737488355328) (hbase : base ≤ w.heap.size)
    (h : ∀ v' w', w'.ownsRow base e size v' (n + m) (xs ++ news) → w.grownBy w' v.ownBlock → K (a.put o.dst v') w') :
    if Region.wanted o (yielded ops a.tmps) = true then Oper.wp P o a w K Q else E := by
  rw [if_pos (by simp [Region.wanted, hg])]
  exact wp_append_own w s x t hop base e i z size bytes ht hi hz hsize hby hzs hsz v n xs hs hown ad m c news hx hl hnews h1 h63 hbytes hbase (fun v' w' h2 h3 _ => h v' w' h2 h3)

theorem rel_step {s : ByteArray} {k B m : Nat} {e : TypeId} {w wr w1 : World} {q v' : Value} {o : Obj} {P : List UInt8} (hlt : k < s.size) (hP : qPart (s[k]'hlt) = P)
    (hown' : w1.ownsRow B e 1 v' ((qHead (s.data.toList.take k)).length + m) (u8s (qHead (s.data.toList.take k)) ++ u8s P))
    (hbel : Below B w wr) (hgrow : (wr.alloc o).grownBy w1 q.ownBlock) (hown : wr.ownsRow B e 1 q (qHead (s.data.toList.take k)).length (u8s (qHead (s.data.toList.take k)))) (hB : B ≤ w.heap.size := by exact Nat.le_refl _) :
    w1.ownsRow B e 1 v' (qHead (s.data.toList.take (k + 1))).length (u8s (qHead (s.data.toList.take (k + 1)))) ∧ Below B w w1 := by
  have hl : k < s.data.toList.length := by simpa using hlt
  have e1 : qHead (s.data.toList.take (k + 1)) = qHead (s.data.toList.take k) ++ P := by
    rw [take_snoc _ _ hl, qHead_snoc]
    congr 1
  have hz := hbel.size
  have hm : m = P.length := by
    have := hown'.1
    simp [u8s_length] at this
    omega
  subst hm
  refine ⟨by rw [e1, u8s_append, List.length_append]; exact hown', ?_⟩
  exact (hbel.alloc (by omega) o).grown hgrow (by simp; omega) (fun b hb => (hown.lt b hb).1)

/-- 'string(b)' of an owned row of bytes -/
theorem owned_text {P : Program} {w : World} {base g cap n src dst e : Nat} {l : List UInt8} (hown : w.ownsRow base e 1 (.slice (some ⟨g, 0, none⟩) n cap) n (u8s l))
    (hs : P.underlying src = some (.slice e)) (he : P.underlying e = some (.int .u8)) (hd : P.underlying dst = some .string) :
    (convert src dst (.slice (some ⟨g, 0, none⟩) n cap)).run P w = .ok (.string ⟨l.toArray⟩) w := by
  have hn : l.length = n := by have := hown.1; simp [u8s_length] at this; exact this
  subst hn
  refine run_convert_bytes_back w src dst e _ cap l hs he hd (fun j hj => hown.cells rfl j _ ?_)
  simp [u8s, hj]

set_option maxRecDepth 100000 in
set_option maxHeartbeats 400000 in
theorem quote_any (s : ByteArray) (w : World) (hs : s.size ≤ 256) :
    Calls Tryd.prog 25 #[.string s] w fun e w' => e = .returned (.tuple #[.string ⟨(quoted s.data.toList).toArray⟩, .int .i64 0]) ∧ Below w.heap.size w w' := by
  obtain ⟨i0, hi, hz0, hz1, hz2⟩ := info_parts info5
  go_enter Tryd.func25, Tryd.ntmps25
  go_wp2
  go_loopw [4, 13] (fun q i wr => ∃ k : Nat, k ≤ s.size ∧ i = .int .i64 k ∧ wr.ownsRow w.heap.size 5 1 q (qHead (s.data.toList.take k)).length (u8s (qHead (s.data.toList.take k))) ∧ Below w.heap.size w wr)
    (fun _ i _ => s.size - (intOf i).toNat)
  case atStart =>
    refine ⟨0, Nat.zero_le _, rfl, ?_, (Below.refl _ _).alloc (Nat.le_refl _) _⟩
    exact ⟨by simp [u8s_length], .inr ⟨w.heap.size, 1, _, rfl, Nat.le_refl _, heap_alloc_new w _, by simp [qHead], by unfold maxLen; omega, rfl, by simp [qHead, u8s]⟩⟩
  case round =>
    obtain ⟨k, hk, rfl, hown, hbel⟩ := hrel
    have hz := hbel.size
    have hql : (qHead (s.data.toList.take k)).length ≤ 1100 := by
      have := qHead_le (s.data.toList.take k)
      have : (s.data.toList.take k).length ≤ k := List.length_take_le _ _
      omega
    by_cases hlt : k < s.size
    · have hcl := (s[k]'hlt).toNat_lt
      by_cases h1 : (s[k]'hlt).toNat = 34 ∨ (s[k]'hlt).toNat = 92
      · have H1 : Hid ((s[k]'hlt).toNat = 34 ∨ (s[k]'hlt).toNat = 92) := h1
        by_cases h4 : (s[k]'hlt).toNat = 34
        · have hb1 : (((s[k]'hlt).toNat : Int) == 34) = true := by simp; omega
          clear h1 h4
          go_wp2_with (at_builtin; refine wpList_append_own _ rfl _ _ 22 rfl w.heap.size 5 i0 (.int .u8 0) 1 1 Tryd.underlying22 hi hz0 hz1 hz2 rfl (by decide) _ _ _ rfl (hown.alloc _) ⟨wr.heap.size, 0, none⟩ 2 2 (u8s [92, s[k]'hlt]) rfl rfl (cells_new _ _ _) (u8s_one _) (by unfold maxLen; omega) (by omega) (by simp; omega) ?_)
          intro v' w1 hown' hgrow _
          have R := rel_step (B := w.heap.size) hlt (qPart_esc _ H1.out) hown' hbel hgrow hown
          clear hown' hgrow hown hbel
          go_wp2
          go_roundw
          case rel => exact ⟨k + 1, by omega, by go_num, R.1, R.2⟩
          case measure => simp [intOf]; omega
        · have hb1 : (((s[k]'hlt).toNat : Int) == 34) = false := by simp; omega
          have hb2 : (((s[k]'hlt).toNat : Int) == 92) = true := by simp; omega
          clear h1 h4
          go_wp2_with (at_builtin; refine wpList_append_own _ rfl _ _ 22 rfl w.heap.size 5 i0 (.int .u8 0) 1 1 Tryd.underlying22 hi hz0 hz1 hz2 rfl (by decide) _ _ _ rfl (hown.alloc _) ⟨wr.heap.size, 0, none⟩ 2 2 (u8s [92, s[k]'hlt]) rfl rfl (cells_new _ _ _) (u8s_one _) (by unfold maxLen; omega) (by omega) (by simp; omega) ?_)
          intro v' w1 hown' hgrow _
          have R := rel_step (B := w.heap.size) hlt (qPart_esc _ H1.out) hown' hbel hgrow hown
          clear hown' hgrow hown hbel
          go_wp2
          go_roundw
          case rel => exact ⟨k + 1, by omega, by go_num, R.1, R.2⟩
          case measure => simp [intOf]; omega
      · have hb1 : (((s[k]'hlt).toNat : Int) == 34) = false := by simp; omega
        have hb2 : (((s[k]'hlt).toNat : Int) == 92) = false := by simp; omega
        have H1 : Hid (¬ ((s[k]'hlt).toNat = 34 ∨ (s[k]'hlt).toNat = 92)) := h1
        clear h1
        by_cases h2 : 32 ≤ (s[k]'hlt).toNat ∧ (s[k]'hlt).toNat ≤ 126
        · have h3 : decide (32 ≤ (s[k]'hlt).toNat ∧ (s[k]'hlt).toNat ≤ 126) = true := by simpa using h2
          have H2 : Hid (32 ≤ (s[k]'hlt).toNat ∧ (s[k]'hlt).toNat ≤ 126) := h2
          clear h2
          go_wp2_with (first | (go_at_call 39; refine (isPlain_any _ _).mono ?_; rintro e w' ⟨rfl, rfl⟩; rw [h3]) | (at_builtin; refine wpList_append_own _ rfl _ _ 22 rfl w.heap.size 5 i0 (.int .u8 0) 1 1 Tryd.underlying22 hi hz0 hz1 hz2 rfl (by decide) _ _ _ rfl (hown.alloc _) ⟨wr.heap.size, 0, none⟩ 1 1 (u8s [s[k]'hlt]) rfl rfl (cells_new _ _ _) (u8s_one _) (by unfold maxLen; omega) (by omega) (by simp; omega) ?_))
          intro v' w1 hown' hgrow _
          have R := rel_step (B := w.heap.size) hlt (qPart_plain _ H1.out H2.out) hown' hbel hgrow hown
          clear hown' hgrow hown hbel
          go_wp2
          go_roundw
          case rel => exact ⟨k + 1, by omega, by go_num, R.1, R.2⟩
          case measure => simp [intOf]; omega
        · have h3 : decide (32 ≤ (s[k]'hlt).toNat ∧ (s[k]'hlt).toNat ≤ 126) = false := by simpa using h2
          have H2 : Hid (¬ (32 ≤ (s[k]'hlt).toNat ∧ (s[k]'hlt).toNat ≤ 126)) := h2
          clear h2
          go_wp2_with (go_at_call 39; refine (isPlain_any _ _).mono ?_; rintro e w' ⟨rfl, rfl⟩; rw [h3])
          have b1 : (0 : Int) ≤ ((s[k]'hlt).toNat : Int) / 16 := by omega
          have b2 : ((s[k]'hlt).toNat : Int) / 16 < 16 := by omega
          have b3 : (0 : Int) ≤ ((s[k]'hlt).toNat : Int) % 16 := by omega
          have b4 : ((s[k]'hlt).toNat : Int) % 16 < 16 := by omega
          have a1 := and15 (s[k]'hlt).toNat hcl
          have x1 := hexAtInt (((s[k]'hlt).toNat : Int) / 16) ((s[k]'hlt).toNat / 16) (by omega) (by omega)
          have x2 := hexAtInt (((s[k]'hlt).toNat : Int) % 16) ((s[k]'hlt).toNat % 16) (by omega) (by omega)
          go_region_law ((refine step_append_mine rfl (.tmp 19) (.tmp 26) 22 rfl w.heap.size 5 i0 (.int .u8 0) 1 1 Tryd.underlying22 hi hz0 hz1 hz2 rfl (by decide) u4 _ _ rfl (hown.drew.alloc _) ⟨wr.heap.size, 0, none⟩ 4 4 (u8s [92, 120, hexDigit ((s[k]'hlt).toNat / 16), hexDigit ((s[k]'hlt).toNat % 16)]) rfl rfl (cells_new _ _ _) (u8s_one _) (by unfold maxLen; omega) (by omega) (by simp; omega) ?_; intro v' w1 hown' hgrow))
          all_goals
            have hgrow' : (wr.alloc (.cells (u8s [92, 120, hexDigit ((s[k]'hlt).toNat / 16), hexDigit ((s[k]'hlt).toNat % 16)]).toArray 5)).grownBy w1 u4.ownBlock := ⟨hgrow.os, hgrow.tape, hgrow.output, hgrow.size, hgrow.block⟩
            have R := rel_step (B := w.heap.size) hlt (qPart_hex _ H1.out H2.out) hown' hbel hgrow' hown
            clear hown' hgrow hgrow' hown hbel x1 x2 a1
            go_wp2
            go_roundw
            case rel => exact ⟨k + 1, by omega, by go_num, R.1, R.2⟩
            case measure => simp [intOf]; omega
    · go_wp2_with (at_builtin; refine wpList_append_own _ rfl _ _ 22 rfl w.heap.size 5 i0 (.int .u8 0) 1 1 Tryd.underlying22 hi hz0 hz1 hz2 rfl (by decide) _ _ _ rfl (hown.alloc _) ⟨wr.heap.size, 0, none⟩ 1 1 (u8s [34]) rfl rfl (cells_new _ _ _) (u8s_one _) (by unfold maxLen; omega) (by omega) (by simp; omega) ?_)
      intro v' w1 hown' hgrow _
      have hk2 : s.data.toList.take k = s.data.toList := List.take_of_length_le (by simp; omega)
      rw [hk2, show u8s (qHead s.data.toList) ++ u8s [34] = u8s (quoted s.data.toList) from by simp [quoted, u8s_append]] at hown'
      have hb1 : Below w.heap.size w w1 := (hbel.alloc hz _).grown hgrow (by simp; omega) (fun b hb => (hown.lt b hb).1)
      obtain ⟨g, cap, rfl⟩ := ownsRow_succ hown'
      have hcv := owned_text hown' Tryd.underlying22 Tryd.underlying5 Tryd.underlying9
      clear hown' hgrow hown hbel
      go_wp2
      go_ret2
      exact ⟨rfl, hb1⟩
theorem quote_long (s : ByteArray) (w : World) (hs : 256 < s.size) :
    Calls Tryd.prog 25 #[.string s] w fun e w' => e = .returned (.tuple #[.string ⟨#[]⟩, .int .i64 3]) ∧ w = w' := by
  go_enter Tryd.func25, Tryd.ntmps25
  go_wp2
  go_ret2
  exact ⟨rfl, rfl⟩
end Go.Proofs.YtkhghbeojfgkhaaDoor
