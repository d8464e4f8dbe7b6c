/- The calls that the statements begin with. -/
import Derived.Test.YtkhghbeojfgkhaaDoorRows
import Derived.Test.YtkhghbeojfgkhaaDoorScan
import Derived.Test.YtkhghbeojfgkhaaDoorFloat
import Derived.Test.YtkhghbeojfgkhaaDoorTextWalks
import Derived.Lib.SlBytesConst
namespace Go.Proofs.YtkhghbeojfgkhaaDoor
open Go.RowKit Go.Shelf
set_option maxRecDepth 100000

theorem Scan_any (a : Option Addr) (n cap : Nat) (l : List UInt8) (w : World) (hT : Txt w a n cap l) (hG : Glob w) :
    Calls Tryd.prog 8 #[.slice a n cap] w fun e W' => Below w.heap.size w W' ∧
      ((∃ v, e = .returned (.tuple #[v, .int .i64 0, .int .i64 0]) ∧ (∀ x ∈ allF l, x.2 = 0) ∧ W'.ownsRow w.heap.size 40 6 v (allF l).length (flatT (allF l))) ∨
       (∃ p x r, allF l = p ++ x :: r ∧ (∀ y ∈ p, y.2 = 0) ∧ x.2 ≠ 0 ∧ e = .returned (.tuple #[.slice none 0 0, .int .i64 x.1.at_, .int .i64 x.2]))) :=
  (callsIn_wide (n := 3)).1 (Scan_in 3 a n cap l w (Nat.le_refl _) ldexpSaid hT hG)

/-- where all is well / where something is wrong first -/
theorem Scan_ok (a : Option Addr) (n cap : Nat) (l : List UInt8) (w : World) (hT : Txt w a n cap l) (hG : Glob w) (h : ∀ x ∈ allF l, x.2 = 0) :
    Calls Tryd.prog 8 #[.slice a n cap] w fun e W' => ∃ v, e = .returned (.tuple #[v, .int .i64 0, .int .i64 0]) ∧ W'.ownsRow w.heap.size 40 6 v (allF l).length (flatT (allF l)) ∧ Below w.heap.size w W' := by
  refine (Scan_any a n cap l w hT hG).mono ?_
  rintro e W' ⟨hb, ⟨v, he, _, hr⟩ | ⟨p, x, r, h1, _, h3, _⟩⟩
  · exact ⟨v, he, hr, hb⟩
  · exact absurd (h x (by rw [h1]; simp)) h3
theorem firstBad {p q r s : List (Tok × Nat)} {x y : Tok × Nat} (h : p ++ x :: r = q ++ y :: s) (hp : ∀ z ∈ p, z.2 = 0) (hq : ∀ z ∈ q, z.2 = 0) (hx : x.2 ≠ 0) (hy : y.2 ≠ 0) : x = y := by
  induction p generalizing q with
  | nil =>
    cases q with
    | nil => simp at h; exact h.1
    | cons z q => simp at h; exact absurd (hq z (by simp)) (h.1 ▸ hx)
  | cons z p ih =>
    cases q with
    | nil => simp at h; exact absurd (hp z (by simp)) (h.1 ▸ hy)
    | cons u q =>
      simp at h
      exact ih h.2 (fun z hz => hp z (List.mem_cons_of_mem _ hz)) (fun z hz => hq z (List.mem_cons_of_mem _ hz))
theorem Scan_bad (a : Option Addr) (n cap : Nat) (l : List UInt8) (w : World) (hT : Txt w a n cap l) (hG : Glob w) (p r : List (Tok × Nat)) (x : Tok × Nat) (h : allF l = p ++ x :: r) (hp : ∀ y ∈ p, y.2 = 0) (hx : x.2 ≠ 0) :
    Calls Tryd.prog 8 #[.slice a n cap] w fun e W' => e = .returned (.tuple #[.slice none 0 0, .int .i64 x.1.at_, .int .i64 x.2]) ∧ Below w.heap.size w W' := by
  refine (Scan_any a n cap l w hT hG).mono ?_
  rintro e W' ⟨hb, ⟨v, he, h2, hr⟩ | ⟨q, y, s, h1, h2, h3, he⟩⟩
  · exact absurd (h2 x (by rw [h]; simp)) hx
  · rw [firstBad (h.symm.trans h1) hp h2 hx h3]
    exact ⟨he, hb⟩

def text1 : List UInt8 := [97, 49, 32, 53, 112, 45, 49, 45, 62]
def text2 : List UInt8 := [97, 32, 48, 55]
def toks1 : List (Tok × Nat) := [(⟨1, [97, 49], 0, 0, 0, 2⟩, 0), (⟨3, [], 0, 4612811918334230528, 3, 4⟩, 0), (⟨5, [45, 62], 0, 0, 7, 2⟩, 0)]
theorem all1 : allF text1 = toks1 := by decide +kernel
theorem all2 : allF text2 = [(⟨1, [97], 0, 0, 0, 1⟩, 0), (⟨0, [], 0, 0, 2, 0⟩, 12)] := by decide +kernel

theorem all2b : allF text2 = [(⟨1, [97], 0, 0, 0, 1⟩, 0)] ++ (⟨0, [], 0, 0, 2, 0⟩, 12) :: [] := all2
def bytesV (l : List UInt8) : List Value := l.map fun b => Value.int .u8 (b.toNat : Int)
theorem txt_marked (w : World) (l : List UInt8) (t : TypeId) (fr : Nat × Nat) (hl : l.length ≤ maxLen) : Txt (w.alloc (.cells (bytesV l).toArray t fr)) (some ⟨w.heap.size, 0, none⟩) l.length l.length l := by
  refine ⟨rfl, Nat.le_refl _, hl, .inr ⟨_, rfl, fun i hi => ?_⟩⟩
  have : (w.alloc (.cells (bytesV l).toArray t fr)).heap[w.heap.size]? = some (.cells (bytesV l).toArray t fr) := heap_alloc_new w _
  have e1 : (⟨w.heap.size, 0, none⟩ : Addr).add i = ⟨w.heap.size, i, none⟩ := by unfold Addr.add; simp; intro h; exact h.symm
  rw [e1]
  unfold World.cell?
  simp only [this]
  simp [bytesV, hi]

theorem quote_a (w : World) : Calls Tryd.prog 25 #[.string ⟨#[97, 10]⟩] w fun e w' => e = .returned (.tuple #[.string ⟨#[34, 97, 92, 120, 48, 97, 34]⟩, .int .i64 0]) ∧ Below w.heap.size w w' := by
  have h := quote_any ⟨#[97, 10]⟩ w (by decide)
  have e : quoted (ByteArray.mk #[97, 10]).data.toList = [34, 97, 92, 120, 48, 97, 34] := by decide +kernel
  rw [e] at h
  exact h
set_option maxHeartbeats 2000000 in
theorem awake_any (w : World) (hG : Glob w) : Calls Tryd.prog 15 #[] w fun e w' => e = .returned (.bool true) ∧ Below w.heap.size w w' := by
  have kc := fun (w : World) (C : Array Value) (n c : Nat) => Lib.run_convert_bytes_const (P := Tryd.prog) w 22 5 C n c Tryd.underlying22 Tryd.underlying5
  have HG := Lib.hid hG
  clear hG
  obtain ⟨w1, hw1⟩ : ∃ w1, w1 = w.alloc (.cells (bytesV text1).toArray 5 (9, 10)) := ⟨_, rfl⟩
  have hT1 : Txt w1 (some ⟨w.heap.size, 0, none⟩) 9 9 text1 := by rw [hw1]; exact txt_marked w text1 _ _ (by decide)
  have hB1 : Below w.heap.size w w1 := by rw [hw1]; exact (Below.refl _ w).alloc (Nat.le_refl _) _
  have hs1 := Scan_ok _ 9 9 text1 w1 hT1 (HG.out.below hB1 (Nat.le_refl _)) (by rw [all1]; decide)
  rw [all1] at hs1
  have HS1 := Lib.hid hs1
  have HB1 := Lib.hid hB1
  have he1 : w.alloc (.cells #[.int .u8 97, .int .u8 49, .int .u8 32, .int .u8 53, .int .u8 112, .int .u8 45, .int .u8 49, .int .u8 45, .int .u8 62] 5 (9, 10)) = w1 := by rw [hw1]; rfl
  have HE1 := Lib.hid he1
  clear hs1 hw1 hT1 hB1 he1
  go_enter Tryd.func15, Tryd.ntmps15
  go_wp2_with fail
  rw [HE1.out]
  refine HS1.out.mono ?_
  rintro e w2 ⟨v, rfl, hr, hb2⟩
  obtain ⟨g, cap, rfl⟩ := ownsRow_succ (k := 2) hr
  have hbw2 : Below w.heap.size w w2 := HB1.out.trans (hb2.mono HB1.out.size)
  have hcell : ∀ j u, (flatT toks1)[j]? = some u → w2.cell? ⟨g, j, none⟩ = some u := fun j u hj => by
    have hlt : j < (flatT toks1).length := (List.getElem?_eq_some_iff.1 hj).1
    rw [hr.cellAt j (by rw [hr.1] at hlt; exact hlt)]; exact hj
  have hg2 := (hr.lt g rfl).2
  obtain ⟨w3, hw3⟩ : ∃ w3, w3 = w2.alloc (.cells (bytesV text2).toArray 5 (4, 5)) := ⟨_, rfl⟩
  have hT3 : Txt w3 (some ⟨w2.heap.size, 0, none⟩) 4 4 text2 := by rw [hw3]; exact txt_marked w2 text2 _ _ (by decide)
  have hB3 : Below w2.heap.size w2 w3 := by rw [hw3]; exact (Below.refl _ w2).alloc (Nat.le_refl _) _
  have he3 : w2.alloc (.cells #[.int .u8 97, .int .u8 32, .int .u8 48, .int .u8 55] 5 (4, 5)) = w3 := by rw [hw3]; rfl
  have hs3 := Scan_bad _ 4 4 text2 w3 hT3 ((HG.out.below hbw2 (Nat.le_refl _)).below hB3 (Nat.le_refl _)) _ [] _ all2b (by decide) (by decide)
  have HS3 := Lib.hid hs3
  have HB3 := Lib.hid hB3
  have HE3 := Lib.hid he3
  have HBW2 := Lib.hid hbw2
  have HC := Lib.hid hcell
  clear hs3 hB3 he3 hbw2 hcell hT3 hw3 hr hb2
  go_wp2_with fail
  rw [HE3.out]
  refine HS3.out.mono ?_
  rintro e w4 ⟨rfl, hb4⟩
  have hb24 : Below w2.heap.size w2 w4 := HB3.out.trans (hb4.mono HB3.out.size)
  have HB24 := Lib.hid hb24
  clear hb4 hb24
  go_wp2_with fail
  refine (quote_a w4).mono ?_
  rintro e w5 ⟨rfl, hb5⟩
  have hb25 : Below w2.heap.size w2 w5 := HB24.out.trans (hb5.mono HB24.out.size)
  have hbw5 : Below w.heap.size w w5 := HBW2.out.trans (hb25.mono HBW2.out.size)
  have cc : ∀ j u, (flatT toks1)[j]? = some u → w5.cell? ⟨g, j, none⟩ = some u := fun j u hj => (hb25.cell (p := ⟨g, j, none⟩) hg2).trans (HC.out j u hj)
  have c0 := cc 0 _ rfl
  have c1 := cc 1 _ rfl
  have c6 := cc 6 _ rfl
  have c9 := cc 9 _ rfl
  have c13 := cc 13 _ rfl
  have c16 := cc 16 _ rfl
  have HBW5 := Lib.hid hbw5
  clear hb5 hb25 hbw5 cc
  have ho : FloatKind.f64.format.order 4612811918334230528 4612811918334230528 = some Ordering.eq := by decide
  go_wp2_with fail
  go_ret
  exact ⟨rfl, HBW5.out⟩
end Go.Proofs.YtkhghbeojfgkhaaDoor
