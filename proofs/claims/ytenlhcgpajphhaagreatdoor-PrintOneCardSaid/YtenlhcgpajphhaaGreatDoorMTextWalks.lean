import Derived.Test.YtenlhcgpajphhaaGreatDoorRows
import Derived.Test.YtenlhcgpajphhaaGreatDoorMQuotePlain
import Derived.WalkKit
import Derived.WalkSpells
import Derived.WalkLawsBesides
import Derived.Lib.Hide
import Derived.Laws.AppendOwnNone
import Derived.Laws.IdiomStrings
import Derived.RangeFuncBox
import Derived.ScopeJumps
import Derived.WalkMore
namespace Go.Proofs.YtenlhcgpajphhaaGreatDoor
open Go.RowKit
set_option linter.all false
theorem q6W:(Tryz.prog.info? 5).map (fun i=>(i.zero,i.size,i.bytes))=some (some (.int .u8 0),1,1):=by kernel_rfl
theorem qy9 (w:World) (l:List Value) (t:TypeId):∀ j u,l[j]?=some u→(w.alloc (.cells l.toArray t)).cell? ((⟨w.heap.size,0,none⟩:Addr).add j)=some u:=by
 intro j u h;have hadd:(⟨w.heap.size,0,none⟩:Addr).add j=⟨w.heap.size,j,none⟩:=by unfold Addr.add;split <;> simp_all
 rw[hadd,cell_of_row _ _ j _ _ _ (heap_alloc_new w _)]
 simpa using h
def Lent (w w':World) (n:Nat) (l:List UInt8) (e:Ending):Prop :=
 ∃ g cap,e=.returned (.slice (some ⟨g,0,none⟩) n cap)∧n+2≤cap∧w.heap.size≤g∧w'.ownsRow w.heap.size 5 1 (.slice (some ⟨g,0,none⟩) (n+2) cap) (n+2) (u8s (l++[201,202]))∧Below w.heap.size w w'
theorem qhV {a:Option Addr} {n cap:Nat} {l:List UInt8} {w:World} (ht:Txt w a n cap l) :
  (convert 22 9 (.slice a n cap)).run Tryz.prog w=.ok (.string ⟨l.toArray⟩) w:=by
 obtain⟨hl,hnc,hm,h4⟩:=ht;rcases h4 with ⟨rfl,rfl,rfl⟩|⟨x,rfl,hx⟩
 ·obtain rfl:l=[]:=List.eq_nil_of_length_eq_zero hl;exact run_convert_bytes_nil w 22 5 Tryz.underlying22 Tryz.underlying5 0 0 9 Tryz.underlying9
 ·subst hl;exact run_convert_bytes_back w 22 9 5 x cap l Tryz.underlying22 Tryz.underlying5 Tryz.underlying9 hx
theorem qrV:Tryz.prog.underlying 22=some (.slice (Tryz.prog.elem 22)):=by
 have h:=Tryz.underlying22;simp[Program.elem,h]
theorem q29:Tryz.prog.elem 22=5:=by
 have h:=Tryz.underlying22;simp[Program.elem,h]
theorem qm2 (a:Addr) (k:Nat) (i:Nat):(a.add k).add i=a.add (k+i):=by
 unfold Addr.add;split <;> split <;> simp_all <;> omega
theorem qu3 {w:World} {a:Option Addr} {n cap:Nat} {l:List UInt8} (k:Nat) (ht:Txt w a n cap l) (hk:k≤n) :
  Txt w (if cap=k then a else a.map (·.add k)) (n-k) (cap-k) (l.drop k):=by
 obtain⟨hl,hnc,hm,h4⟩:=ht;refine⟨by simp;omega,by omega,by omega,?_⟩;rcases h4 with ⟨rfl,h0,h1⟩|⟨x,rfl,hx⟩
 ·left;refine⟨by split <;> rfl,by omega,by omega⟩
 ·right;by_cases hc:cap=k
  ·rw[if_pos hc];refine⟨x,rfl,fun i hi=>?_⟩;simp at hi;omega
  ·rw[if_neg hc];refine⟨x.add k,rfl,fun i hi=>?_⟩;have hi':k+i<l.length:=by simp at hi;omega
   have:=hx (k+i) hi';rw[qm2,this];simp
theorem q3I {w:World} {a:Option Addr} {n cap:Nat} {l:List UInt8} (k:Nat) (ht:Txt w a n cap l) (hk:k≤n):Txt w a k cap (l.take k):=by
 obtain⟨hl,hnc,hm,h4⟩:=ht;refine⟨by simp;omega,by omega,hm,?_⟩;rcases h4 with ⟨rfl,h0,h1⟩|⟨x,rfl,hx⟩
 ·exact .inl ⟨rfl,by omega,h1⟩
 ·exact .inr ⟨x,rfl,hx.take k⟩
theorem q3J (w:World):Txt w none 0 0 []:=⟨rfl,Nat.le_refl _,Nat.zero_le _,.inl ⟨rfl,rfl,rfl⟩⟩
theorem qn4 {w:World} {a:Option Addr} {n cap:Nat} {l:List UInt8} (k:Nat) (ht:Txt w a n cap l) (hk:k≤n) :
  ∃ a',(∀ w',(Instr.slice 22 (.slice a n cap) (some (.int .i64 (k:Int))) none none).run Tryz.prog w'=.ok (.slice a' (n-k) (cap-k)) w')∧Txt w a' (n-k) (cap-k) (l.drop k):=by
 obtain⟨hl,hnc,hm,h4⟩:=ht;refine⟨if cap=k then a else a.map (·.add (k * 1)),fun w'=>?_,?_⟩
 ·rw[run_slice_l w' _ a n cap qrV .i64 k (by omega) (by omega),q29,Tryz.sizeOf5];simp[Result.andThen,sliced]
 ·refine⟨by simp;omega,by omega,by omega,?_⟩;rcases h4 with ⟨rfl,h0,h1⟩|⟨x,rfl,hx⟩
  ·left;refine⟨by split <;> rfl,by omega,by omega⟩
  ·right;by_cases hc:cap=k
   ·rw[if_pos hc];refine⟨x,rfl,fun i hi=>?_⟩;simp at hi;omega
   ·rw[if_neg hc];refine⟨x.add (k * 1),rfl,fun i hi=>?_⟩;have hi':k+i<l.length:=by simp at hi;omega
    have:=hx (k+i) hi';rw[Nat.mul_one,qm2,this];simp
theorem qzI {w:World} {a:Option Addr} {n cap:Nat} {l:List UInt8} (i j:Nat) (ht:Txt w a n cap l) (hij:i≤j) (hj:j≤n) :
  ∃ a',(∀ w',(Instr.slice 22 (.slice a n cap) (some (.int .i64 (i:Int))) (some (.int .i64 (j:Int))) none).run Tryz.prog w'=.ok (.slice a' (j-i) (cap-i)) w')∧Txt w a' (j-i) (cap-i) ((l.drop i).take (j-i)):=by
 obtain⟨hl,hnc,hm,h4⟩:=ht;refine⟨if cap=i then a else a.map (·.add (i * 1)),fun w'=>?_,?_⟩
 ·rw[run_slice_lh w' _ a n cap qrV .i64 .i64 i j (by omega) (by omega) (by omega),q29,Tryz.sizeOf5];simp[Result.andThen,sliced]
 ·refine⟨by simp;omega,by omega,by omega,?_⟩;rcases h4 with ⟨rfl,h0,h1⟩|⟨x,rfl,hx⟩
  ·left;refine⟨by split <;> rfl,by omega,by omega⟩
  ·right;by_cases hc:cap=i
   ·rw[if_pos hc];refine⟨x,rfl,fun m hm'=>?_⟩;simp at hm';omega
   ·rw[if_neg hc];refine⟨x.add (i * 1),rfl,fun m hm'=>?_⟩;have hm2:i+m<l.length:=by simp at hm';omega
    have:=hx (i+m) hm2;rw[Nat.mul_one,qm2,this];simp
theorem qd0 {w:World} {base n c:Nat} {a:Option Addr} {l:List UInt8} (hown:w.ownsRow base 5 1 (.slice a n c) n (u8s l)):Txt w a n c l:=by
 have hl:l.length=n:=by have:=hown.1;simp[qf1] at this;exact this
 rcases hown.2 with ⟨h,h0⟩|⟨g,cap,cur,he,hb,hg,hn,hc,hs,ht⟩
 ·cases h;exact⟨hl,by omega,Nat.zero_le _,.inl ⟨rfl,rfl,rfl⟩⟩
 ·cases he;exact⟨hl,hn,hc,.inr ⟨_,rfl,At.owned hown⟩⟩
open Lib(hid)
set_option maxRecDepth 100000
theorem qc8 (a:Option Addr) (n cap i:Nat) (l:List UInt8) (w:World) (ht:Txt w a n cap l) :
  Calls Tryz.prog 152 #[.slice a n cap,.int .i64 i] w fun e w'=>e=.returned (.int .u8 (bAt l i).toNat)∧w=w':=by
 obtain⟨hl,hnc,hm,h4⟩:=ht;by_cases hi:i<n
 ·rw[qeT (by omega)];rcases h4 with ⟨_,h0,_⟩|⟨x,rfl,hx⟩
  ·omega
  ·obtain⟨b,o,s⟩:=x;obtain⟨rfl,hc⟩:=hx.spot (by omega);have hcell:=hc i (by omega);clear hc hx;subst hl;go_enter Tryz.func152,Tryz.ntmps152;go_wp2;go_ret;exact⟨rfl,rfl⟩
 ·rw[qfG (by omega)];clear h4;go_enter Tryz.func152,Tryz.ntmps152;go_wp2;go_ret;exact⟨rfl,rfl⟩
theorem qa3 (a:Option Addr) (n cap:Nat) (z:Int) (i:Nat) (hz:z=(i:Int)) (l:List UInt8) (w:World) (ht:Txt w a n cap l) :
  Calls Tryz.prog 152 #[.slice a n cap,.int .i64 z] w fun e w'=>e=.returned (.int .u8 (bAt l i).toNat)∧w=w':=by
 subst hz;exact qc8 a n cap i l w ht
theorem ja1 {c:UInt8} {k:Nat} (h:c.toNat≠k) (hk:k<256):(c==UInt8.ofNat k)=false:=by
 rw[beq_eq_false_iff_ne];intro e;apply h;rw[e];simp;omega
theorem ja2 {c:UInt8} {k:Nat} (h:c.toNat=k):(c==UInt8.ofNat k)=true:=by
 rw[beq_iff_eq,← h];simp
theorem qeR {c d:UInt8} (h:c≠d):((c.toNat:Int)==(d.toNat:Int))=false:=by
 rw[beq_eq_false_iff_ne];intro e;exact h (UInt8.toNat_inj.1 (by omega))
theorem qe8 {c d:UInt8} (h:c≠d):((c.toNat:Int) != (d.toNat:Int))=true:=by
 rw[bne_iff_ne];intro e;exact h (UInt8.toNat_inj.1 (by omega))
theorem qaC (c:UInt8) (w:World):Calls Tryz.prog 172 #[.int .u8 c.toNat] w fun e w'=>e=.returned (.bool (qa1 c))∧w=w':=by
 have hc:=c.toNat_lt;unfold qa1;by_cases h1:48≤c.toNat
 ·by_cases h2:c.toNat≤57 <;>
  ·go_enter Tryz.func172,Tryz.ntmps172;go_wp2;go_ret;exact⟨by simp[h1,h2];omega,rfl⟩
 ·go_enter Tryz.func172,Tryz.ntmps172;go_wp2;go_ret;exact⟨by simp[h1],rfl⟩
theorem qbM (c:UInt8) (w:World):Calls Tryz.prog 171 #[.int .u8 c.toNat] w fun e w'=>e=.returned (.bool (qa8 c))∧w=w':=by
 have hc:=c.toNat_lt;have h0:c.toNat<65∨(65≤c.toNat∧c.toNat≤90)∨(90<c.toNat∧c.toNat<97)∨(97≤c.toNat∧c.toNat≤122)∨122<c.toNat:=by omega
 have hb:qa8 c=true∨qa8 c=false:=by cases qa8 c <;> simp
 unfold qa8;rcases h0 with h1|⟨h1,h2⟩|⟨h1,h2⟩|⟨h1,h2⟩|h1
 ·have d1:decide ((65:Int)≤c.toNat)=false:=by simp;omega
  have d2:decide ((97:Int)≤c.toNat)=false:=by simp;omega
  go_enter Tryz.func171,Tryz.ntmps171;go_wp2;go_ret;exact⟨by simp;omega,rfl⟩
 ·have d1:decide ((65:Int)≤c.toNat)=true:=by simp;omega
  have d2:decide ((c.toNat:Int)≤90)=true:=by simp;omega
  go_enter Tryz.func171,Tryz.ntmps171;go_wp2;go_ret;exact⟨by simp;omega,rfl⟩
 ·have d1:decide ((65:Int)≤c.toNat)=true:=by simp;omega
  have d2:decide ((c.toNat:Int)≤90)=false:=by simp;omega
  have d3:decide ((97:Int)≤c.toNat)=false:=by simp;omega
  go_enter Tryz.func171,Tryz.ntmps171;go_wp2;go_ret;exact⟨by simp;omega,rfl⟩
 ·have d1:decide ((65:Int)≤c.toNat)=true:=by simp;omega
  have d2:decide ((c.toNat:Int)≤90)=false:=by simp;omega
  have d3:decide ((97:Int)≤c.toNat)=true:=by simp;omega
  have d4:decide ((c.toNat:Int)≤122)=true:=by simp;omega
  go_enter Tryz.func171,Tryz.ntmps171;go_wp2;go_ret;exact⟨by simp;omega,rfl⟩
 ·have d1:decide ((65:Int)≤c.toNat)=true:=by simp;omega
  have d2:decide ((c.toNat:Int)≤90)=false:=by simp;omega
  have d3:decide ((97:Int)≤c.toNat)=true:=by simp;omega
  have d4:decide ((c.toNat:Int)≤122)=false:=by simp;omega
  go_enter Tryz.func171,Tryz.ntmps171;go_wp2;go_ret;exact⟨by simp;omega,rfl⟩
theorem qb9 (c:UInt8) (w:World):Calls Tryz.prog 170 #[.int .u8 c.toNat] w fun e w'=>e=.returned (.bool (qc6 c))∧w=w':=by
 have f (k:Nat) (hk:k<256):(c==UInt8.ofNat k)=((c.toNat:Int)==(k:Int)):=by
  by_cases h:c.toNat=k
  ·rw[ja2 h,h];simp
  ·rw[ja1 h hk];symm;rw[beq_eq_false_iff_ne];omega
 have f32:=f 32 (by omega);have f9:=f 9 (by omega);have f10:=f 10 (by omega);have f13:=f 13 (by omega);have hB:qc6 c=(((c.toNat:Int)==32) || ((c.toNat:Int)==9) || ((c.toNat:Int)==10) || ((c.toNat:Int)==13)):=by
  unfold qc6;rw[show (32:UInt8)=UInt8.ofNat 32 from rfl,show (9:UInt8)=UInt8.ofNat 9 from rfl,show (10:UInt8)=UInt8.ofNat 10 from rfl,show (13:UInt8)=UInt8.ofNat 13 from rfl,f32,f9,f10,f13];rfl
 clear f f32 f9 f10 f13;rw[hB];clear hB;cases e1:((c.toNat:Int)==32) <;> cases e2:((c.toNat:Int)==9) <;> cases e3:((c.toNat:Int)==10) <;> cases e4:((c.toNat:Int)==13) <;>
 ·go_enter Tryz.func170,Tryz.ntmps170;go_wp2;go_ret;exact⟨rfl,rfl⟩
theorem qcT (c:UInt8) (w:World):Calls Tryz.prog 151 #[.int .u8 c.toNat] w fun e w'=>e=.returned (.bool (qaJ c))∧w=w':=by
 unfold qaJ;have f95:(c==95)=((c.toNat:Int)==95):=by
  by_cases h:c.toNat=95
  ·rw[show (95:UInt8)=UInt8.ofNat 95 from rfl,ja2 h,h];rfl
  ·rw[show (95:UInt8)=UInt8.ofNat 95 from rfl,ja1 h (by omega)];symm;rw[beq_eq_false_iff_ne];omega
 rw[f95];clear f95;have hL:=hid (qbM c w);have hD:=hid (qaC c w);generalize qa8 c=bl at *
 generalize qa1 c=bd at *
 cases bl
 ·cases bd
  ·cases e1:((c.toNat:Int)==95) <;>
   ·go_enter Tryz.func151,Tryz.ntmps151;go_wp2_with (first|(go_at_call 171;refine hL.out.mono ?_;rintro e w' ⟨rfl,rfl⟩)|(go_at_call 172;refine hD.out.mono ?_;rintro e w' ⟨rfl,rfl⟩));go_ret;exact⟨rfl,rfl⟩
  ·go_enter Tryz.func151,Tryz.ntmps151;go_wp2_with (first|(go_at_call 171;refine hL.out.mono ?_;rintro e w' ⟨rfl,rfl⟩)|(go_at_call 172;refine hD.out.mono ?_;rintro e w' ⟨rfl,rfl⟩));go_ret;exact⟨rfl,rfl⟩
 ·go_enter Tryz.func151,Tryz.ntmps151;go_wp2_with (first|(go_at_call 171;refine hL.out.mono ?_;rintro e w' ⟨rfl,rfl⟩)|(go_at_call 172;refine hD.out.mono ?_;rintro e w' ⟨rfl,rfl⟩));go_ret;exact⟨rfl,rfl⟩
end Go.Proofs.YtenlhcgpajphhaaGreatDoor
namespace Go.Proofs.YtenlhcgpajphhaaGreatDoor
open Go
set_option linter.all false
def q9T (J:Nat→Act→World→Prop) (Q:Exit→Act→World→Prop):Exit→Act→World→Prop
 | .goto l,a,w=>J l a w
 | e,a,w=>Q e a w
section
variable {J:Nat→Act→World→Prop} {Q:Exit→Act→World→Prop} {a:Act} {w:World}
theorem qcL:q9T J Q .ret a w=Q .ret a w:=rfl
end
theorem qlA {P:Program} {a:Act} {w:World} {Q:Exit→Act→World→Prop} {c:Code} (J:Nat→Act→World→Prop) (μ:Nat→Act→World→Nat)
  (first:c.wp P (q9T J Q) a w)
  (pass:∀ l a w,J l a w→∃ rest,findLabel c l=some rest∧rest.wp P (q9T (fun l' a' w'=>J l' a' w'∧μ l' a' w'<μ l a w) Q) a w):(Code.scope c).wp P Q a w:=by
 intro b k cs;have key:∀ n l rest a w,findLabel c l=some rest→μ l a w=n→J l a w→∃ e a' w',Q e a' w'∧Arrives P (lone (b.at a (.code rest :: .inScope c :: k)) cs w) b k cs e a' w':=by
  intro n
  induction n using Nat.strongRecOn with
  | _ n ih =>
   intro l rest a w hf hn hJ;obtain⟨rest',hf',hp⟩:=pass l a w hJ;obtain rfl:rest'=rest:=Option.some.inj (hf'.symm.trans hf);obtain⟨e,a₁,w₁,hq,harr⟩:=hp b (.inScope c :: k) cs;cases e with
   | normal=>exact⟨.normal,a₁,w₁,hq,Steps.trans harr (.one step_inScope)⟩
   | exit id=>exact⟨.exit id,a₁,w₁,hq,fun k' hk=>harr k' (by simp[exitTo,hk])⟩
   | goto l' =>
    obtain⟨hJ',hlt⟩:=hq;obtain⟨r2,hr2,_⟩:=pass l' a₁ w₁ hJ';obtain⟨e₂,a₂,w₂,hq₂,harr₂⟩:=ih _ (by omega) l' r2 a₁ w₁ hr2 rfl hJ';exact⟨e₂,a₂,w₂,hq₂,.of_steps (harr _ (by simp[gotoIn,hr2])) harr₂⟩
   | ret=>exact⟨_,a₁,w₁,hq,harr⟩
   | panic ch=>exact⟨_,a₁,w₁,hq,harr⟩
   | outgrown=>exact⟨_,a₁,w₁,hq,harr⟩
 obtain⟨e,a₁,w₁,hq,harr⟩:=first b (.inScope c :: k) cs
 cases e with
 | normal=>exact⟨.normal,a₁,w₁,hq,.head step_scope (Steps.trans harr (.one step_inScope))⟩
 | exit id=>exact⟨.exit id,a₁,w₁,hq,fun k' hk=>.head step_scope (harr k' (by simp[exitTo,hk]))⟩
 | goto l' =>
  have hJ':J l' a₁ w₁:=hq;obtain⟨r2,hr2,_⟩:=pass l' a₁ w₁ hJ';obtain⟨e₂,a₂,w₂,hq₂,harr₂⟩:=key _ l' r2 a₁ w₁ hr2 rfl hJ';exact⟨e₂,a₂,w₂,hq₂,.of_steps (.head step_scope (harr _ (by simp[gotoIn,hr2]))) harr₂⟩
 | ret=>exact⟨_,a₁,w₁,hq,.of_steps (.one step_scope) harr⟩
 | panic ch=>exact⟨_,a₁,w₁,hq,.of_steps (.one step_scope) harr⟩
 | outgrown=>exact⟨_,a₁,w₁,hq,.of_steps (.one step_scope) harr⟩
end Go.Proofs.YtenlhcgpajphhaaGreatDoor
namespace Go.Proofs.YtenlhcgpajphhaaGreatDoor
open Go.RowKit
open Lib(hid)
set_option maxRecDepth 100000
set_option linter.all false
set_option maxHeartbeats 1000000
def jbX (l:List UInt8) (txt:Value) (K A E:Nat) (w0:World) (lab:Nat) (a:Act) (w:World):Prop :=
 ∃ (i at_:Nat) (g:Nat→Value),a={ tmps:=#[txt,.int .i64 (i:Int),g 2,g 3,g 4,.int .i64 (at_:Int),g 6,g 7,g 8,g 9,g 10,g 11,g 12,g 13,g 14,g 15,g 16,g 17,g 18,g 19,g 20,g 21,g 22,g 23,g 24,g 25,g 26,g 27,g 28,g 29,g 30,g 31,g 32,g 33,g 34,g 35,g 36,g 37,g 38,g 39,g 40,g 41,g 42,g 43,g 44,g 45,g 46,g 47,g 48,g 49,g 50,g 51,g 52,g 53,g 54,g 55,g 56,g 57,g 58,g 59,g 60,g 61,g 62,g 63,g 64,g 65,g 66,g 67,g 68,g 69,g 70,g 71,g 72,g 73,g 74,g 75,g 76,g 77,g 78,g 79,g 80,g 81,g 82,g 83,g 84,g 85,g 86,g 87,g 88,g 89,g 90,g 91,g 92,g 93,g 94,g 95,g 96,g 97,g 98,g 99,g 100,g 101,g 102,g 103,g 104,g 105,g 106,g 107,g 108,g 109,g 110,g 111,g 112,g 113,g 114,g 115,g 116,g 117,g 118,g 119,g 120,g 121,g 122,g 123,g 124,g 125,g 126,g 127,g 128],defers:=[] }∧w0=w∧qcN l K A E lab i at_
theorem qaH {l:List UInt8} {txt:Value} {K A E:Nat} {w:World} {lab:Nat} {t:Array Value} (i at_:Nat) (ht:t=#[txt,.int .i64 (i:Int),t.getD 2 undef,t.getD 3 undef,t.getD 4 undef,.int .i64 (at_:Int),t.getD 6 undef,t.getD 7 undef,t.getD 8 undef,t.getD 9 undef,t.getD 10 undef,t.getD 11 undef,t.getD 12 undef,t.getD 13 undef,t.getD 14 undef,t.getD 15 undef,t.getD 16 undef,t.getD 17 undef,t.getD 18 undef,t.getD 19 undef,t.getD 20 undef,t.getD 21 undef,t.getD 22 undef,t.getD 23 undef,t.getD 24 undef,t.getD 25 undef,t.getD 26 undef,t.getD 27 undef,t.getD 28 undef,t.getD 29 undef,t.getD 30 undef,t.getD 31 undef,t.getD 32 undef,t.getD 33 undef,t.getD 34 undef,t.getD 35 undef,t.getD 36 undef,t.getD 37 undef,t.getD 38 undef,t.getD 39 undef,t.getD 40 undef,t.getD 41 undef,t.getD 42 undef,t.getD 43 undef,t.getD 44 undef,t.getD 45 undef,t.getD 46 undef,t.getD 47 undef,t.getD 48 undef,t.getD 49 undef,t.getD 50 undef,t.getD 51 undef,t.getD 52 undef,t.getD 53 undef,t.getD 54 undef,t.getD 55 undef,t.getD 56 undef,t.getD 57 undef,t.getD 58 undef,t.getD 59 undef,t.getD 60 undef,t.getD 61 undef,t.getD 62 undef,t.getD 63 undef,t.getD 64 undef,t.getD 65 undef,t.getD 66 undef,t.getD 67 undef,t.getD 68 undef,t.getD 69 undef,t.getD 70 undef,t.getD 71 undef,t.getD 72 undef,t.getD 73 undef,t.getD 74 undef,t.getD 75 undef,t.getD 76 undef,t.getD 77 undef,t.getD 78 undef,t.getD 79 undef,t.getD 80 undef,t.getD 81 undef,t.getD 82 undef,t.getD 83 undef,t.getD 84 undef,t.getD 85 undef,t.getD 86 undef,t.getD 87 undef,t.getD 88 undef,t.getD 89 undef,t.getD 90 undef,t.getD 91 undef,t.getD 92 undef,t.getD 93 undef,t.getD 94 undef,t.getD 95 undef,t.getD 96 undef,t.getD 97 undef,t.getD 98 undef,t.getD 99 undef,t.getD 100 undef,t.getD 101 undef,t.getD 102 undef,t.getD 103 undef,t.getD 104 undef,t.getD 105 undef,t.getD 106 undef,t.getD 107 undef,t.getD 108 undef,t.getD 109 undef,t.getD 110 undef,t.getD 111 undef,t.getD 112 undef,t.getD 113 undef,t.getD 114 undef,t.getD 115 undef,t.getD 116 undef,t.getD 117 undef,t.getD 118 undef,t.getD 119 undef,t.getD 120 undef,t.getD 121 undef,t.getD 122 undef,t.getD 123 undef,t.getD 124 undef,t.getD 125 undef,t.getD 126 undef,t.getD 127 undef,t.getD 128 undef]) (hR:qcN l K A E lab i at_):jbX l txt K A E w lab { tmps:=t,defers:=[] } w :=
 ⟨i,at_,fun k=>t.getD k undef,congrArg (fun x=>({ tmps:=x,defers:=[] }:Act)) ht,rfl,hR⟩
theorem qcK {a b c d e f:Int} (h:a=d) (k:b=e) (m:c=f):Ending.returned (.tuple #[.int .i64 a,.int .i64 b,.int .i64 c])=Ending.returned (.tuple #[.int .i64 d,.int .i64 e,.int .i64 f]):=by rw[h,k,m]
def qeI (n:Nat) (lab:Nat) (a:Act) (_w:World):Nat:=2 * (n+2-(intOf (a.tmps.getD 1 undef)).toNat)+(if lab=0 then 1 else 0)
def q63:Prop:=∀ (a:Option Addr) (n cap:Nat) (r:List UInt8) (w:World),Txt w a n cap r→0<n→n≤140737488351232 →
 Calls Tryz.prog 173 #[.slice a n cap] w fun e w'=>e=.returned (.int .i64 (qaE r))∧w=w'
theorem qzH (b o n cap i0 K A E:Nat) (l:List UInt8) (w:World) (hM:q63) (hn:0<n) (hl:l.length=n) (hnc:n≤cap) (hm:cap≤maxLen) (hx:At w ⟨b,o,none⟩ l) (hr:n≤140737488351232) (h0:qcN l K A E 0 i0 0) :
  Calls Tryz.prog 146 #[.slice (some ⟨b,o,none⟩) n cap,.int .i64 i0] w fun e w'=>e=.returned (.tuple #[.int .i64 K,.int .i64 A,.int .i64 E])∧w=w':=by
 have HM:=hid hM;have HX:=hid hx;have H0:=hid h0;have hi0:=h0.1;have hT:Txt w (some ⟨b,o,none⟩) n cap l:=⟨hl,hnc,hm,.inr ⟨_,rfl,hx⟩⟩
 have HT:=hid hT;have HL:=hid hl;have HC:Hid (∀ j (h:j<l.length),w.cell? ⟨b,o+j,none⟩=some (.int .u8 (l[j].toNat:Int))):=(hx.spot (by omega)).2;rw[hl] at hi0;clear hM hx h0 hT hl;go_enter Tryz.func146,Tryz.ntmps146;go_wp2_with fail;refine qlA (jbX l (.slice (some ⟨b,o,none⟩) n cap) K A E w) (qeI n) ?first ?pass
 case first =>
  go_wp2_with fail;go_step3;have hi:=hi0;obtain⟨i,hii⟩:∃ i,i=i0:=⟨_,rfl⟩
  subst hii;have HR:=H0;by_cases hend:i=n
  ·subst hend;have hz:(i==i)=true:=by simp
   go_wp2_with fail;rw[qcL]
   go_ret3
   obtain⟨e1,e2,e3⟩:=q6K HR.out (by rw[HL.out]);exact⟨qcK (by omega) (by omega) (by omega),rfl⟩
  ·have hb1:((i:Int)==(n:Int))=false:=by rw[beq_eq_false_iff_ne];omega
   have hb2:(i==n)=false:=by rw[beq_eq_false_iff_ne];omega
   have hlt:i<n:=by omega
   clear hend;have hil:i<l.length:=by rw[HL.out];exact hlt
   have HIL:=hid hil;clear hil;have hcell:w.cell? ⟨b,o+i,none⟩=some (.int .u8 (bAt l i).toNat):=by rw[qeT HIL.out];exact HC.out i HIL.out
   cases hbl:qc6 (bAt l i)
   ·have HB:=hid hbl;clear hbl;by_cases hc:bAt l i=35
    ·have hq:(((bAt l i).toNat:Int)==35)=true:=by rw[hc];rfl
     have HN:=hid hc;clear hc;go_wp2_with (first|(go_at_call 170;refine(qb9 (bAt l i) _).mono ?_;rintro e w' ⟨rfl,rfl⟩;rw[HB.out]));go_step3;exact qaH (i) i rfl (qnA HR.out HIL.out HB.out HN.out i)
    ·have hq:(((bAt l i).toNat:Int)==35)=false:=qeR (d:=35) hc;have HN:=hid hc;clear hc;cases hlet:qa8 (bAt l i)
     ·have HLT:=hid hlet;clear hlet;cases hdg:qa1 (bAt l i)
      ·have HDG:=hid hdg;clear hdg;by_cases hqu:bAt l i=34
       ·have hq2:(((bAt l i).toNat:Int)==34)=true:=by rw[hqu];rfl
        have HQ:=hid hqu;clear hqu;go_wp2_with (first|(go_at_call 170;refine(qb9 (bAt l i) _).mono ?_;rintro e w' ⟨rfl,rfl⟩;rw[HB.out])|(go_at_call 171;refine(qbM (bAt l i) _).mono ?_;rintro e w' ⟨rfl,rfl⟩;rw[HLT.out])|(go_at_call 172;refine(qaC (bAt l i) _).mono ?_;rintro e w' ⟨rfl,rfl⟩;rw[HDG.out]));go_step3;exact qaH (i) i rfl (qqT HR.out HIL.out HB.out HN.out HLT.out HDG.out HQ.out)
       ·have hq2:(((bAt l i).toNat:Int)==34)=false:=qeR (d:=34) hqu;have HQ:=hid hqu;clear hqu;have HTD:Hid (Txt w (some ⟨b,o+i,none⟩) (n-i) (cap-i) (l.drop i)):=⟨by simp[HL.out],by omega,by omega,.inr ⟨_,rfl,HX.out.drop i⟩⟩
        have hml:=qjQ (l.drop i);have hml2:(l.drop i).length≤n:=by simp[HL.out]
        by_cases hm0:qaE (l.drop i)=0
        ·have HM0:=hid hm0;have hd0:decide ((0:Int)<((qaE (l.drop i):Nat):Int))=false:=by rw[hm0];rfl
         have hd0n:decide (0<qaE (l.drop i))=false:=by rw[hm0];rfl
         clear hm0;go_wp2_with (first|(go_at_call 170;refine(qb9 (bAt l i) _).mono ?_;rintro e w' ⟨rfl,rfl⟩;rw[HB.out])|(go_at_call 171;refine(qbM (bAt l i) _).mono ?_;rintro e w' ⟨rfl,rfl⟩;rw[HLT.out])|(go_at_call 172;refine(qaC (bAt l i) _).mono ?_;rintro e w' ⟨rfl,rfl⟩;rw[HDG.out])|(go_at_call 173;refine(HM.out _ _ _ (l.drop i) _ HTD.out (by omega) (by omega)).mono ?_;rintro e w' ⟨rfl,rfl⟩));rw[qcL]
         go_ret3
         obtain⟨e1,e2,e3⟩:=q09 HR.out HIL.out HB.out HN.out HLT.out HDG.out HQ.out HM0.out;exact⟨qcK (by omega) (by omega) (by omega),rfl⟩
        ·have hmp:0<qaE (l.drop i):=by omega
         have hd0:decide ((0:Int)<((qaE (l.drop i):Nat):Int))=true:=by simp;omega
         have hd0n:decide (0<qaE (l.drop i))=true:=by simp;omega
         go_wp2_with (first|(go_at_call 170;refine(qb9 (bAt l i) _).mono ?_;rintro e w' ⟨rfl,rfl⟩;rw[HB.out])|(go_at_call 171;refine(qbM (bAt l i) _).mono ?_;rintro e w' ⟨rfl,rfl⟩;rw[HLT.out])|(go_at_call 172;refine(qaC (bAt l i) _).mono ?_;rintro e w' ⟨rfl,rfl⟩;rw[HDG.out])|(go_at_call 173;refine(HM.out _ _ _ (l.drop i) _ HTD.out (by omega) (by omega)).mono ?_;rintro e w' ⟨rfl,rfl⟩));rw[qcL]
         go_ret3
         obtain⟨e1,e2,e3⟩:=q0B HR.out HIL.out HB.out HN.out HLT.out HDG.out HQ.out hmp;exact⟨qcK (by omega) (by omega) (by omega),rfl⟩
      ·have HDG:=hid hdg;clear hdg;go_wp2_with (first|(go_at_call 170;refine(qb9 (bAt l i) _).mono ?_;rintro e w' ⟨rfl,rfl⟩;rw[HB.out])|(go_at_call 171;refine(qbM (bAt l i) _).mono ?_;rintro e w' ⟨rfl,rfl⟩;rw[HLT.out])|(go_at_call 172;refine(qaC (bAt l i) _).mono ?_;rintro e w' ⟨rfl,rfl⟩;rw[HDG.out]));go_step3;exact qaH (i) i rfl (qqU HR.out HIL.out HB.out HN.out HLT.out HDG.out)
     ·have HLT:=hid hlet;clear hlet;go_wp2_with (first|(go_at_call 170;refine(qb9 (bAt l i) _).mono ?_;rintro e w' ⟨rfl,rfl⟩;rw[HB.out])|(go_at_call 171;refine(qbM (bAt l i) _).mono ?_;rintro e w' ⟨rfl,rfl⟩;rw[HLT.out]));go_step3;exact qaH (i) i rfl (q0A HR.out HIL.out HB.out HN.out HLT.out)
   ·have HB:=hid hbl;clear hbl;go_wp2_with (first|(go_at_call 170;refine(qb9 (bAt l i) _).mono ?_;rintro e w' ⟨rfl,rfl⟩;rw[HB.out]));go_step3;exact qaH (i+1) i rfl (quK HR.out HIL.out HB.out i)
 case pass =>
  rintro lab a w1 ⟨i,at_,g,rfl,rfl,hR⟩
  match lab,hR with
  | 0,hR =>
   have HR:=hid hR;have hi:=hR.1;rw[HL.out] at hi;clear hR;refine⟨_,rfl,?_⟩;by_cases hend:i=n
   ·subst hend;have hz:(i==i)=true:=by simp
    go_wp2_with fail;rw[qcL]
    go_ret3
    obtain⟨e1,e2,e3⟩:=q6K HR.out (by rw[HL.out]);exact⟨qcK (by omega) (by omega) (by omega),rfl⟩
   ·have hb1:((i:Int)==(n:Int))=false:=by rw[beq_eq_false_iff_ne];omega
    have hb2:(i==n)=false:=by rw[beq_eq_false_iff_ne];omega
    have hlt:i<n:=by omega
    clear hend;have hil:i<l.length:=by rw[HL.out];exact hlt
    have HIL:=hid hil;clear hil;have hcell:w.cell? ⟨b,o+i,none⟩=some (.int .u8 (bAt l i).toNat):=by rw[qeT HIL.out];exact HC.out i HIL.out
    cases hbl:qc6 (bAt l i)
    ·have HB:=hid hbl;clear hbl;by_cases hc:bAt l i=35
     ·have hq:(((bAt l i).toNat:Int)==35)=true:=by rw[hc];rfl
      have HN:=hid hc;clear hc;go_wp2_with (first|(go_at_call 170;refine(qb9 (bAt l i) _).mono ?_;rintro e w' ⟨rfl,rfl⟩;rw[HB.out]));go_step3;exact⟨qaH (i) i rfl (qnA HR.out HIL.out HB.out HN.out i),by simp[qeI,intOf] <;> omega⟩
     ·have hq:(((bAt l i).toNat:Int)==35)=false:=qeR (d:=35) hc;have HN:=hid hc;clear hc;cases hlet:qa8 (bAt l i)
      ·have HLT:=hid hlet;clear hlet;cases hdg:qa1 (bAt l i)
       ·have HDG:=hid hdg;clear hdg;by_cases hqu:bAt l i=34
        ·have hq2:(((bAt l i).toNat:Int)==34)=true:=by rw[hqu];rfl
         have HQ:=hid hqu;clear hqu;go_wp2_with (first|(go_at_call 170;refine(qb9 (bAt l i) _).mono ?_;rintro e w' ⟨rfl,rfl⟩;rw[HB.out])|(go_at_call 171;refine(qbM (bAt l i) _).mono ?_;rintro e w' ⟨rfl,rfl⟩;rw[HLT.out])|(go_at_call 172;refine(qaC (bAt l i) _).mono ?_;rintro e w' ⟨rfl,rfl⟩;rw[HDG.out]));go_step3;exact⟨qaH (i) i rfl (qqT HR.out HIL.out HB.out HN.out HLT.out HDG.out HQ.out),by simp[qeI,intOf] <;> omega⟩
        ·have hq2:(((bAt l i).toNat:Int)==34)=false:=qeR (d:=34) hqu;have HQ:=hid hqu;clear hqu;have HTD:Hid (Txt w (some ⟨b,o+i,none⟩) (n-i) (cap-i) (l.drop i)):=⟨by simp[HL.out],by omega,by omega,.inr ⟨_,rfl,HX.out.drop i⟩⟩
         have hml:=qjQ (l.drop i);have hml2:(l.drop i).length≤n:=by simp[HL.out]
         by_cases hm0:qaE (l.drop i)=0
         ·have HM0:=hid hm0;have hd0:decide ((0:Int)<((qaE (l.drop i):Nat):Int))=false:=by rw[hm0];rfl
          have hd0n:decide (0<qaE (l.drop i))=false:=by rw[hm0];rfl
          clear hm0;go_wp2_with (first|(go_at_call 170;refine(qb9 (bAt l i) _).mono ?_;rintro e w' ⟨rfl,rfl⟩;rw[HB.out])|(go_at_call 171;refine(qbM (bAt l i) _).mono ?_;rintro e w' ⟨rfl,rfl⟩;rw[HLT.out])|(go_at_call 172;refine(qaC (bAt l i) _).mono ?_;rintro e w' ⟨rfl,rfl⟩;rw[HDG.out])|(go_at_call 173;refine(HM.out _ _ _ (l.drop i) _ HTD.out (by omega) (by omega)).mono ?_;rintro e w' ⟨rfl,rfl⟩));rw[qcL]
          go_ret3
          obtain⟨e1,e2,e3⟩:=q09 HR.out HIL.out HB.out HN.out HLT.out HDG.out HQ.out HM0.out;exact⟨qcK (by omega) (by omega) (by omega),rfl⟩
         ·have hmp:0<qaE (l.drop i):=by omega
          have hd0:decide ((0:Int)<((qaE (l.drop i):Nat):Int))=true:=by simp;omega
          have hd0n:decide (0<qaE (l.drop i))=true:=by simp;omega
          go_wp2_with (first|(go_at_call 170;refine(qb9 (bAt l i) _).mono ?_;rintro e w' ⟨rfl,rfl⟩;rw[HB.out])|(go_at_call 171;refine(qbM (bAt l i) _).mono ?_;rintro e w' ⟨rfl,rfl⟩;rw[HLT.out])|(go_at_call 172;refine(qaC (bAt l i) _).mono ?_;rintro e w' ⟨rfl,rfl⟩;rw[HDG.out])|(go_at_call 173;refine(HM.out _ _ _ (l.drop i) _ HTD.out (by omega) (by omega)).mono ?_;rintro e w' ⟨rfl,rfl⟩));rw[qcL]
          go_ret3
          obtain⟨e1,e2,e3⟩:=q0B HR.out HIL.out HB.out HN.out HLT.out HDG.out HQ.out hmp;exact⟨qcK (by omega) (by omega) (by omega),rfl⟩
       ·have HDG:=hid hdg;clear hdg;go_wp2_with (first|(go_at_call 170;refine(qb9 (bAt l i) _).mono ?_;rintro e w' ⟨rfl,rfl⟩;rw[HB.out])|(go_at_call 171;refine(qbM (bAt l i) _).mono ?_;rintro e w' ⟨rfl,rfl⟩;rw[HLT.out])|(go_at_call 172;refine(qaC (bAt l i) _).mono ?_;rintro e w' ⟨rfl,rfl⟩;rw[HDG.out]));go_step3;exact⟨qaH (i) i rfl (qqU HR.out HIL.out HB.out HN.out HLT.out HDG.out),by simp[qeI,intOf] <;> omega⟩
      ·have HLT:=hid hlet;clear hlet;go_wp2_with (first|(go_at_call 170;refine(qb9 (bAt l i) _).mono ?_;rintro e w' ⟨rfl,rfl⟩;rw[HB.out])|(go_at_call 171;refine(qbM (bAt l i) _).mono ?_;rintro e w' ⟨rfl,rfl⟩;rw[HLT.out]));go_step3;exact⟨qaH (i) i rfl (q0A HR.out HIL.out HB.out HN.out HLT.out),by simp[qeI,intOf] <;> omega⟩
    ·have HB:=hid hbl;clear hbl;go_wp2_with (first|(go_at_call 170;refine(qb9 (bAt l i) _).mono ?_;rintro e w' ⟨rfl,rfl⟩;rw[HB.out]));go_step3;exact⟨qaH (i+1) i rfl (quK HR.out HIL.out HB.out i),by simp[qeI,intOf] <;> omega⟩
  | 1,hR =>
   have HR:=hid hR;have hi:=hR.1;rw[HL.out] at hi;clear hR;refine⟨_,rfl,?_⟩;by_cases hlt:i+1<n
   ·have hd:decide ((i:Int)+1<(n:Int))=true:=by simp;omega
    have hcell:w.cell? ⟨b,o+(i+1),none⟩=some (.int .u8 (bAt l (i+1)).toNat):=by rw[qeT (by rw[HL.out];exact hlt)];exact HC.out (i+1) (by rw[HL.out];exact hlt)
    by_cases hc:bAt l (i+1)=10
    ·have hq:(((bAt l (i+1)).toNat:Int) != 10)=false:=by rw[hc];rfl
     have HN:=hid hc;clear hc;go_wp2_with fail;go_step3;exact⟨qaH (i+1) at_ rfl (q6J HR.out (.inr HN.out) at_),by simp[qeI,intOf] <;> omega⟩
    ·have hq:(((bAt l (i+1)).toNat:Int) != 10)=true:=qe8 (d:=10) hc;have HN:=hid hc;clear hc;go_wp2_with fail;go_step3;exact⟨qaH (i+1) at_ rfl (jcJ HR.out (by rw[HL.out];exact hlt) HN.out),by simp[qeI,intOf] <;> omega⟩
   ·have hd:decide ((i:Int)+1<(n:Int))=false:=by simp;omega
    have he:i+1=n:=by omega
    have HE:=hid he;clear he;go_wp2_with fail;go_step3;exact⟨qaH (i+1) at_ rfl (q6J HR.out (.inl (by rw[HE.out,HL.out])) at_),by simp[qeI,intOf] <;> omega⟩
  | 2,hR =>
   have HR:=hid hR;have hi:=hR.1;rw[HL.out] at hi;clear hR;refine⟨_,rfl,?_⟩;cases hw:qaJ (bAt l (i+1))
   ·have HW:=hid hw;clear hw;go_wp2_with (first|(go_at_call 152;refine(qc8 _ n cap (i+1) l _ HT.out).mono ?_;rintro e w' ⟨rfl,rfl⟩)|(go_at_call 151;refine(qcT _ _).mono ?_;rintro e w' ⟨rfl,rfl⟩;rw[HW.out]));rw[qcL]
    go_ret3
    obtain⟨e1,e2,e3⟩:=jaJ HR.out HW.out;exact⟨qcK (by omega) (by omega) (by omega),rfl⟩
   ·have HW:=hid hw;clear hw;go_wp2_with (first|(go_at_call 152;refine(qc8 _ n cap (i+1) l _ HT.out).mono ?_;rintro e w' ⟨rfl,rfl⟩)|(go_at_call 151;refine(qcT _ _).mono ?_;rintro e w' ⟨rfl,rfl⟩;rw[HW.out]));go_step3;exact⟨qaH (i+1) at_ rfl (jcI HR.out HW.out),by simp[qeI,intOf] <;> omega⟩
  | 3,hR =>
   have HR:=hid hR;have hi:=hR.1;rw[HL.out] at hi;clear hR;refine⟨_,rfl,?_⟩;cases hw:qa1 (bAt l (i+1))
   ·have HD:=hid hw;clear hw;by_cases hp:bAt l (i+1)=112
    ·have hq:(((bAt l (i+1)).toNat:Int) != 112)=false:=by rw[hp];rfl
     have HP:=hid hp;have hlt:=jaH hp;rw[HL.out] at hlt;clear hp;by_cases hm:bAt l (i+1+1)=45
     ·have hq2:(((bAt l (i+1+1)).toNat:Int)==45)=true:=by rw[hm];rfl
      have HR5:=hid (jaG HR.out HD.out HP.out hm);have hlt5:=HR5.out.1;rw[HL.out] at hlt5;clear hm;cases hw5:qa1 (bAt l (i+1+1+1))
      ·have HD5:=hid hw5;clear hw5;go_wp2_with (first|(go_at_call 152;((with_reducible refine(qa3 _ n cap ((i:Int)+1) (i+1) (by omega) l _ HT.out).mono ?_);rintro e w' ⟨rfl,rfl⟩))|(go_at_call 152;((with_reducible refine(qa3 _ n cap ((i:Int)+1+1) (i+1+1) (by omega) l _ HT.out).mono ?_);rintro e w' ⟨rfl,rfl⟩))|(go_at_call 152;((with_reducible refine(qa3 _ n cap ((i:Int)+1+1+1) (i+1+1+1) (by omega) l _ HT.out).mono ?_);rintro e w' ⟨rfl,rfl⟩))|(go_at_call 172;((with_reducible refine(qaC (bAt l (i+1)) _).mono ?_);rintro e w' ⟨rfl,rfl⟩;rw[HD.out]))|(go_at_call 172;((with_reducible refine(qaC (bAt l (i+1+1+1)) _).mono ?_);rintro e w' ⟨rfl,rfl⟩;rw[HD5.out]))|go_step3);rw[qcL]
       go_ret3
       obtain⟨e1,e2,e3⟩:=q08 HR5.out HD5.out;exact⟨qcK (by omega) (by omega) (by omega),rfl⟩
      ·have HD5:=hid hw5;clear hw5;go_wp2_with (first|(go_at_call 152;((with_reducible refine(qa3 _ n cap ((i:Int)+1) (i+1) (by omega) l _ HT.out).mono ?_);rintro e w' ⟨rfl,rfl⟩))|(go_at_call 152;((with_reducible refine(qa3 _ n cap ((i:Int)+1+1) (i+1+1) (by omega) l _ HT.out).mono ?_);rintro e w' ⟨rfl,rfl⟩))|(go_at_call 152;((with_reducible refine(qa3 _ n cap ((i:Int)+1+1+1) (i+1+1+1) (by omega) l _ HT.out).mono ?_);rintro e w' ⟨rfl,rfl⟩))|(go_at_call 172;((with_reducible refine(qaC (bAt l (i+1)) _).mono ?_);rintro e w' ⟨rfl,rfl⟩;rw[HD.out]))|(go_at_call 172;((with_reducible refine(qaC (bAt l (i+1+1+1)) _).mono ?_);rintro e w' ⟨rfl,rfl⟩;rw[HD5.out])));go_step3;go_wp2_with (first|(go_at_call 152;((with_reducible refine(qa3 _ n cap ((i:Int)+1) (i+1) (by omega) l _ HT.out).mono ?_);rintro e w' ⟨rfl,rfl⟩))|(go_at_call 152;((with_reducible refine(qa3 _ n cap ((i:Int)+1+1) (i+1+1) (by omega) l _ HT.out).mono ?_);rintro e w' ⟨rfl,rfl⟩))|(go_at_call 152;((with_reducible refine(qa3 _ n cap ((i:Int)+1+1+1) (i+1+1+1) (by omega) l _ HT.out).mono ?_);rintro e w' ⟨rfl,rfl⟩))|(go_at_call 172;((with_reducible refine(qaC (bAt l (i+1)) _).mono ?_);rintro e w' ⟨rfl,rfl⟩;rw[HD.out]))|(go_at_call 172;((with_reducible refine(qaC (bAt l (i+1+1+1)) _).mono ?_);rintro e w' ⟨rfl,rfl⟩;rw[HD5.out])));go_step3;exact⟨qaH (i+1+1+1) at_ rfl (q86 HR5.out HD5.out),by simp[qeI,intOf] <;> omega⟩
     ·have hq2:(((bAt l (i+1+1)).toNat:Int)==45)=false:=qeR (d:=45) hm;have HR5:=hid (jaF HR.out HD.out HP.out hm);clear hm;cases hw5:qa1 (bAt l (i+1+1))
      ·have HD5:=hid hw5;clear hw5;go_wp2_with (first|(go_at_call 152;((with_reducible refine(qa3 _ n cap ((i:Int)+1) (i+1) (by omega) l _ HT.out).mono ?_);rintro e w' ⟨rfl,rfl⟩))|(go_at_call 152;((with_reducible refine(qa3 _ n cap ((i:Int)+1+1) (i+1+1) (by omega) l _ HT.out).mono ?_);rintro e w' ⟨rfl,rfl⟩))|(go_at_call 172;((with_reducible refine(qaC (bAt l (i+1)) _).mono ?_);rintro e w' ⟨rfl,rfl⟩;rw[HD.out]))|(go_at_call 172;((with_reducible refine(qaC (bAt l (i+1+1)) _).mono ?_);rintro e w' ⟨rfl,rfl⟩;rw[HD5.out]))|go_step3);rw[qcL]
       go_ret3
       obtain⟨e1,e2,e3⟩:=q08 HR5.out HD5.out;exact⟨qcK (by omega) (by omega) (by omega),rfl⟩
      ·have HD5:=hid hw5;clear hw5;go_wp2_with (first|(go_at_call 152;((with_reducible refine(qa3 _ n cap ((i:Int)+1) (i+1) (by omega) l _ HT.out).mono ?_);rintro e w' ⟨rfl,rfl⟩))|(go_at_call 152;((with_reducible refine(qa3 _ n cap ((i:Int)+1+1) (i+1+1) (by omega) l _ HT.out).mono ?_);rintro e w' ⟨rfl,rfl⟩))|(go_at_call 172;((with_reducible refine(qaC (bAt l (i+1)) _).mono ?_);rintro e w' ⟨rfl,rfl⟩;rw[HD.out]))|(go_at_call 172;((with_reducible refine(qaC (bAt l (i+1+1)) _).mono ?_);rintro e w' ⟨rfl,rfl⟩;rw[HD5.out])));go_step3;go_wp2_with (first|(go_at_call 152;((with_reducible refine(qa3 _ n cap ((i:Int)+1) (i+1) (by omega) l _ HT.out).mono ?_);rintro e w' ⟨rfl,rfl⟩))|(go_at_call 152;((with_reducible refine(qa3 _ n cap ((i:Int)+1+1) (i+1+1) (by omega) l _ HT.out).mono ?_);rintro e w' ⟨rfl,rfl⟩))|(go_at_call 172;((with_reducible refine(qaC (bAt l (i+1)) _).mono ?_);rintro e w' ⟨rfl,rfl⟩;rw[HD.out]))|(go_at_call 172;((with_reducible refine(qaC (bAt l (i+1+1)) _).mono ?_);rintro e w' ⟨rfl,rfl⟩;rw[HD5.out])));go_step3;exact⟨qaH (i+1+1) at_ rfl (q86 HR5.out HD5.out),by simp[qeI,intOf] <;> omega⟩
    ·have hq:(((bAt l (i+1)).toNat:Int) != 112)=true:=qe8 (d:=112) hp;have HP:=hid hp;clear hp;go_wp2_with (first|(go_at_call 152;((with_reducible refine(qa3 _ n cap ((i:Int)+1) (i+1) (by omega) l _ HT.out).mono ?_);rintro e w' ⟨rfl,rfl⟩))|(go_at_call 172;((with_reducible refine(qaC (bAt l (i+1)) _).mono ?_);rintro e w' ⟨rfl,rfl⟩;rw[HD.out])));rw[qcL]
     go_ret3
     obtain⟨e1,e2,e3⟩:=jaI HR.out HD.out HP.out;exact⟨qcK (by omega) (by omega) (by omega),rfl⟩
   ·have HD:=hid hw;clear hw;go_wp2_with (first|(go_at_call 152;((with_reducible refine(qa3 _ n cap ((i:Int)+1) (i+1) (by omega) l _ HT.out).mono ?_);rintro e w' ⟨rfl,rfl⟩))|(go_at_call 172;((with_reducible refine(qaC (bAt l (i+1)) _).mono ?_);rintro e w' ⟨rfl,rfl⟩;rw[HD.out])));go_step3;exact⟨qaH (i+1) at_ rfl (jcH HR.out HD.out),by simp[qeI,intOf] <;> omega⟩
  | 4,hR =>
   have HR:=hid hR;have hi:=hR.1;rw[HL.out] at hi;clear hR;refine⟨_,rfl,?_⟩;by_cases hlt:i+1<n
   ·have hd:decide ((i:Int)+1<(n:Int))=true:=by simp;omega
    have hcell:w.cell? ⟨b,o+(i+1),none⟩=some (.int .u8 (bAt l (i+1)).toNat):=by rw[qeT (by rw[HL.out];exact hlt)];exact HC.out (i+1) (by rw[HL.out];exact hlt)
    by_cases hc:bAt l (i+1)=92
    ·have hq:(((bAt l (i+1)).toNat:Int)==92)=true:=by rw[hc];rfl
     have HN:=hid hc;clear hc;go_wp2_with fail;go_step3;exact⟨qaH (i+1) at_ rfl (jaE HR.out (by rw[HL.out];exact hlt) HN.out),by simp[qeI,intOf] <;> omega⟩
    ·have hq:(((bAt l (i+1)).toNat:Int)==92)=false:=qeR (d:=92) hc;have HN:=hid hc;clear hc;by_cases hc:bAt l (i+1)=34
     ·have hq2:(((bAt l (i+1)).toNat:Int) != 34)=false:=by rw[hc];rfl
      have HQ:=hid hc;clear hc;go_wp2_with fail;rw[qcL]
      go_ret3
      have hmin:min (i+1+1) l.length=i+1+1:=by rw[HL.out];omega
      obtain⟨e1,e2,e3⟩:=q6I HR.out (.inr HQ.out);exact⟨qcK (by omega) (by omega) (by omega),rfl⟩
     ·have hq2:(((bAt l (i+1)).toNat:Int) != 34)=true:=qe8 (d:=34) hc;have HQ:=hid hc;clear hc;go_wp2_with fail;go_step3;exact⟨qaH (i+1) at_ rfl (jcG HR.out (by rw[HL.out];exact hlt) HN.out HQ.out),by simp[qeI,intOf] <;> omega⟩
   ·have hd:decide ((i:Int)+1<(n:Int))=false:=by simp;omega
    have hge:n≤i+1:=by omega
    go_wp2_with fail;rw[qcL]
    go_ret3
    have hmin:min (i+1+1) l.length=n:=by rw[HL.out];omega
    obtain⟨e1,e2,e3⟩:=q6I HR.out (.inl (by rw[HL.out];exact hge));exact⟨qcK (by omega) (by omega) (by omega),rfl⟩
  | 5,hR =>
   have HR:=hid hR;have hi:=hR.1;rw[HL.out] at hi;clear hR;refine⟨_,rfl,?_⟩;cases hw:qa1 (bAt l (i+1))
   ·have HD:=hid hw;clear hw;go_wp2_with (first|(go_at_call 152;refine(qc8 _ n cap (i+1) l _ HT.out).mono ?_;rintro e w' ⟨rfl,rfl⟩)|(go_at_call 172;refine(qaC _ _).mono ?_;rintro e w' ⟨rfl,rfl⟩;rw[HD.out]));rw[qcL]
    go_ret3
    obtain⟨e1,e2,e3⟩:=q08 HR.out HD.out;exact⟨qcK (by omega) (by omega) (by omega),rfl⟩
   ·have HD:=hid hw;clear hw;go_wp2_with (first|(go_at_call 152;refine(qc8 _ n cap (i+1) l _ HT.out).mono ?_;rintro e w' ⟨rfl,rfl⟩)|(go_at_call 172;refine(qaC _ _).mono ?_;rintro e w' ⟨rfl,rfl⟩;rw[HD.out]));go_step3;exact⟨qaH (i+1) at_ rfl (q86 HR.out HD.out),by simp[qeI,intOf] <;> omega⟩
  | 6,hR =>
   have HR:=hid hR;have hi:=hR.1;rw[HL.out] at hi;clear hR;refine⟨_,rfl,?_⟩;go_wp2_with fail;go_step3;exact⟨qaH (i+1) at_ rfl (jcF HR.out),by simp[qeI,intOf] <;> omega⟩
  | m+7,hR=>exact hR.elim
end Go.Proofs.YtenlhcgpajphhaaGreatDoor
