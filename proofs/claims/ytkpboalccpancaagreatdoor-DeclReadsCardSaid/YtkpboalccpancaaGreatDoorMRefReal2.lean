import Derived.Test.YtkpboalccpancaaGreatDoorMRefPart
import Derived.Test.YtkpboalccpancaaGreatDoorNext
import Derived.Test.YtkpboalccpancaaGreatDoorMTextWalks
import Derived.Test.YtkpboalccpancaaGreatDoorMNextPlain
import Derived.Deep.Cut
namespace Go.Proofs.YtkpboalccpancaaGreatDoor
open Go.RowKit
open Lib(hid)
set_option maxRecDepth 100000
set_option linter.all false
set_option maxHeartbeats 4000000
def RTok (t:Tok × Nat) (w:World) (e:Ending) (w':World):Prop:=e=.returned (.tuple #[tokVal t.1,.int .i64 t.2])∧Below w.heap.size w w'
def realC (m x:Nat) (below:Bool):Option Nat :=
 if 9007199254740992≤m∨(if below=true then 1074 else 1023)<x∨(m % 2=0∧m≠0)∨(m=0∧x≠0)∨(below=true∧x=0) then none
 else if below=true then some (realBits m (-(x:Int))) else if m=0∨(m.log2:Int)+1+x≤1024 then some (realBits m x) else none
def realT (A N M:Nat) (D1 D2:List UInt8) (below:Bool):Tok × Nat :=
 match refW D1,refW D2 with
 | some m,some x=>(match realC m x below with|some b=>(⟨3,[],0,b,A,N+M⟩,0)|none=>(zeroTok,12))
 | _,_=>(zeroTok,12)
theorem refW_ways (a:Option Addr) (n cap:Nat) (D:List UInt8) (hr:n≤140737488351232) (hd:∀ c ∈ D,48≤c.toNat∧c.toNat≤57) :
  ∃ (v:Nat) (b:Bool),(∀ W,Txt W a n cap D→Calls Tryz.prog 87 #[.slice a n cap] W fun e w'=>e=.returned (.tuple #[.int .i64 v,.bool b])∧W=w')∧((b=true∧refW D=some v∧v≤9223372036854775807)∨(b=false∧refW D=none)):=by
 cases h:refW D with
 | none =>
  refine⟨0,false,fun W hT=>(refWhole_any a n cap D W hT hr hd).mono ?_,.inr ⟨rfl,rfl⟩⟩;intro e w' hh;unfold RefW at hh;rw[h] at hh;exact hh
 | some v =>
  refine⟨v,true,fun W hT=>(refWhole_any a n cap D W hT hr hd).mono ?_,.inl ⟨rfl,rfl,?_⟩⟩
  ·intro e w' hh;unfold RefW at hh;rw[h] at hh;exact hh
  ·unfold refW at h;split at h
   ·injection h with h;omega
   ·cases h
theorem below_six {B:Nat} {a w:World} (h:Below B a w) (v1 v2 v3 v4 v5 v6:Value) {p1 p2 p3 p4 p5 p6:Addr} (h1:B≤p1.block) (h2:B≤p2.block) (h3:B≤p3.block) (h4:B≤p4.block) (h5:B≤p5.block) (h6:B≤p6.block) :
  Below B a ((((((w.setCell p1 v1).setCell p2 v2).setCell p3 v3).setCell p4 v4).setCell p5 v5).setCell p6 v6) :=
 (((((h.setCell h1 _).setCell h2 _).setCell h3 _).setCell h4 _).setCell h5 _).setCell h6 _
theorem refReal_down (a:Option Addr) (n cap A N M:Nat) (l:List UInt8) (w:World) (hT:Txt w a n cap l) (hr:n≤140737488351232) (hE:A+N+M≤n) (hM:2≤M)
  (h1:∀ c ∈ (l.drop A).take N,48≤c.toNat∧c.toNat≤57) (h2:∀ c ∈ (l.drop (A+N+2)).take (M-2),48≤c.toNat∧c.toNat≤57) :
  Calls Tryz.prog 86 #[.slice a n cap,.int .i64 A,.int .i64 N,.int .i64 M,.int .i64 2] w fun e w'=>RTok (realT A N M ((l.drop A).take N) ((l.drop (A+N+2)).take (M-2)) true) w e w':=by
 have sf:∀ (p:Addr) (b:Nat) (m:Mode) (w':World),(store p (.float .f64 b) m).run Tryz.prog w'=stored Tryz.prog w' p (.float .f64 b) m:=fun p b m w'=>run_store _ w' p _ m rfl;obtain⟨a1,hs1,hT1⟩:=slice_mid A (A+N) hT (Nat.le_add_right _ _) (by omega);obtain⟨a2,hs2,hT2⟩:=slice_mid (A+N+2) (A+N+M) hT (by omega) hE;rw[Nat.add_sub_cancel_left] at hs1 hT1;rw[show A+N+M-(A+N+2)=M-2 by omega] at hs2 hT2;have hs1':∀ w',(Instr.slice 22 (.slice a n cap) (some (.int .i64 (A:Int))) (some (.int .i64 ((A:Int)+(N:Int)))) none).run Tryz.prog w'=.ok (.slice a1 N (cap-A)) w':=hs1;have hs2':∀ w',(Instr.slice 22 (.slice a n cap) (some (.int .i64 ((A:Int)+(N:Int)+2))) (some (.int .i64 ((A:Int)+(N:Int)+(M:Int)))) none).run Tryz.prog w'=.ok (.slice a2 (M-2) (cap-(A+N+2))) w':=hs2;obtain⟨D1,hD1⟩:∃ D1,D1=(l.drop A).take N:=⟨_,rfl⟩
 obtain⟨D2,hD2⟩:∃ D2,D2=(l.drop (A+N+2)).take (M-2):=⟨_,rfl⟩
 rw[← hD1] at h1 hT1 ⊢;rw[← hD2] at h2 hT2 ⊢;obtain⟨m,b1,hc1,hf1⟩:=refW_ways a1 N (cap-A) D1 (by omega) h1;obtain⟨x,b2,hc2,hf2⟩:=refW_ways a2 (M-2) (cap-(A+N+2)) D2 (by omega) h2;have HT1:=hid hT1;have HT2:=hid hT2;have HC1:=hid hc1;have HC2:=hid hc2;have wA:IntKind.i64.wrap ((A:Int)+(N:Int))=(A:Int)+(N:Int):=by rw[IntKind.wrap_i64];omega
 have wB:IntKind.i64.wrap ((A:Int)+(N:Int)+2)=(A:Int)+(N:Int)+2:=by rw[IntKind.wrap_i64];omega
 have wC:IntKind.i64.wrap ((A:Int)+(N:Int)+(M:Int))=(A:Int)+(N:Int)+(M:Int):=by rw[IntKind.wrap_i64];omega
 have HF1:=hid hf1;have HF2:=hid hf2;have HE:=hid hE;clear hs1 hs2 hT hT1 hT2 hc1 hc2 h1 h2 hD1 hD2 hf1 hf2;go_enter Tryz.func86,Tryz.ntmps86;go_wp2_with fail;refine(HC1.out _ (HT1.out.below ((Below.refl w.heap.size w).alloc (Nat.le_refl _) _) (Nat.le_refl _))).mono ?_;rintro e w1 ⟨rfl,rfl⟩;go_wp2_with fail;refine(HC2.out _ (HT2.out.below ((Below.refl w.heap.size w).alloc (Nat.le_refl _) _) (Nat.le_refl _))).mono ?_;rintro e w1 ⟨rfl,rfl⟩;clear hs1' hs2' wA wB;have HF1':=HF1.out;have HF2':=HF2.out;have hway:realT A N M D1 D2 true=(zeroTok,12)∧(b1=false∨(b1=true∧b2=false)∨(b1=true∧b2=true∧(9007199254740992≤m∨(m<9007199254740992∧1074<x)∨(m<9007199254740992∧x≤1074∧m % 2=0∧m≠0)∨(m=0∧x≤1074∧x≠0)∨(m<9007199254740992∧m % 2=1∧x=0)∨(m=0∧x=0)))) ∨
   (b1=true∧b2=true∧m<9007199254740992∧x≤1074∧((m % 2=1)∨(m=0∧x=0))∧x≠0∧realT A N M D1 D2 true=(⟨3,[],0,realBits m (-(x:Int)),A,N+M⟩,0)):=by
  rcases HF1' with ⟨e1,f1,_⟩|⟨e1,f1⟩
  ·rcases HF2' with ⟨e2,f2,_⟩|⟨e2,f2⟩
   ·have hr:realT A N M D1 D2 true=(match realC m x true with|some b=>(⟨3,[],0,b,A,N+M⟩,0)|none=>(zeroTok,12)):=by unfold realT;rw[f1,f2]
    rw[hr];unfold realC;by_cases hc:9007199254740992≤m∨1074<x∨(m % 2=0∧m≠0)∨(m=0∧x≠0)∨x=0
    ·left;refine⟨by rw[if_pos (by simpa using hc)],.inr (.inr ⟨e1,e2,?_⟩)⟩;omega
    ·right;refine⟨e1,e2,by omega,by omega,by omega,by omega,?_⟩;rw[if_neg (by simpa using hc),if_pos rfl]
   ·left;refine⟨by unfold realT;rw[f1,f2],.inr (.inl ⟨e1,e2⟩)⟩
  ·left;refine⟨by unfold realT;rw[f1],.inl e1⟩
 rcases hway with ⟨hn,hw⟩|⟨rfl,rfl,g1,g2,g3,hok⟩
 ·have HN:=hid hn;have hx1:x≤9223372036854775807∨b2=false:=by
   rcases HF2' with ⟨_,_,h⟩|⟨h,_⟩
   ·exact .inl h
   ·exact .inr h
  have hm1:m≤9223372036854775807∨b1=false:=by
   rcases HF1' with ⟨_,_,h⟩|⟨h,_⟩
   ·exact .inl h
   ·exact .inr h
  clear hn HF1' HF2' HF1 HF2;rcases hw with rfl|⟨rfl,rfl⟩|⟨rfl,rfl,hw⟩
  ·clear hm1;go_wp2_with fail;refine bodyPost_ret (v:=.tuple #[.agg #[.int .i64 0,.string ⟨#[]⟩,.int .i64 0,.float .f64 0,.int .i64 0,.int .i64 0],.int .i64 12]) (by simp[results,Tryz.results86,go_sem]) rfl ?_;rw[HN.out];exact⟨rfl,(Below.refl _ _).alloc (Nat.le_refl _) _⟩
  ·clear hx1;go_wp2_with fail;refine bodyPost_ret (v:=.tuple #[.agg #[.int .i64 0,.string ⟨#[]⟩,.int .i64 0,.float .f64 0,.int .i64 0,.int .i64 0],.int .i64 12]) (by simp[results,Tryz.results86,go_sem]) rfl ?_;rw[HN.out];exact⟨rfl,(Below.refl _ _).alloc (Nat.le_refl _) _⟩
  ·have hx2:x≤9223372036854775807:=by rcases hx1 with h|h;exact h;cases h
   have hm2:m≤9223372036854775807:=by rcases hm1 with h|h;exact h;cases h
   clear hx1 hm1;rcases hw with h1|⟨h1,h2⟩|⟨h1,h2,h3,h4⟩|⟨h1,h2,h3⟩|⟨h1,h2,h3⟩|⟨h1,h2⟩
   ·have f1:decide ((9007199254740992:Int)≤(m:Int))=true:=by rw[decide_eq_true_eq];omega
    have f1':decide (9007199254740992≤m)=true:=by rw[decide_eq_true_eq];omega
    clear h1;go_wp2_with fail;refine bodyPost_ret (v:=.tuple #[.agg #[.int .i64 0,.string ⟨#[]⟩,.int .i64 0,.float .f64 0,.int .i64 0,.int .i64 0],.int .i64 12]) (by simp[results,Tryz.results86,go_sem]) rfl ?_;rw[HN.out];exact⟨rfl,(Below.refl _ _).alloc (Nat.le_refl _) _⟩
   ·have f1:decide ((9007199254740992:Int)≤(m:Int))=false:=by rw[decide_eq_false_iff_not];omega
    have f1':decide (9007199254740992≤m)=false:=by rw[decide_eq_false_iff_not];omega
    have f2:decide ((1074:Int)<(x:Int))=true:=by rw[decide_eq_true_eq];omega
    have f2':decide (1074<x)=true:=by rw[decide_eq_true_eq];omega
    clear h1 h2;go_wp2_with fail;refine bodyPost_ret (v:=.tuple #[.agg #[.int .i64 0,.string ⟨#[]⟩,.int .i64 0,.float .f64 0,.int .i64 0,.int .i64 0],.int .i64 12]) (by simp[results,Tryz.results86,go_sem]) rfl ?_;rw[HN.out];exact⟨rfl,(Below.refl _ _).alloc (Nat.le_refl _) _⟩
   ·have f1:decide ((9007199254740992:Int)≤(m:Int))=false:=by rw[decide_eq_false_iff_not];omega
    have f1':decide (9007199254740992≤m)=false:=by rw[decide_eq_false_iff_not];omega
    have f2:decide ((1074:Int)<(x:Int))=false:=by rw[decide_eq_false_iff_not];omega
    have f2':decide (1074<x)=false:=by rw[decide_eq_false_iff_not];omega
    have f3:((m:Int) % 2==0)=true:=by rw[beq_iff_eq];omega
    have f4:((m:Int)==0)=false:=by rw[beq_eq_false_iff_ne];omega
    have f4':((m:Int) != 0)=true:=by rw[bne_iff_ne];omega
    have f4n:(m==0)=false:=by rw[beq_eq_false_iff_ne];omega
    have f4m:(m != 0)=true:=by rw[bne_iff_ne];omega
    clear h1 h2 h3 h4;go_wp2_with fail;refine bodyPost_ret (v:=.tuple #[.agg #[.int .i64 0,.string ⟨#[]⟩,.int .i64 0,.float .f64 0,.int .i64 0,.int .i64 0],.int .i64 12]) (by simp[results,Tryz.results86,go_sem]) rfl ?_;rw[HN.out];exact⟨rfl,(Below.refl _ _).alloc (Nat.le_refl _) _⟩
   ·have f1:decide ((9007199254740992:Int)≤(m:Int))=false:=by rw[decide_eq_false_iff_not];omega
    have f1':decide (9007199254740992≤m)=false:=by rw[decide_eq_false_iff_not];omega
    have f2:decide ((1074:Int)<(x:Int))=false:=by rw[decide_eq_false_iff_not];omega
    have f2':decide (1074<x)=false:=by rw[decide_eq_false_iff_not];omega
    have f3:((m:Int) % 2==0)=true:=by rw[beq_iff_eq];omega
    have f4:((m:Int)==0)=true:=by rw[beq_iff_eq];omega
    have f4':((m:Int) != 0)=false:=by rw[bne_eq_false_iff_eq];omega
    have f4n:(m==0)=true:=by rw[beq_iff_eq];omega
    have f4m:(m != 0)=false:=by rw[bne_eq_false_iff_eq];omega
    have f5:((x:Int)==0)=false:=by rw[beq_eq_false_iff_ne];omega
    have f5':((x:Int) != 0)=true:=by rw[bne_iff_ne];omega
    have f5n:(x==0)=false:=by rw[beq_eq_false_iff_ne];omega
    have f5m:(x != 0)=true:=by rw[bne_iff_ne];omega
    clear h1 h2 h3;go_wp2_with fail;refine bodyPost_ret (v:=.tuple #[.agg #[.int .i64 0,.string ⟨#[]⟩,.int .i64 0,.float .f64 0,.int .i64 0,.int .i64 0],.int .i64 12]) (by simp[results,Tryz.results86,go_sem]) rfl ?_;rw[HN.out];exact⟨rfl,(Below.refl _ _).alloc (Nat.le_refl _) _⟩
   ·have f1:decide ((9007199254740992:Int)≤(m:Int))=false:=by rw[decide_eq_false_iff_not];omega
    have f1':decide (9007199254740992≤m)=false:=by rw[decide_eq_false_iff_not];omega
    have f2:decide ((1074:Int)<(x:Int))=false:=by rw[decide_eq_false_iff_not];omega
    have f2':decide (1074<x)=false:=by rw[decide_eq_false_iff_not];omega
    have f3:((m:Int) % 2==0)=false:=by rw[beq_eq_false_iff_ne];omega
    have f4:((m:Int)==0)=false:=by rw[beq_eq_false_iff_ne];omega
    have f4':((m:Int) != 0)=true:=by rw[bne_iff_ne];omega
    have f4n:(m==0)=false:=by rw[beq_eq_false_iff_ne];omega
    have f4m:(m != 0)=true:=by rw[bne_iff_ne];omega
    have f5:((x:Int)==0)=true:=by rw[beq_iff_eq];omega
    have f5':((x:Int) != 0)=false:=by rw[bne_eq_false_iff_eq];omega
    have f5n:(x==0)=true:=by rw[beq_iff_eq];omega
    have f5m:(x != 0)=false:=by rw[bne_eq_false_iff_eq];omega
    clear h1 h2 h3;go_wp2_with fail;refine bodyPost_ret (v:=.tuple #[.agg #[.int .i64 0,.string ⟨#[]⟩,.int .i64 0,.float .f64 0,.int .i64 0,.int .i64 0],.int .i64 12]) (by simp[results,Tryz.results86,go_sem]) rfl ?_;rw[HN.out];exact⟨rfl,(Below.refl _ _).alloc (Nat.le_refl _) _⟩
   ·have f1:decide ((9007199254740992:Int)≤(m:Int))=false:=by rw[decide_eq_false_iff_not];omega
    have f1':decide (9007199254740992≤m)=false:=by rw[decide_eq_false_iff_not];omega
    have f2:decide ((1074:Int)<(x:Int))=false:=by rw[decide_eq_false_iff_not];omega
    have f2':decide (1074<x)=false:=by rw[decide_eq_false_iff_not];omega
    have f3:((m:Int) % 2==0)=true:=by rw[beq_iff_eq];omega
    have f4:((m:Int)==0)=true:=by rw[beq_iff_eq];omega
    have f4':((m:Int) != 0)=false:=by rw[bne_eq_false_iff_eq];omega
    have f4n:(m==0)=true:=by rw[beq_iff_eq];omega
    have f4m:(m != 0)=false:=by rw[bne_eq_false_iff_eq];omega
    have f5:((x:Int)==0)=true:=by rw[beq_iff_eq];omega
    have f5':((x:Int) != 0)=false:=by rw[bne_eq_false_iff_eq];omega
    have f5n:(x==0)=true:=by rw[beq_iff_eq];omega
    have f5m:(x != 0)=false:=by rw[bne_eq_false_iff_eq];omega
    clear h1 h2;go_wp2_with fail;refine bodyPost_ret (v:=.tuple #[.agg #[.int .i64 0,.string ⟨#[]⟩,.int .i64 0,.float .f64 0,.int .i64 0,.int .i64 0],.int .i64 12]) (by simp[results,Tryz.results86,go_sem]) rfl ?_;rw[HN.out];exact⟨rfl,(Below.refl _ _).alloc (Nat.le_refl _) _⟩
 ·obtain⟨hx0,hok⟩:=hok;clear HF1' HF2' HF1 HF2;rcases g3 with g3|⟨g3,g4⟩
  ·have f1:decide ((9007199254740992:Int)≤(m:Int))=false:=by rw[decide_eq_false_iff_not];omega
   have f1':decide (9007199254740992≤m)=false:=by rw[decide_eq_false_iff_not];omega
   have f2:decide ((1074:Int)<(x:Int))=false:=by rw[decide_eq_false_iff_not];omega
   have f2':decide (1074<x)=false:=by rw[decide_eq_false_iff_not];omega
   have f3:((m:Int) % 2==0)=false:=by rw[beq_eq_false_iff_ne];omega
   have f4:((m:Int)==0)=false:=by rw[beq_eq_false_iff_ne];omega
   have f4':((m:Int) != 0)=true:=by rw[bne_iff_ne];omega
   have f4n:(m==0)=false:=by rw[beq_eq_false_iff_ne];omega
   have f4m:(m != 0)=true:=by rw[bne_iff_ne];omega
   have f5:((x:Int)==0)=false:=by rw[beq_eq_false_iff_ne];omega
   have f5':((x:Int) != 0)=true:=by rw[bne_iff_ne];omega
   have f5n:(x==0)=false:=by rw[beq_eq_false_iff_ne];omega
   have f5m:(x != 0)=true:=by rw[bne_iff_ne];omega
   obtain⟨r,hr⟩:∃ r,r=realBits m (-(x:Int)):=⟨_,rfl⟩
   have HP:Hid (∀ w,Calls Tryz.prog 102 #[.int .i64 m,.int .i64 x,.bool true] w fun e w'=>e=.returned (.float .f64 r)∧w=w'):=by
    have:∀ w,Calls Tryz.prog 102 #[.int .i64 m,.int .i64 x,.bool true] w fun e w'=>e=.returned (.float .f64 r)∧w=w':=by rw[hr];exact fun w=>power_down m x w g1 (by omega) (by omega)
    exact this
   have hs:∀ t w,(binOp .sub t (.float .f64 r) (.float .f64 r)).run Tryz.prog w=.ok (.float .f64 0) w:=fun t w=>run_float_arith (h:=by rw[hr];exact less_self m _ (by omega) g1 (by omega) (by have:=log2_le (m:=m) (by omega) g1;omega)) ..;have hz:(FloatKind.f64.format.order 0 0 != some Ordering.eq)=false:=by decide
   rw[← hr] at hok;have HOK:=hid hok;clear hok hr g1 g2 g3;go_wp2_with fail;refine(HP.out _).mono ?_;rintro e w1 ⟨rfl,rfl⟩;go_wp2_with fail;refine bodyPost_ret (v:=.tuple #[.agg #[.int .i64 3,.string ⟨#[]⟩,.int .i64 0,.float .f64 r,.int .i64 A,.int .i64 (↑N+↑M)],.int .i64 0]) (by simp[results,Tryz.results86,go_sem]) rfl ?_;rw[HOK.out];exact⟨rfl,(Below.refl _ _).alloc (Nat.le_refl _) _⟩
  ·exact absurd g4 hx0
theorem refReal_up (a:Option Addr) (n cap A N M:Nat) (l:List UInt8) (w:World) (hT:Txt w a n cap l) (hr:n≤140737488351232) (hE:A+N+M≤n) (hM:1≤M)
  (h1:∀ c ∈ (l.drop A).take N,48≤c.toNat∧c.toNat≤57) (h2:∀ c ∈ (l.drop (A+N+1)).take (M-1),48≤c.toNat∧c.toNat≤57) :
  Calls Tryz.prog 86 #[.slice a n cap,.int .i64 A,.int .i64 N,.int .i64 M,.int .i64 1] w fun e w'=>RTok (realT A N M ((l.drop A).take N) ((l.drop (A+N+1)).take (M-1)) false) w e w':=by
 have sf:∀ (p:Addr) (b:Nat) (m:Mode) (w':World),(store p (.float .f64 b) m).run Tryz.prog w'=stored Tryz.prog w' p (.float .f64 b) m:=fun p b m w'=>run_store _ w' p _ m rfl;obtain⟨a1,hs1,hT1⟩:=slice_mid A (A+N) hT (Nat.le_add_right _ _) (by omega);obtain⟨a2,hs2,hT2⟩:=slice_mid (A+N+1) (A+N+M) hT (by omega) hE;rw[Nat.add_sub_cancel_left] at hs1 hT1;rw[show A+N+M-(A+N+1)=M-1 by omega] at hs2 hT2;have hs1':∀ w',(Instr.slice 22 (.slice a n cap) (some (.int .i64 (A:Int))) (some (.int .i64 ((A:Int)+(N:Int)))) none).run Tryz.prog w'=.ok (.slice a1 N (cap-A)) w':=hs1;have hs2':∀ w',(Instr.slice 22 (.slice a n cap) (some (.int .i64 ((A:Int)+(N:Int)+1))) (some (.int .i64 ((A:Int)+(N:Int)+(M:Int)))) none).run Tryz.prog w'=.ok (.slice a2 (M-1) (cap-(A+N+1))) w':=hs2;obtain⟨D1,hD1⟩:∃ D1,D1=(l.drop A).take N:=⟨_,rfl⟩
 obtain⟨D2,hD2⟩:∃ D2,D2=(l.drop (A+N+1)).take (M-1):=⟨_,rfl⟩
 rw[← hD1] at h1 hT1 ⊢;rw[← hD2] at h2 hT2 ⊢;obtain⟨m,b1,hc1,hf1⟩:=refW_ways a1 N (cap-A) D1 (by omega) h1;obtain⟨x,b2,hc2,hf2⟩:=refW_ways a2 (M-1) (cap-(A+N+1)) D2 (by omega) h2;have HT1:=hid hT1;have HT2:=hid hT2;have HC1:=hid hc1;have HC2:=hid hc2;have wA:IntKind.i64.wrap ((A:Int)+(N:Int))=(A:Int)+(N:Int):=by rw[IntKind.wrap_i64];omega
 have wB:IntKind.i64.wrap ((A:Int)+(N:Int)+1)=(A:Int)+(N:Int)+1:=by rw[IntKind.wrap_i64];omega
 have wC:IntKind.i64.wrap ((A:Int)+(N:Int)+(M:Int))=(A:Int)+(N:Int)+(M:Int):=by rw[IntKind.wrap_i64];omega
 have HF1:=hid hf1;have HF2:=hid hf2;have HE:=hid hE;clear hs1 hs2 hT hT1 hT2 hc1 hc2 h1 h2 hD1 hD2 hf1 hf2;go_enter Tryz.func86,Tryz.ntmps86;go_wp2_with fail;refine(HC1.out _ (HT1.out.below ((Below.refl w.heap.size w).alloc (Nat.le_refl _) _) (Nat.le_refl _))).mono ?_;rintro e w1 ⟨rfl,rfl⟩;go_wp2_with fail;refine(HC2.out _ (HT2.out.below ((Below.refl w.heap.size w).alloc (Nat.le_refl _) _) (Nat.le_refl _))).mono ?_;rintro e w1 ⟨rfl,rfl⟩;clear hs1' hs2' wA wB;have HF1':=HF1.out;have HF2':=HF2.out;have hway:realT A N M D1 D2 false=(zeroTok,12)∧(b1=false∨(b1=true∧b2=false)∨(b1=true∧b2=true∧(9007199254740992≤m∨(m<9007199254740992∧1023<x)∨(m<9007199254740992∧x≤1023∧m % 2=0∧m≠0)∨(m=0∧x≤1023∧x≠0)∨(m<9007199254740992∧x≤1023∧m % 2=1∧¬ ((m.log2:Int)+1+x≤1024))))) ∨
   (b1=true∧b2=true∧m<9007199254740992∧x≤1023∧((m % 2=1)∨(m=0∧x=0))∧((m=0∨(m.log2:Int)+1+x≤1024)∧realT A N M D1 D2 false=(⟨3,[],0,realBits m x,A,N+M⟩,0))):=by
  rcases HF1' with ⟨e1,f1,_⟩|⟨e1,f1⟩
  ·rcases HF2' with ⟨e2,f2,_⟩|⟨e2,f2⟩
   ·have hr:realT A N M D1 D2 false=(match realC m x false with|some b=>(⟨3,[],0,b,A,N+M⟩,0)|none=>(zeroTok,12)):=by unfold realT;rw[f1,f2]
    rw[hr];unfold realC;by_cases hc:9007199254740992≤m∨1023<x∨(m % 2=0∧m≠0)∨(m=0∧x≠0)
    ·left;refine⟨by rw[if_pos (by simpa using hc)],.inr (.inr ⟨e1,e2,?_⟩)⟩;omega
    ·by_cases hi:m=0∨(m.log2:Int)+1+x≤1024
     ·right;refine⟨e1,e2,by omega,by omega,by omega,hi,?_⟩;rw[if_neg (by simpa using hc),if_neg (by simp),if_pos hi]
     ·left;refine⟨by rw[if_neg (by simpa using hc),if_neg (by simp),if_neg hi],.inr (.inr ⟨e1,e2,?_⟩)⟩;omega
   ·left;refine⟨by unfold realT;rw[f1,f2],.inr (.inl ⟨e1,e2⟩)⟩
  ·left;refine⟨by unfold realT;rw[f1],.inl e1⟩
 rcases hway with ⟨hn,hw⟩|⟨rfl,rfl,g1,g2,g3,hok⟩
 ·have HN:=hid hn;have hx1:x≤9223372036854775807∨b2=false:=by
   rcases HF2' with ⟨_,_,h⟩|⟨h,_⟩
   ·exact .inl h
   ·exact .inr h
  have hm1:m≤9223372036854775807∨b1=false:=by
   rcases HF1' with ⟨_,_,h⟩|⟨h,_⟩
   ·exact .inl h
   ·exact .inr h
  clear hn HF1' HF2' HF1 HF2;rcases hw with rfl|⟨rfl,rfl⟩|⟨rfl,rfl,hw⟩
  ·clear hm1;go_wp2_with fail;refine bodyPost_ret (v:=.tuple #[.agg #[.int .i64 0,.string ⟨#[]⟩,.int .i64 0,.float .f64 0,.int .i64 0,.int .i64 0],.int .i64 12]) (by simp[results,Tryz.results86,go_sem]) rfl ?_;rw[HN.out];exact⟨rfl,(Below.refl _ _).alloc (Nat.le_refl _) _⟩
  ·clear hx1;go_wp2_with fail;refine bodyPost_ret (v:=.tuple #[.agg #[.int .i64 0,.string ⟨#[]⟩,.int .i64 0,.float .f64 0,.int .i64 0,.int .i64 0],.int .i64 12]) (by simp[results,Tryz.results86,go_sem]) rfl ?_;rw[HN.out];exact⟨rfl,(Below.refl _ _).alloc (Nat.le_refl _) _⟩
  ·have hx2:x≤9223372036854775807:=by rcases hx1 with h|h;exact h;cases h
   have hm2:m≤9223372036854775807:=by rcases hm1 with h|h;exact h;cases h
   clear hx1 hm1;rcases hw with h1|⟨h1,h2⟩|⟨h1,h2,h3,h4⟩|⟨h1,h2,h3⟩|⟨h1,h2,h3,h4⟩
   ·have f1:decide ((9007199254740992:Int)≤(m:Int))=true:=by rw[decide_eq_true_eq];omega
    have f1':decide (9007199254740992≤m)=true:=by rw[decide_eq_true_eq];omega
    clear h1;go_wp2_with fail;refine bodyPost_ret (v:=.tuple #[.agg #[.int .i64 0,.string ⟨#[]⟩,.int .i64 0,.float .f64 0,.int .i64 0,.int .i64 0],.int .i64 12]) (by simp[results,Tryz.results86,go_sem]) rfl ?_;rw[HN.out];exact⟨rfl,(Below.refl _ _).alloc (Nat.le_refl _) _⟩
   ·have f1:decide ((9007199254740992:Int)≤(m:Int))=false:=by rw[decide_eq_false_iff_not];omega
    have f1':decide (9007199254740992≤m)=false:=by rw[decide_eq_false_iff_not];omega
    have f2:decide ((1023:Int)<(x:Int))=true:=by rw[decide_eq_true_eq];omega
    have f2':decide (1023<x)=true:=by rw[decide_eq_true_eq];omega
    clear h1 h2;go_wp2_with fail;refine bodyPost_ret (v:=.tuple #[.agg #[.int .i64 0,.string ⟨#[]⟩,.int .i64 0,.float .f64 0,.int .i64 0,.int .i64 0],.int .i64 12]) (by simp[results,Tryz.results86,go_sem]) rfl ?_;rw[HN.out];exact⟨rfl,(Below.refl _ _).alloc (Nat.le_refl _) _⟩
   ·have f1:decide ((9007199254740992:Int)≤(m:Int))=false:=by rw[decide_eq_false_iff_not];omega
    have f1':decide (9007199254740992≤m)=false:=by rw[decide_eq_false_iff_not];omega
    have f2:decide ((1023:Int)<(x:Int))=false:=by rw[decide_eq_false_iff_not];omega
    have f2':decide (1023<x)=false:=by rw[decide_eq_false_iff_not];omega
    have f3:((m:Int) % 2==0)=true:=by rw[beq_iff_eq];omega
    have f4:((m:Int)==0)=false:=by rw[beq_eq_false_iff_ne];omega
    have f4':((m:Int) != 0)=true:=by rw[bne_iff_ne];omega
    have f4n:(m==0)=false:=by rw[beq_eq_false_iff_ne];omega
    have f4m:(m != 0)=true:=by rw[bne_iff_ne];omega
    clear h1 h2 h3 h4;go_wp2_with fail;refine bodyPost_ret (v:=.tuple #[.agg #[.int .i64 0,.string ⟨#[]⟩,.int .i64 0,.float .f64 0,.int .i64 0,.int .i64 0],.int .i64 12]) (by simp[results,Tryz.results86,go_sem]) rfl ?_;rw[HN.out];exact⟨rfl,(Below.refl _ _).alloc (Nat.le_refl _) _⟩
   ·have f1:decide ((9007199254740992:Int)≤(m:Int))=false:=by rw[decide_eq_false_iff_not];omega
    have f1':decide (9007199254740992≤m)=false:=by rw[decide_eq_false_iff_not];omega
    have f2:decide ((1023:Int)<(x:Int))=false:=by rw[decide_eq_false_iff_not];omega
    have f2':decide (1023<x)=false:=by rw[decide_eq_false_iff_not];omega
    have f3:((m:Int) % 2==0)=true:=by rw[beq_iff_eq];omega
    have f4:((m:Int)==0)=true:=by rw[beq_iff_eq];omega
    have f4':((m:Int) != 0)=false:=by rw[bne_eq_false_iff_eq];omega
    have f4n:(m==0)=true:=by rw[beq_iff_eq];omega
    have f4m:(m != 0)=false:=by rw[bne_eq_false_iff_eq];omega
    have f5:((x:Int)==0)=false:=by rw[beq_eq_false_iff_ne];omega
    have f5':((x:Int) != 0)=true:=by rw[bne_iff_ne];omega
    have f5n:(x==0)=false:=by rw[beq_eq_false_iff_ne];omega
    have f5m:(x != 0)=true:=by rw[bne_iff_ne];omega
    clear h1 h2 h3;go_wp2_with fail;refine bodyPost_ret (v:=.tuple #[.agg #[.int .i64 0,.string ⟨#[]⟩,.int .i64 0,.float .f64 0,.int .i64 0,.int .i64 0],.int .i64 12]) (by simp[results,Tryz.results86,go_sem]) rfl ?_;rw[HN.out];exact⟨rfl,(Below.refl _ _).alloc (Nat.le_refl _) _⟩
   ·have f1:decide ((9007199254740992:Int)≤(m:Int))=false:=by rw[decide_eq_false_iff_not];omega
    have f1':decide (9007199254740992≤m)=false:=by rw[decide_eq_false_iff_not];omega
    have f2:decide ((1023:Int)<(x:Int))=false:=by rw[decide_eq_false_iff_not];omega
    have f2':decide (1023<x)=false:=by rw[decide_eq_false_iff_not];omega
    have f3:((m:Int) % 2==0)=false:=by rw[beq_eq_false_iff_ne];omega
    have f4:((m:Int)==0)=false:=by rw[beq_eq_false_iff_ne];omega
    have f4':((m:Int) != 0)=true:=by rw[bne_iff_ne];omega
    have f4n:(m==0)=false:=by rw[beq_eq_false_iff_ne];omega
    have f4m:(m != 0)=true:=by rw[bne_iff_ne];omega
    have HP:Hid (∀ w,Calls Tryz.prog 102 #[.int .i64 m,.int .i64 x,.bool false] w fun e w'=>e=.returned (.float .f64 9218868437227405312)∧w=w'):=by
     have:∀ w,Calls Tryz.prog 102 #[.int .i64 m,.int .i64 x,.bool false] w fun e w'=>e=.returned (.float .f64 9218868437227405312)∧w=w':=by rw[← real_inf m x (by omega) h1 (by omega) h4];exact fun w=>power_up m x w h1 (by omega) (by omega)
     exact this
    clear h1 h2 h3 h4;go_wp2_with fail;refine(HP.out _).mono ?_;rintro e w1 ⟨rfl,rfl⟩;obtain⟨r,hs,hz⟩:=run_inf_less 57 (w.alloc (.cells #[.int .i64 0,.string ⟨#[]⟩,.int .i64 0,.float .f64 0,.int .i64 0,.int .i64 0] 59));go_wp2_with fail;refine bodyPost_ret (v:=.tuple #[.agg #[.int .i64 0,.string ⟨#[]⟩,.int .i64 0,.float .f64 0,.int .i64 0,.int .i64 0],.int .i64 12]) (by simp[results,Tryz.results86,go_sem]) rfl ?_;rw[HN.out];exact⟨rfl,((Below.refl _ _).alloc (Nat.le_refl _) _).drew⟩
 ·obtain⟨hfin,hok⟩:=hok;clear HF1' HF2' HF1 HF2;rcases g3 with g3|⟨g3,g4⟩
  ·have f1:decide ((9007199254740992:Int)≤(m:Int))=false:=by rw[decide_eq_false_iff_not];omega
   have f1':decide (9007199254740992≤m)=false:=by rw[decide_eq_false_iff_not];omega
   have f2:decide ((1023:Int)<(x:Int))=false:=by rw[decide_eq_false_iff_not];omega
   have f2':decide (1023<x)=false:=by rw[decide_eq_false_iff_not];omega
   have f3:((m:Int) % 2==0)=false:=by rw[beq_eq_false_iff_ne];omega
   have f4:((m:Int)==0)=false:=by rw[beq_eq_false_iff_ne];omega
   have f4':((m:Int) != 0)=true:=by rw[bne_iff_ne];omega
   have f4n:(m==0)=false:=by rw[beq_eq_false_iff_ne];omega
   have f4m:(m != 0)=true:=by rw[bne_iff_ne];omega
   obtain⟨r,hr⟩:∃ r,r=realBits m x:=⟨_,rfl⟩
   have HP:Hid (∀ w,Calls Tryz.prog 102 #[.int .i64 m,.int .i64 x,.bool false] w fun e w'=>e=.returned (.float .f64 r)∧w=w'):=by
    have:∀ w,Calls Tryz.prog 102 #[.int .i64 m,.int .i64 x,.bool false] w fun e w'=>e=.returned (.float .f64 r)∧w=w':=by rw[hr];exact fun w=>power_up m x w g1 (by omega) (by omega)
    exact this
   have hs:∀ t w,(binOp .sub t (.float .f64 r) (.float .f64 r)).run Tryz.prog w=.ok (.float .f64 0) w:=fun t w=>run_float_arith (h:=by rw[hr];exact less_self m _ (by omega) g1 (by omega) (by omega)) ..;have hz:(FloatKind.f64.format.order 0 0 != some Ordering.eq)=false:=by decide
   rw[← hr] at hok;have HOK:=hid hok;clear hok hr g1 g2 g3;go_wp2_with fail;refine(HP.out _).mono ?_;rintro e w1 ⟨rfl,rfl⟩;go_wp2_with fail;refine bodyPost_ret (v:=.tuple #[.agg #[.int .i64 3,.string ⟨#[]⟩,.int .i64 0,.float .f64 r,.int .i64 A,.int .i64 (↑N+↑M)],.int .i64 0]) (by simp[results,Tryz.results86,go_sem]) rfl ?_;rw[HOK.out];exact⟨rfl,(Below.refl _ _).alloc (Nat.le_refl _) _⟩
  ·have f1:decide ((9007199254740992:Int)≤(m:Int))=false:=by rw[decide_eq_false_iff_not];omega
   have f1':decide (9007199254740992≤m)=false:=by rw[decide_eq_false_iff_not];omega
   have f2:decide ((1023:Int)<(x:Int))=false:=by rw[decide_eq_false_iff_not];omega
   have f2':decide (1023<x)=false:=by rw[decide_eq_false_iff_not];omega
   have f3:((m:Int) % 2==0)=true:=by rw[beq_iff_eq];omega
   have f4:((m:Int)==0)=true:=by rw[beq_iff_eq];omega
   have f4':((m:Int) != 0)=false:=by rw[bne_eq_false_iff_eq];omega
   have f4n:(m==0)=true:=by rw[beq_iff_eq];omega
   have f4m:(m != 0)=false:=by rw[bne_eq_false_iff_eq];omega
   have f5:((x:Int)==0)=true:=by rw[beq_iff_eq];omega
   have f5':((x:Int) != 0)=false:=by rw[bne_eq_false_iff_eq];omega
   have f5n:(x==0)=true:=by rw[beq_iff_eq];omega
   have f5m:(x != 0)=false:=by rw[bne_eq_false_iff_eq];omega
   obtain⟨r,hr⟩:∃ r,r=realBits m x:=⟨_,rfl⟩
   have HP:Hid (∀ w,Calls Tryz.prog 102 #[.int .i64 m,.int .i64 x,.bool false] w fun e w'=>e=.returned (.float .f64 r)∧w=w'):=by
    have:∀ w,Calls Tryz.prog 102 #[.int .i64 m,.int .i64 x,.bool false] w fun e w'=>e=.returned (.float .f64 r)∧w=w':=by rw[hr];exact fun w=>power_up m x w g1 (by omega) (by omega)
    exact this
   have hs:∀ t w,(binOp .sub t (.float .f64 r) (.float .f64 r)).run Tryz.prog w=.ok (.float .f64 0) w:=fun t w=>run_float_arith (h:=by rw[hr];rw[g3,g4];exact zero_less) ..;have hz:(FloatKind.f64.format.order 0 0 != some Ordering.eq)=false:=by decide
   rw[← hr] at hok;have HOK:=hid hok;clear hok hr g1 g2 g3 g4;go_wp2_with fail;refine(HP.out _).mono ?_;rintro e w1 ⟨rfl,rfl⟩;go_wp2_with fail;refine bodyPost_ret (v:=.tuple #[.agg #[.int .i64 3,.string ⟨#[]⟩,.int .i64 0,.float .f64 r,.int .i64 A,.int .i64 (↑N+↑M)],.int .i64 0]) (by simp[results,Tryz.results86,go_sem]) rfl ?_;rw[HOK.out];exact⟨rfl,(Below.refl _ _).alloc (Nat.le_refl _) _⟩
set_option maxHeartbeats 8000000
theorem tw_digits (l:List UInt8) (A:Nat):∀ c ∈ (l.drop A).take (tw digitB l A),48≤c.toNat∧c.toNat≤57:=by
 unfold tw;have h:(l.drop A).take ((l.drop A).takeWhile digitB).length=(l.drop A).takeWhile digitB:=by
  have:=List.prefix_iff_eq_take.1 (List.takeWhile_prefix digitB (l:=l.drop A));exact this.symm
 rw[h];intro c hc;have hall:((l.drop A).takeWhile digitB).all digitB=true:=List.all_takeWhile;have:=List.all_eq_true.1 hall c hc
 simpa [digitB] using this
theorem tw_end (l:List UInt8) (A:Nat) (hA:A≤l.length):A+tw digitB l A≤l.length:=by
 have:=tw_le digitB l A;omega
theorem endF_ways (l:List UInt8) (d:Nat) (hd:d≤l.length):(endF l d=(0,0))∨∃ H M,(H=1∨H=2)∧endF l d=(M,H)∧H<M∧d+M≤l.length∧M-H=tw digitB l (d+H):=by
 unfold endF;by_cases h1:bAt l d=112
 ·rw[if_pos h1];obtain⟨H,hH,hif,hlen⟩:∃ H,(H=1∨H=2)∧(if bAt l (d+1)=45 then 2 else 1)=H∧d+H≤l.length:=by
   have hlt:d<l.length:=by
    rcases Nat.lt_or_ge d l.length with h|h
    ·exact h
    ·rw[bAt_ge h] at h1;cases h1
   by_cases h45:bAt l (d+1)=45
   ·have hlt2:d+1<l.length:=by
     rcases Nat.lt_or_ge (d+1) l.length with h|h
     ·exact h
     ·rw[bAt_ge h] at h45;cases h45
    exact⟨2,.inr rfl,if_pos h45,by omega⟩
   ·exact⟨1,.inl rfl,if_neg h45,by omega⟩
  rw[hif];by_cases h0:tw digitB l (d+H)=0
  ·left;rw[if_pos h0]
  ·right;rw[if_neg h0];have:=tw_end l (d+H) hlen;exact⟨H,H+tw digitB l (d+H),hH,rfl,by omega,by omega,by omega⟩
 ·left;rw[if_neg h1]
def followsB (l:List UInt8) (L:Nat):Bool:=wordB (bAt l L)
def noughtsB (l:List UInt8) (A N M H:Nat):Bool:=(bAt l A==48 && decide (1<N)) || (decide (H+1<M) && bAt l (A+N+H)==48)
def refNum (l:List UInt8) (A:Nat):Tok × Nat :=
 if (followsB l (A+tw digitB l A+(endF l (A+tw digitB l A)).1) || noughtsB l A (tw digitB l A) (endF l (A+tw digitB l A)).1 (endF l (A+tw digitB l A)).2)=true then (zeroTok,12)
 else if 0<(endF l (A+tw digitB l A)).1 then realT A (tw digitB l A) (endF l (A+tw digitB l A)).1 ((l.drop A).take (tw digitB l A)) ((l.drop (A+tw digitB l A+(endF l (A+tw digitB l A)).2)).take ((endF l (A+tw digitB l A)).1-(endF l (A+tw digitB l A)).2)) ((endF l (A+tw digitB l A)).2==2)
 else match refW ((l.drop A).take (tw digitB l A)) with|some v=>(⟨2,[],v,0,A,tw digitB l A⟩,0)|none=>(zeroTok,12)
def FolFacts (w:World) (b o n L:Nat) (f:Bool):Prop :=
 (decide (L<n)=false∧f=false)∨(decide (L<n)=true∧L<n∧∃ c:UInt8,(∀ W:World,(∀ i,W.cell? ⟨b,i,none⟩=w.cell? ⟨b,i,none⟩)→W.cell? ⟨b,o+L,none⟩=some (.int .u8 (c.toNat:Int))) ∧
  ((letterB c=true∧f=true)∨(letterB c=false∧digitB c=true∧f=true)∨(letterB c=false∧digitB c=false∧((c.toNat:Int)==95)=true∧f=true)∨(letterB c=false∧digitB c=false∧((c.toNat:Int)==95)=false∧f=false)))
theorem fol_facts {w:World} {b o n cap L:Nat} {l:List UInt8} (hT:Txt w (some ⟨b,o,none⟩) n cap l):FolFacts w b o n L (followsB l L):=by
 have hl:=hT.1;unfold FolFacts followsB;rcases Nat.lt_or_ge L n with h|h
 ·right;refine⟨by rw[decide_eq_true_eq];exact h,h,bAt l L,?_,?_⟩
  ·intro W hW;obtain⟨b',o',e,hc⟩:=hT.cellAt h;cases e;rw[hW];exact hc
  ·have f95:(bAt l L==95)=(((bAt l L).toNat:Int)==95):=by
    obtain⟨j1,j2⟩:=u8_is (c:=bAt l L) (k:=95) (by decide);by_cases h95:bAt l L=95
    ·have:=(j1 h95).1;rw[show ((95:Nat):Int)=95 from rfl] at this;rw[this,h95];rfl
    ·have:=(j2 h95).1;rw[show ((95:Nat):Int)=95 from rfl] at this;rw[this,beq_eq_false_iff_ne];exact h95
   unfold wordB;rw[f95];cases letterB (bAt l L) <;> cases digitB (bAt l L) <;> cases (((bAt l L).toNat:Int)==95) <;> simp
 ·left;exact⟨by rw[decide_eq_false_iff_not];omega,by rw[bAt_ge (by omega)];exact word0⟩
def NouFacts (w:World) (b o n A N M H:Nat) (f:Bool):Prop :=
 ∃ c:UInt8,w.cell? ⟨b,o+A,none⟩=some (.int .u8 (c.toNat:Int)) ∧
  ((((c.toNat:Int)==48)=true∧decide (1<N)=true∧f=true) ∨
  (((((c.toNat:Int)==48)=true∧decide (1<N)=false)∨((c.toNat:Int)==48)=false) ∧
   ((decide (H+1<M)=false∧f=false)∨(decide (H+1<M)=true∧H+1<M∧∃ d:UInt8,w.cell? ⟨b,o+(A+N+H),none⟩=some (.int .u8 (d.toNat:Int))∧((d.toNat:Int)==48)=f))))
theorem eq48 (c:UInt8):(c==48)=((c.toNat:Int)==48):=by
 obtain⟨j1,j2⟩:=u8_is (c:=c) (k:=48) (by decide);by_cases h:c=48
 ·have:=(j1 h).1;rw[show ((48:Nat):Int)=48 from rfl] at this;rw[this,h];rfl
 ·have:=(j2 h).1;rw[show ((48:Nat):Int)=48 from rfl] at this;rw[this,beq_eq_false_iff_ne];exact h
theorem nou_facts {w:World} {b o n cap A N M H:Nat} {l:List UInt8} (hT:Txt w (some ⟨b,o,none⟩) n cap l) (hA:A<n) (hL:A+N+M≤n):NouFacts w b o n A N M H (noughtsB l A N M H):=by
 obtain⟨b',o',e,hc⟩:=hT.cellAt hA;cases e;refine⟨bAt l A,hc,?_⟩;unfold noughtsB;rw[eq48];have hrest:((decide (H+1<M)=false∧(decide (H+1<M) && bAt l (A+N+H)==48)=false)∨(decide (H+1<M)=true∧H+1<M∧∃ d:UInt8,w.cell? ⟨b,o+(A+N+H),none⟩=some (.int .u8 (d.toNat:Int))∧((d.toNat:Int)==48)=(decide (H+1<M) && bAt l (A+N+H)==48))):=by
  by_cases h:H+1<M
  ·right;obtain⟨b',o',e,hc'⟩:=hT.cellAt (show A+N+H<n by omega);cases e;exact⟨by simpa using h,h,_,hc',by rw[eq48];simp[h]⟩
  ·left;simp[h]
 cases h1:(((bAt l A).toNat:Int)==48) <;> cases h2:decide (1<N)
 ·right;exact⟨.inr rfl,by simpa using hrest⟩
 ·right;exact⟨.inr rfl,by simpa using hrest⟩
 ·right;exact⟨.inl ⟨rfl,rfl⟩,by simpa using hrest⟩
 ·left;exact⟨rfl,rfl,rfl⟩
theorem refNumber_any (a:Option Addr) (n cap A:Nat) (l:List UInt8) (w:World) (hT:Txt w a n cap l) (hr:n≤140737488351232) (hA:A<n) (hdig:digitB (bAt l A)=true) :
  Calls Tryz.prog 66 #[.slice a n cap,.int .i64 A] w fun e w'=>RTok (refNum l A) w e w':=by
 have sf:∀ (p:Addr) (b:Nat) (m:Mode) (w':World),(store p (.float .f64 b) m).run Tryz.prog w'=stored Tryz.prog w' p (.float .f64 b) m:=fun p b m w'=>run_store _ w' p _ m rfl;have hl:=hT.1;obtain⟨b,o,rfl,hcell⟩:=hT.cellAt hA;have hb:b<w.heap.size:=World.block_lt_of_cell? w _ hcell;clear hcell;obtain⟨N,hN⟩:∃ N,N=tw digitB l A:=⟨_,rfl⟩
 have hN1:1≤N:=by rw[hN,(tw_yes hdig digit0).2];omega
 have hAN:A+N≤n:=by rw[hN,← hl];exact tw_end l A (by omega)
 have hD1:∀ c ∈ (l.drop A).take N,48≤c.toNat∧c.toNat≤57:=by rw[hN];exact tw_digits l A
 obtain⟨M,H,hMH,hL,hw⟩:∃ M H,endF l (A+N)=(M,H)∧A+N+M≤n∧((M=0∧H=0)∨((H=1∨H=2)∧H<M∧M-H=tw digitB l (A+N+H))):=by
  rcases endF_ways l (A+N) (by omega) with h|⟨H,M,h1,h2,h3,h4,h5⟩
  ·exact⟨0,0,h,hAN,.inl ⟨rfl,rfl⟩⟩
  ·exact⟨M,H,h2,by omega,.inr ⟨h1,h3,h5⟩⟩
 have hnum:refNum l A=(if (followsB l (A+N+M) || noughtsB l A N M H)=true then (zeroTok,12)
   else if 0<M then realT A N M ((l.drop A).take N) ((l.drop (A+N+H)).take (M-H)) (H==2)
   else match refW ((l.drop A).take N) with|some v=>(⟨2,[],v,0,A,N⟩,0)|none=>(zeroTok,12)):=by
  unfold refNum;rw[← hN,hMH]
 have HFOL:=hid (fol_facts (L:=A+N+M) hT);have HNOU:=hid (nou_facts (N:=N) (M:=M) (H:=H) hT hA hL);have HDG:Hid (∀ W,Below w.heap.size w W→Calls Tryz.prog 84 #[.slice (some ⟨b,o,none⟩) n cap,.int .i64 A] W fun e w'=>e=.returned (.int .i64 N)∧W=w'):=by
  have:∀ W,Below w.heap.size w W→Calls Tryz.prog 84 #[.slice (some ⟨b,o,none⟩) n cap,.int .i64 A] W fun e w'=>e=.returned (.int .i64 N)∧W=w':=by
   intro W hW;rw[hN];exact digits_any _ n cap A l W (hT.below hW (Nat.le_refl _)) hr (by omega)
  exact this
 have HEN:Hid (∀ W,Below w.heap.size w W→Calls Tryz.prog 85 #[.slice (some ⟨b,o,none⟩) n cap,.int .i64 ((A:Int)+(N:Int))] W fun e w'=>e=.returned (.tuple #[.int .i64 M,.int .i64 H])∧W=w'):=by
  have:∀ W,Below w.heap.size w W→Calls Tryz.prog 85 #[.slice (some ⟨b,o,none⟩) n cap,.int .i64 ((A:Int)+(N:Int))] W fun e w'=>e=.returned (.tuple #[.int .i64 M,.int .i64 H])∧W=w':=by
   intro W hW;have:=refEnd_any (some ⟨b,o,none⟩) n cap (A+N) l W (hT.below hW (Nat.le_refl _)) hr hAN;rw[hMH] at this;exact this
  exact this
 obtain⟨fol,hfol⟩:∃ fol,fol=followsB l (A+N+M):=⟨_,rfl⟩
 obtain⟨nou,hnou⟩:∃ nou,nou=noughtsB l A N M H:=⟨_,rfl⟩
 rw[← hfol] at HFOL hnum;rw[← hnou] at HNOU hnum;have HNUM:=hid hnum;have HT:=hid hT;have HD1:=hid hD1;have HW:=hid hw;have h48:n≤140737488351232:=hr;have hMn:M≤n:=by omega
 have hHn:H≤2:=by omega
 clear hT hl hN hD1 hMH hw hnum hfol hnou hdig;have hB0:Below w.heap.size w (w.alloc (.cells #[.int .i64 0,.string ⟨#[]⟩,.int .i64 0,.float .f64 0,.int .i64 0,.int .i64 0] 59)):=(Below.refl w.heap.size w).alloc (Nat.le_refl _) _;have HB0:=hid hB0;clear hB0;go_enter Tryz.func66,Tryz.ntmps66;go_wp2_with fail;refine(HDG.out _ HB0.out).mono ?_;rintro e w1 ⟨rfl,rfl⟩;go_wp2_with fail;refine(HEN.out _ HB0.out).mono ?_;rintro e w1 ⟨rfl,rfl⟩;have hF:=HFOL.out;have hN:=HNOU.out;unfold FolFacts at hF;unfold NouFacts at hN;obtain⟨c,hc0,hN⟩:=hN;have hF2:=HFOL.out;clear hF HFOL HNOU;rcases hF2 with ⟨q1,rfl⟩|⟨q1,q1',d,hcd,q2⟩
 ·have q1i:decide ((A:Int)+(N:Int)+(M:Int)<(n:Int))=false:=by rw[decide_eq_false_iff_not];have:=of_decide_eq_false q1;omega
  rcases hN with ⟨n1,n2,rfl⟩|⟨⟨n1,n2⟩|n1,⟨n3,rfl⟩|⟨n3,n3',d7,n4,n5⟩⟩
  ·have p1:decide ((1:Int)<(N:Int))=true:=by rw[decide_eq_true_eq];have:=of_decide_eq_true n2;omega
   go_wp2_with fail;refine bodyPost_ret (v:=.tuple #[.agg #[.int .i64 0,.string ⟨#[]⟩,.int .i64 0,.float .f64 0,.int .i64 0,.int .i64 0],.int .i64 12]) (by simp[results,Tryz.results66,go_sem]) rfl ?_;rw[HNUM.out,if_pos (by simp)];exact⟨rfl,(Below.refl _ _).alloc (Nat.le_refl _) _⟩
  ·have p1:decide ((1:Int)<(N:Int))=false:=by rw[decide_eq_false_iff_not];have:=of_decide_eq_false n2;omega
   have p2:decide ((H:Int)+1<(M:Int))=false:=by rw[decide_eq_false_iff_not];have:=of_decide_eq_false n3;omega
   rcases Nat.eq_zero_or_pos M with hM0|hM0
   ·obtain⟨rfl,rfl⟩:M=0∧H=0:=by have:=HW.out;omega
    have q1l:decide ((A:Int)+(N:Int)<(n:Int))=false:=by simpa using q1i
    have q1m:decide (A+N<n)=false:=by simpa using q1
    skip
    obtain⟨a1,hs1,hT1⟩:=slice_mid A (A+N) HT.out (Nat.le_add_right _ _) hAN;rw[Nat.add_sub_cancel_left] at hs1 hT1;have hs1':∀ w',(Instr.slice 22 (.slice (some ⟨b,o,none⟩) n cap) (some (.int .i64 (A:Int))) (some (.int .i64 ((A:Int)+(N:Int)))) none).run Tryz.prog w'=.ok (.slice a1 N (cap-A)) w':=hs1;obtain⟨v,bl,hc1,hf1⟩:=refW_ways a1 N (cap-A) ((l.drop A).take N) (by omega) HD1.out;have HC1:=hid (hc1 _ (hT1.below HB0.out (Nat.le_refl _)));have HF1:=hid hf1;clear hs1 hT1 hc1 hf1;go_wp2_with fail;refine HC1.out.mono ?_;rintro e w1 ⟨rfl,rfl⟩;have hf1:=HF1.out;rcases hf1 with ⟨rfl,f1,_⟩|⟨rfl,f1⟩
    ·have F1:=hid f1;clear f1 HF1;go_wp2_with fail;refine bodyPost_ret (v:=.tuple #[.agg #[.int .i64 2,.string ⟨#[]⟩,.int .i64 v,.float .f64 0,.int .i64 A,.int .i64 N],.int .i64 0]) (by simp[results,Tryz.results66,go_sem]) rfl ?_;rw[HNUM.out,if_neg (by simp),if_neg (by omega),F1.out];exact⟨rfl,(Below.refl _ _).alloc (Nat.le_refl _) _⟩
    ·have F1:=hid f1;clear f1 HF1;go_wp2_with fail;refine bodyPost_ret (v:=.tuple #[.agg #[.int .i64 0,.string ⟨#[]⟩,.int .i64 0,.float .f64 0,.int .i64 0,.int .i64 0],.int .i64 12]) (by simp[results,Tryz.results66,go_sem]) rfl ?_;rw[HNUM.out,if_neg (by simp),if_neg (by omega),F1.out];exact⟨rfl,(Below.refl _ _).alloc (Nat.le_refl _) _⟩
   ·have hHM:(H=1∨H=2)∧H<M∧M-H=tw digitB l (A+N+H):=by have:=HW.out;omega
    obtain⟨t,ht⟩:∃ t,t=realT A N M ((l.drop A).take N) ((l.drop (A+N+H)).take (M-H)) (H==2):=⟨_,rfl⟩
    have HRL:Hid (∀ W,Below w.heap.size w W→Calls Tryz.prog 86 #[.slice (some ⟨b,o,none⟩) n cap,.int .i64 A,.int .i64 N,.int .i64 M,.int .i64 H] W fun e w'=>RTok t W e w'):=by
     have:∀ W,Below w.heap.size w W→Calls Tryz.prog 86 #[.slice (some ⟨b,o,none⟩) n cap,.int .i64 A,.int .i64 N,.int .i64 M,.int .i64 H] W fun e w'=>RTok t W e w':=by
      intro W hW;have hd2:∀ c ∈ (l.drop (A+N+H)).take (M-H),48≤c.toNat∧c.toNat≤57:=by rw[hHM.2.2];exact tw_digits l _
      rw[ht];rcases hHM.1 with h1|h1
      ·subst h1;exact refReal_up _ n cap A N M l W (HT.out.below hW (Nat.le_refl _)) h48 hL (by omega) HD1.out hd2
      ·subst h1;exact refReal_down _ n cap A N M l W (HT.out.below hW (Nat.le_refl _)) h48 hL (by omega) HD1.out hd2
     exact this
    have HQ:Hid (refNum l A=t):=by
     have:refNum l A=t:=by rw[HNUM.out,if_neg (by simp),if_pos (by omega),ht]
     exact this
    have hM1:decide ((0:Int)<(M:Int))=true:=by rw[decide_eq_true_eq];omega
    have hM1':decide (0<M)=true:=by rw[decide_eq_true_eq];omega
    clear hHM ht HNUM HW;go_wp2_with fail;refine(HRL.out _ HB0.out).mono ?_;rintro e w5 hrt;obtain⟨⟨k0,t0,i0,r0,a0,s0⟩,er⟩:=t;obtain⟨rfl,hb5⟩:=hrt;unfold tokVal;have hz5:w.heap.size+1≤w5.heap.size:=by have:=hb5.size;simpa using this
    have cq:∀ j,w5.cell? ⟨w.heap.size,j,none⟩=_:=fun j=>hb5.cell (p:=⟨w.heap.size,j,none⟩) (by simp);have fq:∀ j,w5.frozen? ⟨w.heap.size,j,none⟩=_:=fun j=>hb5.frozen (p:=⟨w.heap.size,j,none⟩) (by simp);have z0:w5.cell? ⟨w.heap.size,0,none⟩=some (.int .i64 0):=by rw[cq];simp
    have z1:w5.cell? ⟨w.heap.size,1,none⟩=some (.string ⟨#[]⟩):=by rw[cq];simp
    have z2:w5.cell? ⟨w.heap.size,2,none⟩=some (.int .i64 0):=by rw[cq];simp
    have z3:w5.cell? ⟨w.heap.size,3,none⟩=some (.float .f64 0):=by rw[cq];simp
    have z4:w5.cell? ⟨w.heap.size,4,none⟩=some (.int .i64 0):=by rw[cq];simp
    have z5:w5.cell? ⟨w.heap.size,5,none⟩=some (.int .i64 0):=by rw[cq];simp
    have fz:∀ j,w5.frozen? ⟨w.heap.size,j,none⟩=false:=fun j=>by rw[fq];simp
    have HB5:=hid (HB0.out.trans (hb5.mono (by simp)));have hlt5:w.heap.size<w5.heap.size:=by omega
    obtain⟨wx,hwx⟩:∃ wx,wx=w5.alloc (.cells #[.int .i64 k0,.string ⟨t0.toArray⟩,.int .i64 i0,.float .f64 r0,.int .i64 a0,.int .i64 s0] 59):=⟨_,rfl⟩
    have y0:wx.cell? ⟨w.heap.size,0,none⟩=some (.int .i64 0):=by rw[hwx];exact cell_keep _ z0
    have y1:wx.cell? ⟨w.heap.size,1,none⟩=some (.string ⟨#[]⟩):=by rw[hwx];exact cell_keep _ z1
    have y2:wx.cell? ⟨w.heap.size,2,none⟩=some (.int .i64 0):=by rw[hwx];exact cell_keep _ z2
    have y3:wx.cell? ⟨w.heap.size,3,none⟩=some (.float .f64 0):=by rw[hwx];exact cell_keep _ z3
    have y4:wx.cell? ⟨w.heap.size,4,none⟩=some (.int .i64 0):=by rw[hwx];exact cell_keep _ z4
    have y5:wx.cell? ⟨w.heap.size,5,none⟩=some (.int .i64 0):=by rw[hwx];exact cell_keep _ z5
    have x0:wx.cell? ⟨w5.heap.size,0,none⟩=some (.int .i64 k0):=by rw[hwx];simp
    have x1:wx.cell? ⟨w5.heap.size,1,none⟩=some (.string ⟨t0.toArray⟩):=by rw[hwx];simp
    have x2:wx.cell? ⟨w5.heap.size,2,none⟩=some (.int .i64 i0):=by rw[hwx];simp
    have x3:wx.cell? ⟨w5.heap.size,3,none⟩=some (.float .f64 r0):=by rw[hwx];simp
    have x4:wx.cell? ⟨w5.heap.size,4,none⟩=some (.int .i64 a0):=by rw[hwx];simp
    have x5:wx.cell? ⟨w5.heap.size,5,none⟩=some (.int .i64 s0):=by rw[hwx];simp
    have fy:∀ j,wx.frozen? ⟨w.heap.size,j,none⟩=false:=fun j=>by rw[hwx];exact(((Below.refl w5.heap.size w5).alloc (Nat.le_refl _) _).frozen (p:=⟨w.heap.size,j,none⟩) hlt5).trans (fz j)
    have f0:=fy 0;have f1:=fy 1;have f2:=fy 2;have f3:=fy 3;have f4:=fy 4;have f5:=fy 5;have hBx:Below w.heap.size w wx:=by rw[hwx];exact HB5.out.alloc (by omega) _
    have HBX:=hid hBx;have HWX:=hid hwx;clear cq fq hb5 z0 z1 z2 z3 z4 z5 fz fy hBx hwx;go_upto_region 10 with (fail);rw[← HWX.out];go_wp2_with fail;refine bodyPost_ret (v:=.tuple #[.agg #[.int .i64 k0,.string ⟨t0.toArray⟩,.int .i64 i0,.float .f64 r0,.int .i64 a0,.int .i64 s0],.int .i64 er]) (by simp[results,Tryz.results66,go_sem,y0,y1,y2,y3,y4,y5]) rfl ?_;rw[HQ.out];refine⟨rfl,?_⟩;exact below_six HBX.out _ _ _ _ _ _ (by simp) (by simp) (by simp) (by simp) (by simp) (by simp)
  ·have p1:decide ((1:Int)<(N:Int))=false:=by rw[decide_eq_false_iff_not];have:=of_decide_eq_false n2;omega
   have p2:decide ((H:Int)+1<(M:Int))=true:=by rw[decide_eq_true_eq];omega
   cases hn:nou
   ·rw[hn] at n5 HNUM;clear hn;have hM0:0<M:=by omega
    have hHM:(H=1∨H=2)∧H<M∧M-H=tw digitB l (A+N+H):=by have:=HW.out;omega
    obtain⟨t,ht⟩:∃ t,t=realT A N M ((l.drop A).take N) ((l.drop (A+N+H)).take (M-H)) (H==2):=⟨_,rfl⟩
    have HRL:Hid (∀ W,Below w.heap.size w W→Calls Tryz.prog 86 #[.slice (some ⟨b,o,none⟩) n cap,.int .i64 A,.int .i64 N,.int .i64 M,.int .i64 H] W fun e w'=>RTok t W e w'):=by
     have:∀ W,Below w.heap.size w W→Calls Tryz.prog 86 #[.slice (some ⟨b,o,none⟩) n cap,.int .i64 A,.int .i64 N,.int .i64 M,.int .i64 H] W fun e w'=>RTok t W e w':=by
      intro W hW;have hd2:∀ c ∈ (l.drop (A+N+H)).take (M-H),48≤c.toNat∧c.toNat≤57:=by rw[hHM.2.2];exact tw_digits l _
      rw[ht];rcases hHM.1 with h1|h1
      ·subst h1;exact refReal_up _ n cap A N M l W (HT.out.below hW (Nat.le_refl _)) h48 hL (by omega) HD1.out hd2
      ·subst h1;exact refReal_down _ n cap A N M l W (HT.out.below hW (Nat.le_refl _)) h48 hL (by omega) HD1.out hd2
     exact this
    have HQ:Hid (refNum l A=t):=by
     have:refNum l A=t:=by rw[HNUM.out,if_neg (by simp),if_pos (by omega),ht]
     exact this
    have hM1:decide ((0:Int)<(M:Int))=true:=by rw[decide_eq_true_eq];omega
    have hM1':decide (0<M)=true:=by rw[decide_eq_true_eq];omega
    clear hHM ht HNUM HW;go_wp2_with fail;refine(HRL.out _ HB0.out).mono ?_;rintro e w5 hrt;obtain⟨⟨k0,t0,i0,r0,a0,s0⟩,er⟩:=t;obtain⟨rfl,hb5⟩:=hrt;unfold tokVal;have hz5:w.heap.size+1≤w5.heap.size:=by have:=hb5.size;simpa using this
    have cq:∀ j,w5.cell? ⟨w.heap.size,j,none⟩=_:=fun j=>hb5.cell (p:=⟨w.heap.size,j,none⟩) (by simp);have fq:∀ j,w5.frozen? ⟨w.heap.size,j,none⟩=_:=fun j=>hb5.frozen (p:=⟨w.heap.size,j,none⟩) (by simp);have z0:w5.cell? ⟨w.heap.size,0,none⟩=some (.int .i64 0):=by rw[cq];simp
    have z1:w5.cell? ⟨w.heap.size,1,none⟩=some (.string ⟨#[]⟩):=by rw[cq];simp
    have z2:w5.cell? ⟨w.heap.size,2,none⟩=some (.int .i64 0):=by rw[cq];simp
    have z3:w5.cell? ⟨w.heap.size,3,none⟩=some (.float .f64 0):=by rw[cq];simp
    have z4:w5.cell? ⟨w.heap.size,4,none⟩=some (.int .i64 0):=by rw[cq];simp
    have z5:w5.cell? ⟨w.heap.size,5,none⟩=some (.int .i64 0):=by rw[cq];simp
    have fz:∀ j,w5.frozen? ⟨w.heap.size,j,none⟩=false:=fun j=>by rw[fq];simp
    have HB5:=hid (HB0.out.trans (hb5.mono (by simp)));have hlt5:w.heap.size<w5.heap.size:=by omega
    obtain⟨wx,hwx⟩:∃ wx,wx=w5.alloc (.cells #[.int .i64 k0,.string ⟨t0.toArray⟩,.int .i64 i0,.float .f64 r0,.int .i64 a0,.int .i64 s0] 59):=⟨_,rfl⟩
    have y0:wx.cell? ⟨w.heap.size,0,none⟩=some (.int .i64 0):=by rw[hwx];exact cell_keep _ z0
    have y1:wx.cell? ⟨w.heap.size,1,none⟩=some (.string ⟨#[]⟩):=by rw[hwx];exact cell_keep _ z1
    have y2:wx.cell? ⟨w.heap.size,2,none⟩=some (.int .i64 0):=by rw[hwx];exact cell_keep _ z2
    have y3:wx.cell? ⟨w.heap.size,3,none⟩=some (.float .f64 0):=by rw[hwx];exact cell_keep _ z3
    have y4:wx.cell? ⟨w.heap.size,4,none⟩=some (.int .i64 0):=by rw[hwx];exact cell_keep _ z4
    have y5:wx.cell? ⟨w.heap.size,5,none⟩=some (.int .i64 0):=by rw[hwx];exact cell_keep _ z5
    have x0:wx.cell? ⟨w5.heap.size,0,none⟩=some (.int .i64 k0):=by rw[hwx];simp
    have x1:wx.cell? ⟨w5.heap.size,1,none⟩=some (.string ⟨t0.toArray⟩):=by rw[hwx];simp
    have x2:wx.cell? ⟨w5.heap.size,2,none⟩=some (.int .i64 i0):=by rw[hwx];simp
    have x3:wx.cell? ⟨w5.heap.size,3,none⟩=some (.float .f64 r0):=by rw[hwx];simp
    have x4:wx.cell? ⟨w5.heap.size,4,none⟩=some (.int .i64 a0):=by rw[hwx];simp
    have x5:wx.cell? ⟨w5.heap.size,5,none⟩=some (.int .i64 s0):=by rw[hwx];simp
    have fy:∀ j,wx.frozen? ⟨w.heap.size,j,none⟩=false:=fun j=>by rw[hwx];exact(((Below.refl w5.heap.size w5).alloc (Nat.le_refl _) _).frozen (p:=⟨w.heap.size,j,none⟩) hlt5).trans (fz j)
    have f0:=fy 0;have f1:=fy 1;have f2:=fy 2;have f3:=fy 3;have f4:=fy 4;have f5:=fy 5;have hBx:Below w.heap.size w wx:=by rw[hwx];exact HB5.out.alloc (by omega) _
    have HBX:=hid hBx;have HWX:=hid hwx;clear cq fq hb5 z0 z1 z2 z3 z4 z5 fz fy hBx hwx;go_upto_region 10 with (fail);rw[← HWX.out];go_wp2_with fail;refine bodyPost_ret (v:=.tuple #[.agg #[.int .i64 k0,.string ⟨t0.toArray⟩,.int .i64 i0,.float .f64 r0,.int .i64 a0,.int .i64 s0],.int .i64 er]) (by simp[results,Tryz.results66,go_sem,y0,y1,y2,y3,y4,y5]) rfl ?_;rw[HQ.out];refine⟨rfl,?_⟩;exact below_six HBX.out _ _ _ _ _ _ (by simp) (by simp) (by simp) (by simp) (by simp) (by simp)
   ·rw[hn] at n5 HNUM;clear hn;go_wp2_with fail;refine bodyPost_ret (v:=.tuple #[.agg #[.int .i64 0,.string ⟨#[]⟩,.int .i64 0,.float .f64 0,.int .i64 0,.int .i64 0],.int .i64 12]) (by simp[results,Tryz.results66,go_sem]) rfl ?_;rw[HNUM.out,if_pos (by simp)];exact⟨rfl,(Below.refl _ _).alloc (Nat.le_refl _) _⟩
  ·have p2:decide ((H:Int)+1<(M:Int))=false:=by rw[decide_eq_false_iff_not];have:=of_decide_eq_false n3;omega
   rcases Nat.eq_zero_or_pos M with hM0|hM0
   ·obtain⟨rfl,rfl⟩:M=0∧H=0:=by have:=HW.out;omega
    have q1l:decide ((A:Int)+(N:Int)<(n:Int))=false:=by simpa using q1i
    have q1m:decide (A+N<n)=false:=by simpa using q1
    skip
    obtain⟨a1,hs1,hT1⟩:=slice_mid A (A+N) HT.out (Nat.le_add_right _ _) hAN;rw[Nat.add_sub_cancel_left] at hs1 hT1;have hs1':∀ w',(Instr.slice 22 (.slice (some ⟨b,o,none⟩) n cap) (some (.int .i64 (A:Int))) (some (.int .i64 ((A:Int)+(N:Int)))) none).run Tryz.prog w'=.ok (.slice a1 N (cap-A)) w':=hs1;obtain⟨v,bl,hc1,hf1⟩:=refW_ways a1 N (cap-A) ((l.drop A).take N) (by omega) HD1.out;have HC1:=hid (hc1 _ (hT1.below HB0.out (Nat.le_refl _)));have HF1:=hid hf1;clear hs1 hT1 hc1 hf1;go_wp2_with fail;refine HC1.out.mono ?_;rintro e w1 ⟨rfl,rfl⟩;have hf1:=HF1.out;rcases hf1 with ⟨rfl,f1,_⟩|⟨rfl,f1⟩
    ·have F1:=hid f1;clear f1 HF1;go_wp2_with fail;refine bodyPost_ret (v:=.tuple #[.agg #[.int .i64 2,.string ⟨#[]⟩,.int .i64 v,.float .f64 0,.int .i64 A,.int .i64 N],.int .i64 0]) (by simp[results,Tryz.results66,go_sem]) rfl ?_;rw[HNUM.out,if_neg (by simp),if_neg (by omega),F1.out];exact⟨rfl,(Below.refl _ _).alloc (Nat.le_refl _) _⟩
    ·have F1:=hid f1;clear f1 HF1;go_wp2_with fail;refine bodyPost_ret (v:=.tuple #[.agg #[.int .i64 0,.string ⟨#[]⟩,.int .i64 0,.float .f64 0,.int .i64 0,.int .i64 0],.int .i64 12]) (by simp[results,Tryz.results66,go_sem]) rfl ?_;rw[HNUM.out,if_neg (by simp),if_neg (by omega),F1.out];exact⟨rfl,(Below.refl _ _).alloc (Nat.le_refl _) _⟩
   ·have hHM:(H=1∨H=2)∧H<M∧M-H=tw digitB l (A+N+H):=by have:=HW.out;omega
    obtain⟨t,ht⟩:∃ t,t=realT A N M ((l.drop A).take N) ((l.drop (A+N+H)).take (M-H)) (H==2):=⟨_,rfl⟩
    have HRL:Hid (∀ W,Below w.heap.size w W→Calls Tryz.prog 86 #[.slice (some ⟨b,o,none⟩) n cap,.int .i64 A,.int .i64 N,.int .i64 M,.int .i64 H] W fun e w'=>RTok t W e w'):=by
     have:∀ W,Below w.heap.size w W→Calls Tryz.prog 86 #[.slice (some ⟨b,o,none⟩) n cap,.int .i64 A,.int .i64 N,.int .i64 M,.int .i64 H] W fun e w'=>RTok t W e w':=by
      intro W hW;have hd2:∀ c ∈ (l.drop (A+N+H)).take (M-H),48≤c.toNat∧c.toNat≤57:=by rw[hHM.2.2];exact tw_digits l _
      rw[ht];rcases hHM.1 with h1|h1
      ·subst h1;exact refReal_up _ n cap A N M l W (HT.out.below hW (Nat.le_refl _)) h48 hL (by omega) HD1.out hd2
      ·subst h1;exact refReal_down _ n cap A N M l W (HT.out.below hW (Nat.le_refl _)) h48 hL (by omega) HD1.out hd2
     exact this
    have HQ:Hid (refNum l A=t):=by
     have:refNum l A=t:=by rw[HNUM.out,if_neg (by simp),if_pos (by omega),ht]
     exact this
    have hM1:decide ((0:Int)<(M:Int))=true:=by rw[decide_eq_true_eq];omega
    have hM1':decide (0<M)=true:=by rw[decide_eq_true_eq];omega
    clear hHM ht HNUM HW;go_wp2_with fail;refine(HRL.out _ HB0.out).mono ?_;rintro e w5 hrt;obtain⟨⟨k0,t0,i0,r0,a0,s0⟩,er⟩:=t;obtain⟨rfl,hb5⟩:=hrt;unfold tokVal;have hz5:w.heap.size+1≤w5.heap.size:=by have:=hb5.size;simpa using this
    have cq:∀ j,w5.cell? ⟨w.heap.size,j,none⟩=_:=fun j=>hb5.cell (p:=⟨w.heap.size,j,none⟩) (by simp);have fq:∀ j,w5.frozen? ⟨w.heap.size,j,none⟩=_:=fun j=>hb5.frozen (p:=⟨w.heap.size,j,none⟩) (by simp);have z0:w5.cell? ⟨w.heap.size,0,none⟩=some (.int .i64 0):=by rw[cq];simp
    have z1:w5.cell? ⟨w.heap.size,1,none⟩=some (.string ⟨#[]⟩):=by rw[cq];simp
    have z2:w5.cell? ⟨w.heap.size,2,none⟩=some (.int .i64 0):=by rw[cq];simp
    have z3:w5.cell? ⟨w.heap.size,3,none⟩=some (.float .f64 0):=by rw[cq];simp
    have z4:w5.cell? ⟨w.heap.size,4,none⟩=some (.int .i64 0):=by rw[cq];simp
    have z5:w5.cell? ⟨w.heap.size,5,none⟩=some (.int .i64 0):=by rw[cq];simp
    have fz:∀ j,w5.frozen? ⟨w.heap.size,j,none⟩=false:=fun j=>by rw[fq];simp
    have HB5:=hid (HB0.out.trans (hb5.mono (by simp)));have hlt5:w.heap.size<w5.heap.size:=by omega
    obtain⟨wx,hwx⟩:∃ wx,wx=w5.alloc (.cells #[.int .i64 k0,.string ⟨t0.toArray⟩,.int .i64 i0,.float .f64 r0,.int .i64 a0,.int .i64 s0] 59):=⟨_,rfl⟩
    have y0:wx.cell? ⟨w.heap.size,0,none⟩=some (.int .i64 0):=by rw[hwx];exact cell_keep _ z0
    have y1:wx.cell? ⟨w.heap.size,1,none⟩=some (.string ⟨#[]⟩):=by rw[hwx];exact cell_keep _ z1
    have y2:wx.cell? ⟨w.heap.size,2,none⟩=some (.int .i64 0):=by rw[hwx];exact cell_keep _ z2
    have y3:wx.cell? ⟨w.heap.size,3,none⟩=some (.float .f64 0):=by rw[hwx];exact cell_keep _ z3
    have y4:wx.cell? ⟨w.heap.size,4,none⟩=some (.int .i64 0):=by rw[hwx];exact cell_keep _ z4
    have y5:wx.cell? ⟨w.heap.size,5,none⟩=some (.int .i64 0):=by rw[hwx];exact cell_keep _ z5
    have x0:wx.cell? ⟨w5.heap.size,0,none⟩=some (.int .i64 k0):=by rw[hwx];simp
    have x1:wx.cell? ⟨w5.heap.size,1,none⟩=some (.string ⟨t0.toArray⟩):=by rw[hwx];simp
    have x2:wx.cell? ⟨w5.heap.size,2,none⟩=some (.int .i64 i0):=by rw[hwx];simp
    have x3:wx.cell? ⟨w5.heap.size,3,none⟩=some (.float .f64 r0):=by rw[hwx];simp
    have x4:wx.cell? ⟨w5.heap.size,4,none⟩=some (.int .i64 a0):=by rw[hwx];simp
    have x5:wx.cell? ⟨w5.heap.size,5,none⟩=some (.int .i64 s0):=by rw[hwx];simp
    have fy:∀ j,wx.frozen? ⟨w.heap.size,j,none⟩=false:=fun j=>by rw[hwx];exact(((Below.refl w5.heap.size w5).alloc (Nat.le_refl _) _).frozen (p:=⟨w.heap.size,j,none⟩) hlt5).trans (fz j)
    have f0:=fy 0;have f1:=fy 1;have f2:=fy 2;have f3:=fy 3;have f4:=fy 4;have f5:=fy 5;have hBx:Below w.heap.size w wx:=by rw[hwx];exact HB5.out.alloc (by omega) _
    have HBX:=hid hBx;have HWX:=hid hwx;clear cq fq hb5 z0 z1 z2 z3 z4 z5 fz fy hBx hwx;go_upto_region 10 with (fail);rw[← HWX.out];go_wp2_with fail;refine bodyPost_ret (v:=.tuple #[.agg #[.int .i64 k0,.string ⟨t0.toArray⟩,.int .i64 i0,.float .f64 r0,.int .i64 a0,.int .i64 s0],.int .i64 er]) (by simp[results,Tryz.results66,go_sem,y0,y1,y2,y3,y4,y5]) rfl ?_;rw[HQ.out];refine⟨rfl,?_⟩;exact below_six HBX.out _ _ _ _ _ _ (by simp) (by simp) (by simp) (by simp) (by simp) (by simp)
  ·have p2:decide ((H:Int)+1<(M:Int))=true:=by rw[decide_eq_true_eq];omega
   cases hn:nou
   ·rw[hn] at n5 HNUM;clear hn;have hM0:0<M:=by omega
    have hHM:(H=1∨H=2)∧H<M∧M-H=tw digitB l (A+N+H):=by have:=HW.out;omega
    obtain⟨t,ht⟩:∃ t,t=realT A N M ((l.drop A).take N) ((l.drop (A+N+H)).take (M-H)) (H==2):=⟨_,rfl⟩
    have HRL:Hid (∀ W,Below w.heap.size w W→Calls Tryz.prog 86 #[.slice (some ⟨b,o,none⟩) n cap,.int .i64 A,.int .i64 N,.int .i64 M,.int .i64 H] W fun e w'=>RTok t W e w'):=by
     have:∀ W,Below w.heap.size w W→Calls Tryz.prog 86 #[.slice (some ⟨b,o,none⟩) n cap,.int .i64 A,.int .i64 N,.int .i64 M,.int .i64 H] W fun e w'=>RTok t W e w':=by
      intro W hW;have hd2:∀ c ∈ (l.drop (A+N+H)).take (M-H),48≤c.toNat∧c.toNat≤57:=by rw[hHM.2.2];exact tw_digits l _
      rw[ht];rcases hHM.1 with h1|h1
      ·subst h1;exact refReal_up _ n cap A N M l W (HT.out.below hW (Nat.le_refl _)) h48 hL (by omega) HD1.out hd2
      ·subst h1;exact refReal_down _ n cap A N M l W (HT.out.below hW (Nat.le_refl _)) h48 hL (by omega) HD1.out hd2
     exact this
    have HQ:Hid (refNum l A=t):=by
     have:refNum l A=t:=by rw[HNUM.out,if_neg (by simp),if_pos (by omega),ht]
     exact this
    have hM1:decide ((0:Int)<(M:Int))=true:=by rw[decide_eq_true_eq];omega
    have hM1':decide (0<M)=true:=by rw[decide_eq_true_eq];omega
    clear hHM ht HNUM HW;go_wp2_with fail;refine(HRL.out _ HB0.out).mono ?_;rintro e w5 hrt;obtain⟨⟨k0,t0,i0,r0,a0,s0⟩,er⟩:=t;obtain⟨rfl,hb5⟩:=hrt;unfold tokVal;have hz5:w.heap.size+1≤w5.heap.size:=by have:=hb5.size;simpa using this
    have cq:∀ j,w5.cell? ⟨w.heap.size,j,none⟩=_:=fun j=>hb5.cell (p:=⟨w.heap.size,j,none⟩) (by simp);have fq:∀ j,w5.frozen? ⟨w.heap.size,j,none⟩=_:=fun j=>hb5.frozen (p:=⟨w.heap.size,j,none⟩) (by simp);have z0:w5.cell? ⟨w.heap.size,0,none⟩=some (.int .i64 0):=by rw[cq];simp
    have z1:w5.cell? ⟨w.heap.size,1,none⟩=some (.string ⟨#[]⟩):=by rw[cq];simp
    have z2:w5.cell? ⟨w.heap.size,2,none⟩=some (.int .i64 0):=by rw[cq];simp
    have z3:w5.cell? ⟨w.heap.size,3,none⟩=some (.float .f64 0):=by rw[cq];simp
    have z4:w5.cell? ⟨w.heap.size,4,none⟩=some (.int .i64 0):=by rw[cq];simp
    have z5:w5.cell? ⟨w.heap.size,5,none⟩=some (.int .i64 0):=by rw[cq];simp
    have fz:∀ j,w5.frozen? ⟨w.heap.size,j,none⟩=false:=fun j=>by rw[fq];simp
    have HB5:=hid (HB0.out.trans (hb5.mono (by simp)));have hlt5:w.heap.size<w5.heap.size:=by omega
    obtain⟨wx,hwx⟩:∃ wx,wx=w5.alloc (.cells #[.int .i64 k0,.string ⟨t0.toArray⟩,.int .i64 i0,.float .f64 r0,.int .i64 a0,.int .i64 s0] 59):=⟨_,rfl⟩
    have y0:wx.cell? ⟨w.heap.size,0,none⟩=some (.int .i64 0):=by rw[hwx];exact cell_keep _ z0
    have y1:wx.cell? ⟨w.heap.size,1,none⟩=some (.string ⟨#[]⟩):=by rw[hwx];exact cell_keep _ z1
    have y2:wx.cell? ⟨w.heap.size,2,none⟩=some (.int .i64 0):=by rw[hwx];exact cell_keep _ z2
    have y3:wx.cell? ⟨w.heap.size,3,none⟩=some (.float .f64 0):=by rw[hwx];exact cell_keep _ z3
    have y4:wx.cell? ⟨w.heap.size,4,none⟩=some (.int .i64 0):=by rw[hwx];exact cell_keep _ z4
    have y5:wx.cell? ⟨w.heap.size,5,none⟩=some (.int .i64 0):=by rw[hwx];exact cell_keep _ z5
    have x0:wx.cell? ⟨w5.heap.size,0,none⟩=some (.int .i64 k0):=by rw[hwx];simp
    have x1:wx.cell? ⟨w5.heap.size,1,none⟩=some (.string ⟨t0.toArray⟩):=by rw[hwx];simp
    have x2:wx.cell? ⟨w5.heap.size,2,none⟩=some (.int .i64 i0):=by rw[hwx];simp
    have x3:wx.cell? ⟨w5.heap.size,3,none⟩=some (.float .f64 r0):=by rw[hwx];simp
    have x4:wx.cell? ⟨w5.heap.size,4,none⟩=some (.int .i64 a0):=by rw[hwx];simp
    have x5:wx.cell? ⟨w5.heap.size,5,none⟩=some (.int .i64 s0):=by rw[hwx];simp
    have fy:∀ j,wx.frozen? ⟨w.heap.size,j,none⟩=false:=fun j=>by rw[hwx];exact(((Below.refl w5.heap.size w5).alloc (Nat.le_refl _) _).frozen (p:=⟨w.heap.size,j,none⟩) hlt5).trans (fz j)
    have f0:=fy 0;have f1:=fy 1;have f2:=fy 2;have f3:=fy 3;have f4:=fy 4;have f5:=fy 5;have hBx:Below w.heap.size w wx:=by rw[hwx];exact HB5.out.alloc (by omega) _
    have HBX:=hid hBx;have HWX:=hid hwx;clear cq fq hb5 z0 z1 z2 z3 z4 z5 fz fy hBx hwx;go_upto_region 10 with (fail);rw[← HWX.out];go_wp2_with fail;refine bodyPost_ret (v:=.tuple #[.agg #[.int .i64 k0,.string ⟨t0.toArray⟩,.int .i64 i0,.float .f64 r0,.int .i64 a0,.int .i64 s0],.int .i64 er]) (by simp[results,Tryz.results66,go_sem,y0,y1,y2,y3,y4,y5]) rfl ?_;rw[HQ.out];refine⟨rfl,?_⟩;exact below_six HBX.out _ _ _ _ _ _ (by simp) (by simp) (by simp) (by simp) (by simp) (by simp)
   ·rw[hn] at n5 HNUM;clear hn;go_wp2_with fail;refine bodyPost_ret (v:=.tuple #[.agg #[.int .i64 0,.string ⟨#[]⟩,.int .i64 0,.float .f64 0,.int .i64 0,.int .i64 0],.int .i64 12]) (by simp[results,Tryz.results66,go_sem]) rfl ?_;rw[HNUM.out,if_pos (by simp)];exact⟨rfl,(Below.refl _ _).alloc (Nat.le_refl _) _⟩
 ·have q1i:decide ((A:Int)+(N:Int)+(M:Int)<(n:Int))=true:=by rw[decide_eq_true_eq];omega
  have hcd':=hcd w (fun _=>rfl);have hLt:=fun W=>refLetter_any d W;have hDt:=fun W=>refDigit_any d W;rcases q2 with ⟨e1,rfl⟩|⟨e1,e2,rfl⟩|⟨e1,e2,e3,rfl⟩|⟨e1,e2,e3,rfl⟩
  ·rw[e1] at hLt;have HLt:=hid hLt;have HDt:=hid hDt;clear hLt hDt e1;rcases hN with ⟨n1,n2,rfl⟩|⟨⟨n1,n2⟩|n1,⟨n3,rfl⟩|⟨n3,n3',d7,n4,n5⟩⟩
   ·have p1:decide ((1:Int)<(N:Int))=true:=by rw[decide_eq_true_eq];have:=of_decide_eq_true n2;omega
    go_wp2_with (first|(go_at_call 64;refine(HLt.out _).mono ?_;rintro e w' ⟨rfl,rfl⟩)|(go_at_call 65;refine(HDt.out _).mono ?_;rintro e w' ⟨rfl,rfl⟩));refine bodyPost_ret (v:=.tuple #[.agg #[.int .i64 0,.string ⟨#[]⟩,.int .i64 0,.float .f64 0,.int .i64 0,.int .i64 0],.int .i64 12]) (by simp[results,Tryz.results66,go_sem]) rfl ?_;rw[HNUM.out,if_pos (by simp)];exact⟨rfl,(Below.refl _ _).alloc (Nat.le_refl _) _⟩
   ·have p1:decide ((1:Int)<(N:Int))=false:=by rw[decide_eq_false_iff_not];have:=of_decide_eq_false n2;omega
    have p2:decide ((H:Int)+1<(M:Int))=false:=by rw[decide_eq_false_iff_not];have:=of_decide_eq_false n3;omega
    go_wp2_with (first|(go_at_call 64;refine(HLt.out _).mono ?_;rintro e w' ⟨rfl,rfl⟩)|(go_at_call 65;refine(HDt.out _).mono ?_;rintro e w' ⟨rfl,rfl⟩));refine bodyPost_ret (v:=.tuple #[.agg #[.int .i64 0,.string ⟨#[]⟩,.int .i64 0,.float .f64 0,.int .i64 0,.int .i64 0],.int .i64 12]) (by simp[results,Tryz.results66,go_sem]) rfl ?_;rw[HNUM.out,if_pos (by simp)];exact⟨rfl,(Below.refl _ _).alloc (Nat.le_refl _) _⟩
   ·have p1:decide ((1:Int)<(N:Int))=false:=by rw[decide_eq_false_iff_not];have:=of_decide_eq_false n2;omega
    have p2:decide ((H:Int)+1<(M:Int))=true:=by rw[decide_eq_true_eq];omega
    cases hn:nou
    ·rw[hn] at n5 HNUM;clear hn;go_wp2_with (first|(go_at_call 64;refine(HLt.out _).mono ?_;rintro e w' ⟨rfl,rfl⟩)|(go_at_call 65;refine(HDt.out _).mono ?_;rintro e w' ⟨rfl,rfl⟩));refine bodyPost_ret (v:=.tuple #[.agg #[.int .i64 0,.string ⟨#[]⟩,.int .i64 0,.float .f64 0,.int .i64 0,.int .i64 0],.int .i64 12]) (by simp[results,Tryz.results66,go_sem]) rfl ?_;rw[HNUM.out,if_pos (by simp)];exact⟨rfl,(Below.refl _ _).alloc (Nat.le_refl _) _⟩
    ·rw[hn] at n5 HNUM;clear hn;go_wp2_with (first|(go_at_call 64;refine(HLt.out _).mono ?_;rintro e w' ⟨rfl,rfl⟩)|(go_at_call 65;refine(HDt.out _).mono ?_;rintro e w' ⟨rfl,rfl⟩));refine bodyPost_ret (v:=.tuple #[.agg #[.int .i64 0,.string ⟨#[]⟩,.int .i64 0,.float .f64 0,.int .i64 0,.int .i64 0],.int .i64 12]) (by simp[results,Tryz.results66,go_sem]) rfl ?_;rw[HNUM.out,if_pos (by simp)];exact⟨rfl,(Below.refl _ _).alloc (Nat.le_refl _) _⟩
   ·have p2:decide ((H:Int)+1<(M:Int))=false:=by rw[decide_eq_false_iff_not];have:=of_decide_eq_false n3;omega
    go_wp2_with (first|(go_at_call 64;refine(HLt.out _).mono ?_;rintro e w' ⟨rfl,rfl⟩)|(go_at_call 65;refine(HDt.out _).mono ?_;rintro e w' ⟨rfl,rfl⟩));refine bodyPost_ret (v:=.tuple #[.agg #[.int .i64 0,.string ⟨#[]⟩,.int .i64 0,.float .f64 0,.int .i64 0,.int .i64 0],.int .i64 12]) (by simp[results,Tryz.results66,go_sem]) rfl ?_;rw[HNUM.out,if_pos (by simp)];exact⟨rfl,(Below.refl _ _).alloc (Nat.le_refl _) _⟩
   ·have p2:decide ((H:Int)+1<(M:Int))=true:=by rw[decide_eq_true_eq];omega
    cases hn:nou
    ·rw[hn] at n5 HNUM;clear hn;go_wp2_with (first|(go_at_call 64;refine(HLt.out _).mono ?_;rintro e w' ⟨rfl,rfl⟩)|(go_at_call 65;refine(HDt.out _).mono ?_;rintro e w' ⟨rfl,rfl⟩));refine bodyPost_ret (v:=.tuple #[.agg #[.int .i64 0,.string ⟨#[]⟩,.int .i64 0,.float .f64 0,.int .i64 0,.int .i64 0],.int .i64 12]) (by simp[results,Tryz.results66,go_sem]) rfl ?_;rw[HNUM.out,if_pos (by simp)];exact⟨rfl,(Below.refl _ _).alloc (Nat.le_refl _) _⟩
    ·rw[hn] at n5 HNUM;clear hn;go_wp2_with (first|(go_at_call 64;refine(HLt.out _).mono ?_;rintro e w' ⟨rfl,rfl⟩)|(go_at_call 65;refine(HDt.out _).mono ?_;rintro e w' ⟨rfl,rfl⟩));refine bodyPost_ret (v:=.tuple #[.agg #[.int .i64 0,.string ⟨#[]⟩,.int .i64 0,.float .f64 0,.int .i64 0,.int .i64 0],.int .i64 12]) (by simp[results,Tryz.results66,go_sem]) rfl ?_;rw[HNUM.out,if_pos (by simp)];exact⟨rfl,(Below.refl _ _).alloc (Nat.le_refl _) _⟩
  ·rw[e1] at hLt;rw[e2] at hDt;have HLt:=hid hLt;have HDt:=hid hDt;clear hLt hDt e1 e2;rcases hN with ⟨n1,n2,rfl⟩|⟨⟨n1,n2⟩|n1,⟨n3,rfl⟩|⟨n3,n3',d7,n4,n5⟩⟩
   ·have p1:decide ((1:Int)<(N:Int))=true:=by rw[decide_eq_true_eq];have:=of_decide_eq_true n2;omega
    go_wp2_with (first|(go_at_call 64;refine(HLt.out _).mono ?_;rintro e w' ⟨rfl,rfl⟩)|(go_at_call 65;refine(HDt.out _).mono ?_;rintro e w' ⟨rfl,rfl⟩));refine bodyPost_ret (v:=.tuple #[.agg #[.int .i64 0,.string ⟨#[]⟩,.int .i64 0,.float .f64 0,.int .i64 0,.int .i64 0],.int .i64 12]) (by simp[results,Tryz.results66,go_sem]) rfl ?_;rw[HNUM.out,if_pos (by simp)];exact⟨rfl,(Below.refl _ _).alloc (Nat.le_refl _) _⟩
   ·have p1:decide ((1:Int)<(N:Int))=false:=by rw[decide_eq_false_iff_not];have:=of_decide_eq_false n2;omega
    have p2:decide ((H:Int)+1<(M:Int))=false:=by rw[decide_eq_false_iff_not];have:=of_decide_eq_false n3;omega
    go_wp2_with (first|(go_at_call 64;refine(HLt.out _).mono ?_;rintro e w' ⟨rfl,rfl⟩)|(go_at_call 65;refine(HDt.out _).mono ?_;rintro e w' ⟨rfl,rfl⟩));refine bodyPost_ret (v:=.tuple #[.agg #[.int .i64 0,.string ⟨#[]⟩,.int .i64 0,.float .f64 0,.int .i64 0,.int .i64 0],.int .i64 12]) (by simp[results,Tryz.results66,go_sem]) rfl ?_;rw[HNUM.out,if_pos (by simp)];exact⟨rfl,(Below.refl _ _).alloc (Nat.le_refl _) _⟩
   ·have p1:decide ((1:Int)<(N:Int))=false:=by rw[decide_eq_false_iff_not];have:=of_decide_eq_false n2;omega
    have p2:decide ((H:Int)+1<(M:Int))=true:=by rw[decide_eq_true_eq];omega
    cases hn:nou
    ·rw[hn] at n5 HNUM;clear hn;go_wp2_with (first|(go_at_call 64;refine(HLt.out _).mono ?_;rintro e w' ⟨rfl,rfl⟩)|(go_at_call 65;refine(HDt.out _).mono ?_;rintro e w' ⟨rfl,rfl⟩));refine bodyPost_ret (v:=.tuple #[.agg #[.int .i64 0,.string ⟨#[]⟩,.int .i64 0,.float .f64 0,.int .i64 0,.int .i64 0],.int .i64 12]) (by simp[results,Tryz.results66,go_sem]) rfl ?_;rw[HNUM.out,if_pos (by simp)];exact⟨rfl,(Below.refl _ _).alloc (Nat.le_refl _) _⟩
    ·rw[hn] at n5 HNUM;clear hn;go_wp2_with (first|(go_at_call 64;refine(HLt.out _).mono ?_;rintro e w' ⟨rfl,rfl⟩)|(go_at_call 65;refine(HDt.out _).mono ?_;rintro e w' ⟨rfl,rfl⟩));refine bodyPost_ret (v:=.tuple #[.agg #[.int .i64 0,.string ⟨#[]⟩,.int .i64 0,.float .f64 0,.int .i64 0,.int .i64 0],.int .i64 12]) (by simp[results,Tryz.results66,go_sem]) rfl ?_;rw[HNUM.out,if_pos (by simp)];exact⟨rfl,(Below.refl _ _).alloc (Nat.le_refl _) _⟩
   ·have p2:decide ((H:Int)+1<(M:Int))=false:=by rw[decide_eq_false_iff_not];have:=of_decide_eq_false n3;omega
    go_wp2_with (first|(go_at_call 64;refine(HLt.out _).mono ?_;rintro e w' ⟨rfl,rfl⟩)|(go_at_call 65;refine(HDt.out _).mono ?_;rintro e w' ⟨rfl,rfl⟩));refine bodyPost_ret (v:=.tuple #[.agg #[.int .i64 0,.string ⟨#[]⟩,.int .i64 0,.float .f64 0,.int .i64 0,.int .i64 0],.int .i64 12]) (by simp[results,Tryz.results66,go_sem]) rfl ?_;rw[HNUM.out,if_pos (by simp)];exact⟨rfl,(Below.refl _ _).alloc (Nat.le_refl _) _⟩
   ·have p2:decide ((H:Int)+1<(M:Int))=true:=by rw[decide_eq_true_eq];omega
    cases hn:nou
    ·rw[hn] at n5 HNUM;clear hn;go_wp2_with (first|(go_at_call 64;refine(HLt.out _).mono ?_;rintro e w' ⟨rfl,rfl⟩)|(go_at_call 65;refine(HDt.out _).mono ?_;rintro e w' ⟨rfl,rfl⟩));refine bodyPost_ret (v:=.tuple #[.agg #[.int .i64 0,.string ⟨#[]⟩,.int .i64 0,.float .f64 0,.int .i64 0,.int .i64 0],.int .i64 12]) (by simp[results,Tryz.results66,go_sem]) rfl ?_;rw[HNUM.out,if_pos (by simp)];exact⟨rfl,(Below.refl _ _).alloc (Nat.le_refl _) _⟩
    ·rw[hn] at n5 HNUM;clear hn;go_wp2_with (first|(go_at_call 64;refine(HLt.out _).mono ?_;rintro e w' ⟨rfl,rfl⟩)|(go_at_call 65;refine(HDt.out _).mono ?_;rintro e w' ⟨rfl,rfl⟩));refine bodyPost_ret (v:=.tuple #[.agg #[.int .i64 0,.string ⟨#[]⟩,.int .i64 0,.float .f64 0,.int .i64 0,.int .i64 0],.int .i64 12]) (by simp[results,Tryz.results66,go_sem]) rfl ?_;rw[HNUM.out,if_pos (by simp)];exact⟨rfl,(Below.refl _ _).alloc (Nat.le_refl _) _⟩
  ·rw[e1] at hLt;rw[e2] at hDt;have HLt:=hid hLt;have HDt:=hid hDt;clear hLt hDt e1 e2;rcases hN with ⟨n1,n2,rfl⟩|⟨⟨n1,n2⟩|n1,⟨n3,rfl⟩|⟨n3,n3',d7,n4,n5⟩⟩
   ·have p1:decide ((1:Int)<(N:Int))=true:=by rw[decide_eq_true_eq];have:=of_decide_eq_true n2;omega
    go_wp2_with (first|(go_at_call 64;refine(HLt.out _).mono ?_;rintro e w' ⟨rfl,rfl⟩)|(go_at_call 65;refine(HDt.out _).mono ?_;rintro e w' ⟨rfl,rfl⟩));refine bodyPost_ret (v:=.tuple #[.agg #[.int .i64 0,.string ⟨#[]⟩,.int .i64 0,.float .f64 0,.int .i64 0,.int .i64 0],.int .i64 12]) (by simp[results,Tryz.results66,go_sem]) rfl ?_;rw[HNUM.out,if_pos (by simp)];exact⟨rfl,(Below.refl _ _).alloc (Nat.le_refl _) _⟩
   ·have p1:decide ((1:Int)<(N:Int))=false:=by rw[decide_eq_false_iff_not];have:=of_decide_eq_false n2;omega
    have p2:decide ((H:Int)+1<(M:Int))=false:=by rw[decide_eq_false_iff_not];have:=of_decide_eq_false n3;omega
    go_wp2_with (first|(go_at_call 64;refine(HLt.out _).mono ?_;rintro e w' ⟨rfl,rfl⟩)|(go_at_call 65;refine(HDt.out _).mono ?_;rintro e w' ⟨rfl,rfl⟩));refine bodyPost_ret (v:=.tuple #[.agg #[.int .i64 0,.string ⟨#[]⟩,.int .i64 0,.float .f64 0,.int .i64 0,.int .i64 0],.int .i64 12]) (by simp[results,Tryz.results66,go_sem]) rfl ?_;rw[HNUM.out,if_pos (by simp)];exact⟨rfl,(Below.refl _ _).alloc (Nat.le_refl _) _⟩
   ·have p1:decide ((1:Int)<(N:Int))=false:=by rw[decide_eq_false_iff_not];have:=of_decide_eq_false n2;omega
    have p2:decide ((H:Int)+1<(M:Int))=true:=by rw[decide_eq_true_eq];omega
    cases hn:nou
    ·rw[hn] at n5 HNUM;clear hn;go_wp2_with (first|(go_at_call 64;refine(HLt.out _).mono ?_;rintro e w' ⟨rfl,rfl⟩)|(go_at_call 65;refine(HDt.out _).mono ?_;rintro e w' ⟨rfl,rfl⟩));refine bodyPost_ret (v:=.tuple #[.agg #[.int .i64 0,.string ⟨#[]⟩,.int .i64 0,.float .f64 0,.int .i64 0,.int .i64 0],.int .i64 12]) (by simp[results,Tryz.results66,go_sem]) rfl ?_;rw[HNUM.out,if_pos (by simp)];exact⟨rfl,(Below.refl _ _).alloc (Nat.le_refl _) _⟩
    ·rw[hn] at n5 HNUM;clear hn;go_wp2_with (first|(go_at_call 64;refine(HLt.out _).mono ?_;rintro e w' ⟨rfl,rfl⟩)|(go_at_call 65;refine(HDt.out _).mono ?_;rintro e w' ⟨rfl,rfl⟩));refine bodyPost_ret (v:=.tuple #[.agg #[.int .i64 0,.string ⟨#[]⟩,.int .i64 0,.float .f64 0,.int .i64 0,.int .i64 0],.int .i64 12]) (by simp[results,Tryz.results66,go_sem]) rfl ?_;rw[HNUM.out,if_pos (by simp)];exact⟨rfl,(Below.refl _ _).alloc (Nat.le_refl _) _⟩
   ·have p2:decide ((H:Int)+1<(M:Int))=false:=by rw[decide_eq_false_iff_not];have:=of_decide_eq_false n3;omega
    go_wp2_with (first|(go_at_call 64;refine(HLt.out _).mono ?_;rintro e w' ⟨rfl,rfl⟩)|(go_at_call 65;refine(HDt.out _).mono ?_;rintro e w' ⟨rfl,rfl⟩));refine bodyPost_ret (v:=.tuple #[.agg #[.int .i64 0,.string ⟨#[]⟩,.int .i64 0,.float .f64 0,.int .i64 0,.int .i64 0],.int .i64 12]) (by simp[results,Tryz.results66,go_sem]) rfl ?_;rw[HNUM.out,if_pos (by simp)];exact⟨rfl,(Below.refl _ _).alloc (Nat.le_refl _) _⟩
   ·have p2:decide ((H:Int)+1<(M:Int))=true:=by rw[decide_eq_true_eq];omega
    cases hn:nou
    ·rw[hn] at n5 HNUM;clear hn;go_wp2_with (first|(go_at_call 64;refine(HLt.out _).mono ?_;rintro e w' ⟨rfl,rfl⟩)|(go_at_call 65;refine(HDt.out _).mono ?_;rintro e w' ⟨rfl,rfl⟩));refine bodyPost_ret (v:=.tuple #[.agg #[.int .i64 0,.string ⟨#[]⟩,.int .i64 0,.float .f64 0,.int .i64 0,.int .i64 0],.int .i64 12]) (by simp[results,Tryz.results66,go_sem]) rfl ?_;rw[HNUM.out,if_pos (by simp)];exact⟨rfl,(Below.refl _ _).alloc (Nat.le_refl _) _⟩
    ·rw[hn] at n5 HNUM;clear hn;go_wp2_with (first|(go_at_call 64;refine(HLt.out _).mono ?_;rintro e w' ⟨rfl,rfl⟩)|(go_at_call 65;refine(HDt.out _).mono ?_;rintro e w' ⟨rfl,rfl⟩));refine bodyPost_ret (v:=.tuple #[.agg #[.int .i64 0,.string ⟨#[]⟩,.int .i64 0,.float .f64 0,.int .i64 0,.int .i64 0],.int .i64 12]) (by simp[results,Tryz.results66,go_sem]) rfl ?_;rw[HNUM.out,if_pos (by simp)];exact⟨rfl,(Below.refl _ _).alloc (Nat.le_refl _) _⟩
  ·rw[e1] at hLt;rw[e2] at hDt;have HLt:=hid hLt;have HDt:=hid hDt;clear hLt hDt e1 e2;rcases hN with ⟨n1,n2,rfl⟩|⟨⟨n1,n2⟩|n1,⟨n3,rfl⟩|⟨n3,n3',d7,n4,n5⟩⟩
   ·have p1:decide ((1:Int)<(N:Int))=true:=by rw[decide_eq_true_eq];have:=of_decide_eq_true n2;omega
    go_wp2_with (first|(go_at_call 64;refine(HLt.out _).mono ?_;rintro e w' ⟨rfl,rfl⟩)|(go_at_call 65;refine(HDt.out _).mono ?_;rintro e w' ⟨rfl,rfl⟩));refine bodyPost_ret (v:=.tuple #[.agg #[.int .i64 0,.string ⟨#[]⟩,.int .i64 0,.float .f64 0,.int .i64 0,.int .i64 0],.int .i64 12]) (by simp[results,Tryz.results66,go_sem]) rfl ?_;rw[HNUM.out,if_pos (by simp)];exact⟨rfl,(Below.refl _ _).alloc (Nat.le_refl _) _⟩
   ·have p1:decide ((1:Int)<(N:Int))=false:=by rw[decide_eq_false_iff_not];have:=of_decide_eq_false n2;omega
    have p2:decide ((H:Int)+1<(M:Int))=false:=by rw[decide_eq_false_iff_not];have:=of_decide_eq_false n3;omega
    rcases Nat.eq_zero_or_pos M with hM0|hM0
    ·obtain⟨rfl,rfl⟩:M=0∧H=0:=by have:=HW.out;omega
     have q1l:decide ((A:Int)+(N:Int)<(n:Int))=true:=by simpa using q1i
     have q1m:decide (A+N<n)=true:=by simpa using q1
     have hcd2:=hcd w (fun _=>rfl);simp only[Nat.add_zero] at hcd2;obtain⟨a1,hs1,hT1⟩:=slice_mid A (A+N) HT.out (Nat.le_add_right _ _) hAN;rw[Nat.add_sub_cancel_left] at hs1 hT1;have hs1':∀ w',(Instr.slice 22 (.slice (some ⟨b,o,none⟩) n cap) (some (.int .i64 (A:Int))) (some (.int .i64 ((A:Int)+(N:Int)))) none).run Tryz.prog w'=.ok (.slice a1 N (cap-A)) w':=hs1;obtain⟨v,bl,hc1,hf1⟩:=refW_ways a1 N (cap-A) ((l.drop A).take N) (by omega) HD1.out;have HC1:=hid (hc1 _ (hT1.below HB0.out (Nat.le_refl _)));have HF1:=hid hf1;clear hs1 hT1 hc1 hf1;go_wp2_with (first|(go_at_call 64;refine(HLt.out _).mono ?_;rintro e w' ⟨rfl,rfl⟩)|(go_at_call 65;refine(HDt.out _).mono ?_;rintro e w' ⟨rfl,rfl⟩));refine HC1.out.mono ?_;rintro e w1 ⟨rfl,rfl⟩;have hf1:=HF1.out;rcases hf1 with ⟨rfl,f1,_⟩|⟨rfl,f1⟩
     ·have F1:=hid f1;clear f1 HF1;go_wp2_with fail;refine bodyPost_ret (v:=.tuple #[.agg #[.int .i64 2,.string ⟨#[]⟩,.int .i64 v,.float .f64 0,.int .i64 A,.int .i64 N],.int .i64 0]) (by simp[results,Tryz.results66,go_sem]) rfl ?_;rw[HNUM.out,if_neg (by simp),if_neg (by omega),F1.out];exact⟨rfl,(Below.refl _ _).alloc (Nat.le_refl _) _⟩
     ·have F1:=hid f1;clear f1 HF1;go_wp2_with fail;refine bodyPost_ret (v:=.tuple #[.agg #[.int .i64 0,.string ⟨#[]⟩,.int .i64 0,.float .f64 0,.int .i64 0,.int .i64 0],.int .i64 12]) (by simp[results,Tryz.results66,go_sem]) rfl ?_;rw[HNUM.out,if_neg (by simp),if_neg (by omega),F1.out];exact⟨rfl,(Below.refl _ _).alloc (Nat.le_refl _) _⟩
    ·have hHM:(H=1∨H=2)∧H<M∧M-H=tw digitB l (A+N+H):=by have:=HW.out;omega
     obtain⟨t,ht⟩:∃ t,t=realT A N M ((l.drop A).take N) ((l.drop (A+N+H)).take (M-H)) (H==2):=⟨_,rfl⟩
     have HRL:Hid (∀ W,Below w.heap.size w W→Calls Tryz.prog 86 #[.slice (some ⟨b,o,none⟩) n cap,.int .i64 A,.int .i64 N,.int .i64 M,.int .i64 H] W fun e w'=>RTok t W e w'):=by
      have:∀ W,Below w.heap.size w W→Calls Tryz.prog 86 #[.slice (some ⟨b,o,none⟩) n cap,.int .i64 A,.int .i64 N,.int .i64 M,.int .i64 H] W fun e w'=>RTok t W e w':=by
       intro W hW;have hd2:∀ c ∈ (l.drop (A+N+H)).take (M-H),48≤c.toNat∧c.toNat≤57:=by rw[hHM.2.2];exact tw_digits l _
       rw[ht];rcases hHM.1 with h1|h1
       ·subst h1;exact refReal_up _ n cap A N M l W (HT.out.below hW (Nat.le_refl _)) h48 hL (by omega) HD1.out hd2
       ·subst h1;exact refReal_down _ n cap A N M l W (HT.out.below hW (Nat.le_refl _)) h48 hL (by omega) HD1.out hd2
      exact this
     have HQ:Hid (refNum l A=t):=by
      have:refNum l A=t:=by rw[HNUM.out,if_neg (by simp),if_pos (by omega),ht]
      exact this
     have hM1:decide ((0:Int)<(M:Int))=true:=by rw[decide_eq_true_eq];omega
     have hM1':decide (0<M)=true:=by rw[decide_eq_true_eq];omega
     clear hHM ht HNUM HW;go_wp2_with (first|(go_at_call 64;refine(HLt.out _).mono ?_;rintro e w' ⟨rfl,rfl⟩)|(go_at_call 65;refine(HDt.out _).mono ?_;rintro e w' ⟨rfl,rfl⟩));refine(HRL.out _ HB0.out).mono ?_;rintro e w5 hrt;obtain⟨⟨k0,t0,i0,r0,a0,s0⟩,er⟩:=t;obtain⟨rfl,hb5⟩:=hrt;unfold tokVal;have hz5:w.heap.size+1≤w5.heap.size:=by have:=hb5.size;simpa using this
     have cq:∀ j,w5.cell? ⟨w.heap.size,j,none⟩=_:=fun j=>hb5.cell (p:=⟨w.heap.size,j,none⟩) (by simp);have fq:∀ j,w5.frozen? ⟨w.heap.size,j,none⟩=_:=fun j=>hb5.frozen (p:=⟨w.heap.size,j,none⟩) (by simp);have z0:w5.cell? ⟨w.heap.size,0,none⟩=some (.int .i64 0):=by rw[cq];simp
     have z1:w5.cell? ⟨w.heap.size,1,none⟩=some (.string ⟨#[]⟩):=by rw[cq];simp
     have z2:w5.cell? ⟨w.heap.size,2,none⟩=some (.int .i64 0):=by rw[cq];simp
     have z3:w5.cell? ⟨w.heap.size,3,none⟩=some (.float .f64 0):=by rw[cq];simp
     have z4:w5.cell? ⟨w.heap.size,4,none⟩=some (.int .i64 0):=by rw[cq];simp
     have z5:w5.cell? ⟨w.heap.size,5,none⟩=some (.int .i64 0):=by rw[cq];simp
     have fz:∀ j,w5.frozen? ⟨w.heap.size,j,none⟩=false:=fun j=>by rw[fq];simp
     have HB5:=hid (HB0.out.trans (hb5.mono (by simp)));have hlt5:w.heap.size<w5.heap.size:=by omega
     obtain⟨wx,hwx⟩:∃ wx,wx=w5.alloc (.cells #[.int .i64 k0,.string ⟨t0.toArray⟩,.int .i64 i0,.float .f64 r0,.int .i64 a0,.int .i64 s0] 59):=⟨_,rfl⟩
     have y0:wx.cell? ⟨w.heap.size,0,none⟩=some (.int .i64 0):=by rw[hwx];exact cell_keep _ z0
     have y1:wx.cell? ⟨w.heap.size,1,none⟩=some (.string ⟨#[]⟩):=by rw[hwx];exact cell_keep _ z1
     have y2:wx.cell? ⟨w.heap.size,2,none⟩=some (.int .i64 0):=by rw[hwx];exact cell_keep _ z2
     have y3:wx.cell? ⟨w.heap.size,3,none⟩=some (.float .f64 0):=by rw[hwx];exact cell_keep _ z3
     have y4:wx.cell? ⟨w.heap.size,4,none⟩=some (.int .i64 0):=by rw[hwx];exact cell_keep _ z4
     have y5:wx.cell? ⟨w.heap.size,5,none⟩=some (.int .i64 0):=by rw[hwx];exact cell_keep _ z5
     have x0:wx.cell? ⟨w5.heap.size,0,none⟩=some (.int .i64 k0):=by rw[hwx];simp
     have x1:wx.cell? ⟨w5.heap.size,1,none⟩=some (.string ⟨t0.toArray⟩):=by rw[hwx];simp
     have x2:wx.cell? ⟨w5.heap.size,2,none⟩=some (.int .i64 i0):=by rw[hwx];simp
     have x3:wx.cell? ⟨w5.heap.size,3,none⟩=some (.float .f64 r0):=by rw[hwx];simp
     have x4:wx.cell? ⟨w5.heap.size,4,none⟩=some (.int .i64 a0):=by rw[hwx];simp
     have x5:wx.cell? ⟨w5.heap.size,5,none⟩=some (.int .i64 s0):=by rw[hwx];simp
     have fy:∀ j,wx.frozen? ⟨w.heap.size,j,none⟩=false:=fun j=>by rw[hwx];exact(((Below.refl w5.heap.size w5).alloc (Nat.le_refl _) _).frozen (p:=⟨w.heap.size,j,none⟩) hlt5).trans (fz j)
     have f0:=fy 0;have f1:=fy 1;have f2:=fy 2;have f3:=fy 3;have f4:=fy 4;have f5:=fy 5;have hBx:Below w.heap.size w wx:=by rw[hwx];exact HB5.out.alloc (by omega) _
     have HBX:=hid hBx;have HWX:=hid hwx;clear cq fq hb5 z0 z1 z2 z3 z4 z5 fz fy hBx hwx;go_upto_region 10 with (fail);rw[← HWX.out];go_wp2_with fail;refine bodyPost_ret (v:=.tuple #[.agg #[.int .i64 k0,.string ⟨t0.toArray⟩,.int .i64 i0,.float .f64 r0,.int .i64 a0,.int .i64 s0],.int .i64 er]) (by simp[results,Tryz.results66,go_sem,y0,y1,y2,y3,y4,y5]) rfl ?_;rw[HQ.out];refine⟨rfl,?_⟩;exact below_six HBX.out _ _ _ _ _ _ (by simp) (by simp) (by simp) (by simp) (by simp) (by simp)
   ·have p1:decide ((1:Int)<(N:Int))=false:=by rw[decide_eq_false_iff_not];have:=of_decide_eq_false n2;omega
    have p2:decide ((H:Int)+1<(M:Int))=true:=by rw[decide_eq_true_eq];omega
    cases hn:nou
    ·rw[hn] at n5 HNUM;clear hn;have hM0:0<M:=by omega
     have hHM:(H=1∨H=2)∧H<M∧M-H=tw digitB l (A+N+H):=by have:=HW.out;omega
     obtain⟨t,ht⟩:∃ t,t=realT A N M ((l.drop A).take N) ((l.drop (A+N+H)).take (M-H)) (H==2):=⟨_,rfl⟩
     have HRL:Hid (∀ W,Below w.heap.size w W→Calls Tryz.prog 86 #[.slice (some ⟨b,o,none⟩) n cap,.int .i64 A,.int .i64 N,.int .i64 M,.int .i64 H] W fun e w'=>RTok t W e w'):=by
      have:∀ W,Below w.heap.size w W→Calls Tryz.prog 86 #[.slice (some ⟨b,o,none⟩) n cap,.int .i64 A,.int .i64 N,.int .i64 M,.int .i64 H] W fun e w'=>RTok t W e w':=by
       intro W hW;have hd2:∀ c ∈ (l.drop (A+N+H)).take (M-H),48≤c.toNat∧c.toNat≤57:=by rw[hHM.2.2];exact tw_digits l _
       rw[ht];rcases hHM.1 with h1|h1
       ·subst h1;exact refReal_up _ n cap A N M l W (HT.out.below hW (Nat.le_refl _)) h48 hL (by omega) HD1.out hd2
       ·subst h1;exact refReal_down _ n cap A N M l W (HT.out.below hW (Nat.le_refl _)) h48 hL (by omega) HD1.out hd2
      exact this
     have HQ:Hid (refNum l A=t):=by
      have:refNum l A=t:=by rw[HNUM.out,if_neg (by simp),if_pos (by omega),ht]
      exact this
     have hM1:decide ((0:Int)<(M:Int))=true:=by rw[decide_eq_true_eq];omega
     have hM1':decide (0<M)=true:=by rw[decide_eq_true_eq];omega
     clear hHM ht HNUM HW;go_wp2_with (first|(go_at_call 64;refine(HLt.out _).mono ?_;rintro e w' ⟨rfl,rfl⟩)|(go_at_call 65;refine(HDt.out _).mono ?_;rintro e w' ⟨rfl,rfl⟩));refine(HRL.out _ HB0.out).mono ?_;rintro e w5 hrt;obtain⟨⟨k0,t0,i0,r0,a0,s0⟩,er⟩:=t;obtain⟨rfl,hb5⟩:=hrt;unfold tokVal;have hz5:w.heap.size+1≤w5.heap.size:=by have:=hb5.size;simpa using this
     have cq:∀ j,w5.cell? ⟨w.heap.size,j,none⟩=_:=fun j=>hb5.cell (p:=⟨w.heap.size,j,none⟩) (by simp);have fq:∀ j,w5.frozen? ⟨w.heap.size,j,none⟩=_:=fun j=>hb5.frozen (p:=⟨w.heap.size,j,none⟩) (by simp);have z0:w5.cell? ⟨w.heap.size,0,none⟩=some (.int .i64 0):=by rw[cq];simp
     have z1:w5.cell? ⟨w.heap.size,1,none⟩=some (.string ⟨#[]⟩):=by rw[cq];simp
     have z2:w5.cell? ⟨w.heap.size,2,none⟩=some (.int .i64 0):=by rw[cq];simp
     have z3:w5.cell? ⟨w.heap.size,3,none⟩=some (.float .f64 0):=by rw[cq];simp
     have z4:w5.cell? ⟨w.heap.size,4,none⟩=some (.int .i64 0):=by rw[cq];simp
     have z5:w5.cell? ⟨w.heap.size,5,none⟩=some (.int .i64 0):=by rw[cq];simp
     have fz:∀ j,w5.frozen? ⟨w.heap.size,j,none⟩=false:=fun j=>by rw[fq];simp
     have HB5:=hid (HB0.out.trans (hb5.mono (by simp)));have hlt5:w.heap.size<w5.heap.size:=by omega
     obtain⟨wx,hwx⟩:∃ wx,wx=w5.alloc (.cells #[.int .i64 k0,.string ⟨t0.toArray⟩,.int .i64 i0,.float .f64 r0,.int .i64 a0,.int .i64 s0] 59):=⟨_,rfl⟩
     have y0:wx.cell? ⟨w.heap.size,0,none⟩=some (.int .i64 0):=by rw[hwx];exact cell_keep _ z0
     have y1:wx.cell? ⟨w.heap.size,1,none⟩=some (.string ⟨#[]⟩):=by rw[hwx];exact cell_keep _ z1
     have y2:wx.cell? ⟨w.heap.size,2,none⟩=some (.int .i64 0):=by rw[hwx];exact cell_keep _ z2
     have y3:wx.cell? ⟨w.heap.size,3,none⟩=some (.float .f64 0):=by rw[hwx];exact cell_keep _ z3
     have y4:wx.cell? ⟨w.heap.size,4,none⟩=some (.int .i64 0):=by rw[hwx];exact cell_keep _ z4
     have y5:wx.cell? ⟨w.heap.size,5,none⟩=some (.int .i64 0):=by rw[hwx];exact cell_keep _ z5
     have x0:wx.cell? ⟨w5.heap.size,0,none⟩=some (.int .i64 k0):=by rw[hwx];simp
     have x1:wx.cell? ⟨w5.heap.size,1,none⟩=some (.string ⟨t0.toArray⟩):=by rw[hwx];simp
     have x2:wx.cell? ⟨w5.heap.size,2,none⟩=some (.int .i64 i0):=by rw[hwx];simp
     have x3:wx.cell? ⟨w5.heap.size,3,none⟩=some (.float .f64 r0):=by rw[hwx];simp
     have x4:wx.cell? ⟨w5.heap.size,4,none⟩=some (.int .i64 a0):=by rw[hwx];simp
     have x5:wx.cell? ⟨w5.heap.size,5,none⟩=some (.int .i64 s0):=by rw[hwx];simp
     have fy:∀ j,wx.frozen? ⟨w.heap.size,j,none⟩=false:=fun j=>by rw[hwx];exact(((Below.refl w5.heap.size w5).alloc (Nat.le_refl _) _).frozen (p:=⟨w.heap.size,j,none⟩) hlt5).trans (fz j)
     have f0:=fy 0;have f1:=fy 1;have f2:=fy 2;have f3:=fy 3;have f4:=fy 4;have f5:=fy 5;have hBx:Below w.heap.size w wx:=by rw[hwx];exact HB5.out.alloc (by omega) _
     have HBX:=hid hBx;have HWX:=hid hwx;clear cq fq hb5 z0 z1 z2 z3 z4 z5 fz fy hBx hwx;go_upto_region 10 with (fail);rw[← HWX.out];go_wp2_with fail;refine bodyPost_ret (v:=.tuple #[.agg #[.int .i64 k0,.string ⟨t0.toArray⟩,.int .i64 i0,.float .f64 r0,.int .i64 a0,.int .i64 s0],.int .i64 er]) (by simp[results,Tryz.results66,go_sem,y0,y1,y2,y3,y4,y5]) rfl ?_;rw[HQ.out];refine⟨rfl,?_⟩;exact below_six HBX.out _ _ _ _ _ _ (by simp) (by simp) (by simp) (by simp) (by simp) (by simp)
    ·rw[hn] at n5 HNUM;clear hn;go_wp2_with (first|(go_at_call 64;refine(HLt.out _).mono ?_;rintro e w' ⟨rfl,rfl⟩)|(go_at_call 65;refine(HDt.out _).mono ?_;rintro e w' ⟨rfl,rfl⟩));refine bodyPost_ret (v:=.tuple #[.agg #[.int .i64 0,.string ⟨#[]⟩,.int .i64 0,.float .f64 0,.int .i64 0,.int .i64 0],.int .i64 12]) (by simp[results,Tryz.results66,go_sem]) rfl ?_;rw[HNUM.out,if_pos (by simp)];exact⟨rfl,(Below.refl _ _).alloc (Nat.le_refl _) _⟩
   ·have p2:decide ((H:Int)+1<(M:Int))=false:=by rw[decide_eq_false_iff_not];have:=of_decide_eq_false n3;omega
    rcases Nat.eq_zero_or_pos M with hM0|hM0
    ·obtain⟨rfl,rfl⟩:M=0∧H=0:=by have:=HW.out;omega
     have q1l:decide ((A:Int)+(N:Int)<(n:Int))=true:=by simpa using q1i
     have q1m:decide (A+N<n)=true:=by simpa using q1
     have hcd2:=hcd w (fun _=>rfl);simp only[Nat.add_zero] at hcd2;obtain⟨a1,hs1,hT1⟩:=slice_mid A (A+N) HT.out (Nat.le_add_right _ _) hAN;rw[Nat.add_sub_cancel_left] at hs1 hT1;have hs1':∀ w',(Instr.slice 22 (.slice (some ⟨b,o,none⟩) n cap) (some (.int .i64 (A:Int))) (some (.int .i64 ((A:Int)+(N:Int)))) none).run Tryz.prog w'=.ok (.slice a1 N (cap-A)) w':=hs1;obtain⟨v,bl,hc1,hf1⟩:=refW_ways a1 N (cap-A) ((l.drop A).take N) (by omega) HD1.out;have HC1:=hid (hc1 _ (hT1.below HB0.out (Nat.le_refl _)));have HF1:=hid hf1;clear hs1 hT1 hc1 hf1;go_wp2_with (first|(go_at_call 64;refine(HLt.out _).mono ?_;rintro e w' ⟨rfl,rfl⟩)|(go_at_call 65;refine(HDt.out _).mono ?_;rintro e w' ⟨rfl,rfl⟩));refine HC1.out.mono ?_;rintro e w1 ⟨rfl,rfl⟩;have hf1:=HF1.out;rcases hf1 with ⟨rfl,f1,_⟩|⟨rfl,f1⟩
     ·have F1:=hid f1;clear f1 HF1;go_wp2_with fail;refine bodyPost_ret (v:=.tuple #[.agg #[.int .i64 2,.string ⟨#[]⟩,.int .i64 v,.float .f64 0,.int .i64 A,.int .i64 N],.int .i64 0]) (by simp[results,Tryz.results66,go_sem]) rfl ?_;rw[HNUM.out,if_neg (by simp),if_neg (by omega),F1.out];exact⟨rfl,(Below.refl _ _).alloc (Nat.le_refl _) _⟩
     ·have F1:=hid f1;clear f1 HF1;go_wp2_with fail;refine bodyPost_ret (v:=.tuple #[.agg #[.int .i64 0,.string ⟨#[]⟩,.int .i64 0,.float .f64 0,.int .i64 0,.int .i64 0],.int .i64 12]) (by simp[results,Tryz.results66,go_sem]) rfl ?_;rw[HNUM.out,if_neg (by simp),if_neg (by omega),F1.out];exact⟨rfl,(Below.refl _ _).alloc (Nat.le_refl _) _⟩
    ·have hHM:(H=1∨H=2)∧H<M∧M-H=tw digitB l (A+N+H):=by have:=HW.out;omega
     obtain⟨t,ht⟩:∃ t,t=realT A N M ((l.drop A).take N) ((l.drop (A+N+H)).take (M-H)) (H==2):=⟨_,rfl⟩
     have HRL:Hid (∀ W,Below w.heap.size w W→Calls Tryz.prog 86 #[.slice (some ⟨b,o,none⟩) n cap,.int .i64 A,.int .i64 N,.int .i64 M,.int .i64 H] W fun e w'=>RTok t W e w'):=by
      have:∀ W,Below w.heap.size w W→Calls Tryz.prog 86 #[.slice (some ⟨b,o,none⟩) n cap,.int .i64 A,.int .i64 N,.int .i64 M,.int .i64 H] W fun e w'=>RTok t W e w':=by
       intro W hW;have hd2:∀ c ∈ (l.drop (A+N+H)).take (M-H),48≤c.toNat∧c.toNat≤57:=by rw[hHM.2.2];exact tw_digits l _
       rw[ht];rcases hHM.1 with h1|h1
       ·subst h1;exact refReal_up _ n cap A N M l W (HT.out.below hW (Nat.le_refl _)) h48 hL (by omega) HD1.out hd2
       ·subst h1;exact refReal_down _ n cap A N M l W (HT.out.below hW (Nat.le_refl _)) h48 hL (by omega) HD1.out hd2
      exact this
     have HQ:Hid (refNum l A=t):=by
      have:refNum l A=t:=by rw[HNUM.out,if_neg (by simp),if_pos (by omega),ht]
      exact this
     have hM1:decide ((0:Int)<(M:Int))=true:=by rw[decide_eq_true_eq];omega
     have hM1':decide (0<M)=true:=by rw[decide_eq_true_eq];omega
     clear hHM ht HNUM HW;go_wp2_with (first|(go_at_call 64;refine(HLt.out _).mono ?_;rintro e w' ⟨rfl,rfl⟩)|(go_at_call 65;refine(HDt.out _).mono ?_;rintro e w' ⟨rfl,rfl⟩));refine(HRL.out _ HB0.out).mono ?_;rintro e w5 hrt;obtain⟨⟨k0,t0,i0,r0,a0,s0⟩,er⟩:=t;obtain⟨rfl,hb5⟩:=hrt;unfold tokVal;have hz5:w.heap.size+1≤w5.heap.size:=by have:=hb5.size;simpa using this
     have cq:∀ j,w5.cell? ⟨w.heap.size,j,none⟩=_:=fun j=>hb5.cell (p:=⟨w.heap.size,j,none⟩) (by simp);have fq:∀ j,w5.frozen? ⟨w.heap.size,j,none⟩=_:=fun j=>hb5.frozen (p:=⟨w.heap.size,j,none⟩) (by simp);have z0:w5.cell? ⟨w.heap.size,0,none⟩=some (.int .i64 0):=by rw[cq];simp
     have z1:w5.cell? ⟨w.heap.size,1,none⟩=some (.string ⟨#[]⟩):=by rw[cq];simp
     have z2:w5.cell? ⟨w.heap.size,2,none⟩=some (.int .i64 0):=by rw[cq];simp
     have z3:w5.cell? ⟨w.heap.size,3,none⟩=some (.float .f64 0):=by rw[cq];simp
     have z4:w5.cell? ⟨w.heap.size,4,none⟩=some (.int .i64 0):=by rw[cq];simp
     have z5:w5.cell? ⟨w.heap.size,5,none⟩=some (.int .i64 0):=by rw[cq];simp
     have fz:∀ j,w5.frozen? ⟨w.heap.size,j,none⟩=false:=fun j=>by rw[fq];simp
     have HB5:=hid (HB0.out.trans (hb5.mono (by simp)));have hlt5:w.heap.size<w5.heap.size:=by omega
     obtain⟨wx,hwx⟩:∃ wx,wx=w5.alloc (.cells #[.int .i64 k0,.string ⟨t0.toArray⟩,.int .i64 i0,.float .f64 r0,.int .i64 a0,.int .i64 s0] 59):=⟨_,rfl⟩
     have y0:wx.cell? ⟨w.heap.size,0,none⟩=some (.int .i64 0):=by rw[hwx];exact cell_keep _ z0
     have y1:wx.cell? ⟨w.heap.size,1,none⟩=some (.string ⟨#[]⟩):=by rw[hwx];exact cell_keep _ z1
     have y2:wx.cell? ⟨w.heap.size,2,none⟩=some (.int .i64 0):=by rw[hwx];exact cell_keep _ z2
     have y3:wx.cell? ⟨w.heap.size,3,none⟩=some (.float .f64 0):=by rw[hwx];exact cell_keep _ z3
     have y4:wx.cell? ⟨w.heap.size,4,none⟩=some (.int .i64 0):=by rw[hwx];exact cell_keep _ z4
     have y5:wx.cell? ⟨w.heap.size,5,none⟩=some (.int .i64 0):=by rw[hwx];exact cell_keep _ z5
     have x0:wx.cell? ⟨w5.heap.size,0,none⟩=some (.int .i64 k0):=by rw[hwx];simp
     have x1:wx.cell? ⟨w5.heap.size,1,none⟩=some (.string ⟨t0.toArray⟩):=by rw[hwx];simp
     have x2:wx.cell? ⟨w5.heap.size,2,none⟩=some (.int .i64 i0):=by rw[hwx];simp
     have x3:wx.cell? ⟨w5.heap.size,3,none⟩=some (.float .f64 r0):=by rw[hwx];simp
     have x4:wx.cell? ⟨w5.heap.size,4,none⟩=some (.int .i64 a0):=by rw[hwx];simp
     have x5:wx.cell? ⟨w5.heap.size,5,none⟩=some (.int .i64 s0):=by rw[hwx];simp
     have fy:∀ j,wx.frozen? ⟨w.heap.size,j,none⟩=false:=fun j=>by rw[hwx];exact(((Below.refl w5.heap.size w5).alloc (Nat.le_refl _) _).frozen (p:=⟨w.heap.size,j,none⟩) hlt5).trans (fz j)
     have f0:=fy 0;have f1:=fy 1;have f2:=fy 2;have f3:=fy 3;have f4:=fy 4;have f5:=fy 5;have hBx:Below w.heap.size w wx:=by rw[hwx];exact HB5.out.alloc (by omega) _
     have HBX:=hid hBx;have HWX:=hid hwx;clear cq fq hb5 z0 z1 z2 z3 z4 z5 fz fy hBx hwx;go_upto_region 10 with (fail);rw[← HWX.out];go_wp2_with fail;refine bodyPost_ret (v:=.tuple #[.agg #[.int .i64 k0,.string ⟨t0.toArray⟩,.int .i64 i0,.float .f64 r0,.int .i64 a0,.int .i64 s0],.int .i64 er]) (by simp[results,Tryz.results66,go_sem,y0,y1,y2,y3,y4,y5]) rfl ?_;rw[HQ.out];refine⟨rfl,?_⟩;exact below_six HBX.out _ _ _ _ _ _ (by simp) (by simp) (by simp) (by simp) (by simp) (by simp)
   ·have p2:decide ((H:Int)+1<(M:Int))=true:=by rw[decide_eq_true_eq];omega
    cases hn:nou
    ·rw[hn] at n5 HNUM;clear hn;have hM0:0<M:=by omega
     have hHM:(H=1∨H=2)∧H<M∧M-H=tw digitB l (A+N+H):=by have:=HW.out;omega
     obtain⟨t,ht⟩:∃ t,t=realT A N M ((l.drop A).take N) ((l.drop (A+N+H)).take (M-H)) (H==2):=⟨_,rfl⟩
     have HRL:Hid (∀ W,Below w.heap.size w W→Calls Tryz.prog 86 #[.slice (some ⟨b,o,none⟩) n cap,.int .i64 A,.int .i64 N,.int .i64 M,.int .i64 H] W fun e w'=>RTok t W e w'):=by
      have:∀ W,Below w.heap.size w W→Calls Tryz.prog 86 #[.slice (some ⟨b,o,none⟩) n cap,.int .i64 A,.int .i64 N,.int .i64 M,.int .i64 H] W fun e w'=>RTok t W e w':=by
       intro W hW;have hd2:∀ c ∈ (l.drop (A+N+H)).take (M-H),48≤c.toNat∧c.toNat≤57:=by rw[hHM.2.2];exact tw_digits l _
       rw[ht];rcases hHM.1 with h1|h1
       ·subst h1;exact refReal_up _ n cap A N M l W (HT.out.below hW (Nat.le_refl _)) h48 hL (by omega) HD1.out hd2
       ·subst h1;exact refReal_down _ n cap A N M l W (HT.out.below hW (Nat.le_refl _)) h48 hL (by omega) HD1.out hd2
      exact this
     have HQ:Hid (refNum l A=t):=by
      have:refNum l A=t:=by rw[HNUM.out,if_neg (by simp),if_pos (by omega),ht]
      exact this
     have hM1:decide ((0:Int)<(M:Int))=true:=by rw[decide_eq_true_eq];omega
     have hM1':decide (0<M)=true:=by rw[decide_eq_true_eq];omega
     clear hHM ht HNUM HW;go_wp2_with (first|(go_at_call 64;refine(HLt.out _).mono ?_;rintro e w' ⟨rfl,rfl⟩)|(go_at_call 65;refine(HDt.out _).mono ?_;rintro e w' ⟨rfl,rfl⟩));refine(HRL.out _ HB0.out).mono ?_;rintro e w5 hrt;obtain⟨⟨k0,t0,i0,r0,a0,s0⟩,er⟩:=t;obtain⟨rfl,hb5⟩:=hrt;unfold tokVal;have hz5:w.heap.size+1≤w5.heap.size:=by have:=hb5.size;simpa using this
     have cq:∀ j,w5.cell? ⟨w.heap.size,j,none⟩=_:=fun j=>hb5.cell (p:=⟨w.heap.size,j,none⟩) (by simp);have fq:∀ j,w5.frozen? ⟨w.heap.size,j,none⟩=_:=fun j=>hb5.frozen (p:=⟨w.heap.size,j,none⟩) (by simp);have z0:w5.cell? ⟨w.heap.size,0,none⟩=some (.int .i64 0):=by rw[cq];simp
     have z1:w5.cell? ⟨w.heap.size,1,none⟩=some (.string ⟨#[]⟩):=by rw[cq];simp
     have z2:w5.cell? ⟨w.heap.size,2,none⟩=some (.int .i64 0):=by rw[cq];simp
     have z3:w5.cell? ⟨w.heap.size,3,none⟩=some (.float .f64 0):=by rw[cq];simp
     have z4:w5.cell? ⟨w.heap.size,4,none⟩=some (.int .i64 0):=by rw[cq];simp
     have z5:w5.cell? ⟨w.heap.size,5,none⟩=some (.int .i64 0):=by rw[cq];simp
     have fz:∀ j,w5.frozen? ⟨w.heap.size,j,none⟩=false:=fun j=>by rw[fq];simp
     have HB5:=hid (HB0.out.trans (hb5.mono (by simp)));have hlt5:w.heap.size<w5.heap.size:=by omega
     obtain⟨wx,hwx⟩:∃ wx,wx=w5.alloc (.cells #[.int .i64 k0,.string ⟨t0.toArray⟩,.int .i64 i0,.float .f64 r0,.int .i64 a0,.int .i64 s0] 59):=⟨_,rfl⟩
     have y0:wx.cell? ⟨w.heap.size,0,none⟩=some (.int .i64 0):=by rw[hwx];exact cell_keep _ z0
     have y1:wx.cell? ⟨w.heap.size,1,none⟩=some (.string ⟨#[]⟩):=by rw[hwx];exact cell_keep _ z1
     have y2:wx.cell? ⟨w.heap.size,2,none⟩=some (.int .i64 0):=by rw[hwx];exact cell_keep _ z2
     have y3:wx.cell? ⟨w.heap.size,3,none⟩=some (.float .f64 0):=by rw[hwx];exact cell_keep _ z3
     have y4:wx.cell? ⟨w.heap.size,4,none⟩=some (.int .i64 0):=by rw[hwx];exact cell_keep _ z4
     have y5:wx.cell? ⟨w.heap.size,5,none⟩=some (.int .i64 0):=by rw[hwx];exact cell_keep _ z5
     have x0:wx.cell? ⟨w5.heap.size,0,none⟩=some (.int .i64 k0):=by rw[hwx];simp
     have x1:wx.cell? ⟨w5.heap.size,1,none⟩=some (.string ⟨t0.toArray⟩):=by rw[hwx];simp
     have x2:wx.cell? ⟨w5.heap.size,2,none⟩=some (.int .i64 i0):=by rw[hwx];simp
     have x3:wx.cell? ⟨w5.heap.size,3,none⟩=some (.float .f64 r0):=by rw[hwx];simp
     have x4:wx.cell? ⟨w5.heap.size,4,none⟩=some (.int .i64 a0):=by rw[hwx];simp
     have x5:wx.cell? ⟨w5.heap.size,5,none⟩=some (.int .i64 s0):=by rw[hwx];simp
     have fy:∀ j,wx.frozen? ⟨w.heap.size,j,none⟩=false:=fun j=>by rw[hwx];exact(((Below.refl w5.heap.size w5).alloc (Nat.le_refl _) _).frozen (p:=⟨w.heap.size,j,none⟩) hlt5).trans (fz j)
     have f0:=fy 0;have f1:=fy 1;have f2:=fy 2;have f3:=fy 3;have f4:=fy 4;have f5:=fy 5;have hBx:Below w.heap.size w wx:=by rw[hwx];exact HB5.out.alloc (by omega) _
     have HBX:=hid hBx;have HWX:=hid hwx;clear cq fq hb5 z0 z1 z2 z3 z4 z5 fz fy hBx hwx;go_upto_region 10 with (fail);rw[← HWX.out];go_wp2_with fail;refine bodyPost_ret (v:=.tuple #[.agg #[.int .i64 k0,.string ⟨t0.toArray⟩,.int .i64 i0,.float .f64 r0,.int .i64 a0,.int .i64 s0],.int .i64 er]) (by simp[results,Tryz.results66,go_sem,y0,y1,y2,y3,y4,y5]) rfl ?_;rw[HQ.out];refine⟨rfl,?_⟩;exact below_six HBX.out _ _ _ _ _ _ (by simp) (by simp) (by simp) (by simp) (by simp) (by simp)
    ·rw[hn] at n5 HNUM;clear hn;go_wp2_with (first|(go_at_call 64;refine(HLt.out _).mono ?_;rintro e w' ⟨rfl,rfl⟩)|(go_at_call 65;refine(HDt.out _).mono ?_;rintro e w' ⟨rfl,rfl⟩));refine bodyPost_ret (v:=.tuple #[.agg #[.int .i64 0,.string ⟨#[]⟩,.int .i64 0,.float .f64 0,.int .i64 0,.int .i64 0],.int .i64 12]) (by simp[results,Tryz.results66,go_sem]) rfl ?_;rw[HNUM.out,if_pos (by simp)];exact⟨rfl,(Below.refl _ _).alloc (Nat.le_refl _) _⟩
end Go.Proofs.YtkpboalccpancaaGreatDoor
