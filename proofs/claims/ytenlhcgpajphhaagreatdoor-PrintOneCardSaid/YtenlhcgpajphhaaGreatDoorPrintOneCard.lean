/- PrintOne: whatever text the program's Parse reads as a program, its Print gives a text of it (or refuses it as too long, where the text read was longer than a sixteenth of what may be); that text is read as the same program and printed as the same text again, and each chord of it alike by Chord and ParseChord: the law answers true for every text. Conditions: the listed variables (strconv's two sentinels, internal/strconv's powers of ten, math/bits' two tables, the program's table of the kinds) hold what the program's text lays in them; the text has at most as many bytes as the row's own reach allows. The row and its tied card. -/
import Derived.Test.YtenlhcgpajphhaaGreatDoorCards
import Derived.Test.YtenlhcgpajphhaaGreatDoorTie
import Derived.Test.YtenlhcgpajphhaaGreatDoorDeclKit
import Derived.Test.YtenlhcgpajphhaaGreatDoorMPqProg
import Derived.Lib.LaidTab
import Derived.SevenTiedAt
namespace Go.Proofs.YtenlhcgpajphhaaGreatDoor
open Go.ChangeShapes Go.WideShapes Go.ChangeAt Go.RowKit
open Go.ChangeMaps (open_string shut_string)
set_option linter.all false
theorem qpG {W:World} (h:laidMetH Tryz.prog Rows.declReadsRow.laid W):qk3 W:=by
 have hg:qq3 W:=qrQ h;rw[MakeChecks.laidMetH_plain _ _ _ (by kernel_rfl)] at h;have h1:=qd4 h;have h2:=qd4 h1;exact⟨hg,Lib.tabIs_of_head (g:=5) (by kernel_rfl) (t:=296) (by kernel_rfl) Tryz.underlying296 Tryz.underlying198 (by kernel_rfl) (by kernel_rfl) h2,
  Lib.tabIs_of_head (g:=6) (by kernel_rfl) (t:=305) (by kernel_rfl) Tryz.underlying305 Tryz.underlying5 (by kernel_rfl) (by kernel_rfl) h1⟩
namespace PrOne
set_option maxRecDepth 100000 in
theorem lifted (os:Os) (started:os.Started) (H:Type) (enc:TypeId × Value→H) :
  ReturnsInHanded {} Tryz.checked os 8 .any (fun w args=>(Rows.printOneSpec.pre enc Tryz.prog Tryz.f8 [] false w args∧laidMetH Tryz.prog Rows.printOneRow.laid w)∧sizedMet enc Tryz.prog Tryz.f8 (OpenSpec.ofChange Rows.printOneSpec) false w args)
   (Rows.printOneSpec.post enc Tryz.prog Tryz.f8 false true false false):=by
 refine returnsInHanded_of_change_and (C:=Tryz.checked) (X:=fun w _=>laidMetH Tryz.prog Rows.printOneRow.laid w) (fun _ _ _ hh h=>h.of_heap hh) own started (by kernel_rfl) Tryz.func8
  (ChangeSpec.witness_shaped (enc:=enc) (C:=Tryz.checked) (os:=os) (X:=fun w _=>laidMetH Tryz.prog Rows.printOneRow.laid w) false (World.doorLaid Tryz.prog 400 os) #[.slice none 0 0] 8 rfl (World.shaped_of_RefB (by kernel_rfl) (by kernel_rfl)) (by kernel_rfl) (by kernel_rfl) (by kernel_rfl) (q5E os _)) ?_
 intro W base args ds gs before hval0 hW _ hsz0 hL _;have hsz:(DataW.weightsEach Tryz.prog (Tryz.f8.params.toList++Rows.printOneSpec.plain.varTypes Tryz.prog) (ds++gs)).all (·≤reachBytes)=true:=hsz0;clear hsz0;have hval:∀ (j:Nat) t v,Tryz.f8.params[j]?=some t→args[j]?=some v→Value.okWide Tryz.prog W .any base t v:=hval0;have hW':=hW;obtain⟨p,q,hA0,hV,rfl,hfz,hnd⟩:=hW;have hA:DataW.TrodAll enc Tryz.prog W 0 (fun _=>true) true Tryz.f8.params.toList args.toList ds p:=hA0;rw[Tryz.params8] at hA hval hsz;obtain⟨v1,vs1,d1,ds1,p1,q1,hargs,rfl,rfl,h1,r1⟩:=trodAll_cons hA;obtain⟨rfl,rfl,rfl⟩:=trodAll_nil r1;obtain rfl:args=#[v1]:=by cases args;simp_all
 obtain⟨rfl,rfl⟩:=trodVars_none hV;obtain⟨a1,len1,cap1,rfl⟩:=okWide_slice Tryz.underlying22 (hval 0 22 v1 rfl rfl);have k1:=h1;have lt1:∀ x ∈ p1,x.block<W.heap.size:=by obtain⟨m,hm⟩:=k1;exact DataW.trod_lt m _ _ _ hm
 obtain⟨z1,w1,hr⟩:∃ l,Txt W a1 len1 cap1 l∧len1≤140737488351232:=by
  obtain⟨fuel,hf⟩:=h1;rcases open_ints Tryz.underlying22 Tryz.underlying5 (by kernel_rfl) hf with ⟨hcs,_⟩|⟨x,l,c,zs,hcs,_,hl,hm,hz,hx,hcell,hwz⟩
  ·simp[Value.cells] at hcs;obtain⟨rfl,rfl,rfl⟩:=hcs;exact⟨[],⟨rfl,Nat.le_refl _,Nat.zero_le _,.inl ⟨rfl,rfl,rfl⟩⟩,Nat.zero_le _⟩
  ·simp[Value.cells] at hcs;obtain⟨rfl,rfl,rfl⟩:=hcs;have hz':zs.length=cap1:=by simpa using hz
   refine⟨_,qwP hl hm hz' hcell hwz,?_⟩;simp only[Prod.mk.injEq] at hx;obtain⟨rfl,_⟩:=hx;have:=sized_slice hsz (j:=0) (t:=22) (e:=5) rfl rfl Tryz.underlying22;rw[jbS] at this;simp only[lits,List.length_map,List.length_take,List.length_drop,reachBytes] at this;omega
 have hTb:Tab W:=qsI (show laidMetH Tryz.prog Rows.declReadsRow.laid W from hL);have hE:Env9 W:=⟨hTb,qpG (show laidMetH Tryz.prog Rows.declReadsRow.laid W from hL),q3T hTb⟩
 clear hA0 hval0;refine(qoQ a1 len1 cap1 z1 W hE w1 hr).mono fun e W' ⟨he,bel⟩=>?_;subst he;exact⟨_,rfl,_,_,_,[],_,[],hW',trodAll_mk1 (shut_bool Tryz.underlying4 _),(trodAll_cons_mk (Below.trod q8I (by kernel_rfl) (of_decide_eq_true (by kernel_rfl)) k1 bel lt1) trodAll_mk0),rfl,bel.frame _,fun h=>by cases h⟩
theorem over:Rows.printOneRow.holds Tryz.pinned (OpenSpec.ofChange Rows.printOneSpec) :=
 OpenClaim.holds_of_wide 8 Tryz.f8 rfl rfl rfl rfl rfl rfl rfl ⟨rfl,rfl,rfl,rfl,rfl⟩ rfl rfl rfl rfl rfl (by kernel_rfl) Tryz.func8 (by kernel_rfl)
  (of_decide_eq_true (by kernel_rfl)) (by unfold Func.isWrapper;first|(rw[if_pos (by decide +kernel)];kernel_rfl)|(rw[if_neg (by decide +kernel)];exact⟨rfl,rfl⟩))
  (fun os started H enc _=>lifted os started H enc)
theorem plain (f:FuncId) (fn:Func) (hf:Tryz.pinned.checked.prog.funcNamed "chordmail/chordmaillaw10.PrintOne"=some f) (hfn:Tryz.pinned.checked.prog.funcs[f]?=some fn) :
  true=Tryz.pinned.checked.prog.looks []∧∀ (j:Nat) t,fn.params[j]?=some t→Tryz.pinned.checked.prog.wantsStandIn t=false:=by
 obtain rfl:f=8:=Option.some.inj ((show Tryz.prog.funcNamed "chordmail/chordmaillaw10.PrintOne"=some 8 by kernel_rfl).symm.trans hf) |>.symm;obtain rfl:fn=Tryz.f8:=(Option.some.inj (Tryz.func8.symm.trans hfn)).symm;refine⟨by kernel_rfl,fun j t ht=>?_⟩;rw[Tryz.params8] at ht;have hm:t ∈ [22]:=by simpa using Array.mem_of_getElem? ht
 have hall:([22].all fun u=>!Tryz.prog.wantsStandIn u)=true:=by kernel_rfl
 exact(show Tryz.prog.wantsStandIn t=false by simpa using List.all_eq_true.1 hall t hm)
end PrOne
theorem printOne_card:Rows.PrintOneCardSaid :=
 Claim7.holds_tied_plain_at .later [] _ _ _ _ PrOne.over (fun _ h=>by cases h) (by kernel_rfl) (fun _ h=>by cases h) printOne_row_tie rfl ⟨rfl,rfl⟩ (by kernel_rfl) rfl PrOne.plain (by kernel_rfl)
#print axioms printOne_card
end Go.Proofs.YtenlhcgpajphhaaGreatDoor
