import Derived.Test.YtkpboalccpancaaGreatDoorJMDcPlain
import Derived.Test.YtkpboalccpancaaGreatDoorJMDrIs
import Derived.Deep.RegionHeld3
import Derived.IntWalk
import Derived.Deep.QuietTactic
import Derived.BigQuiet
namespace Go.Proofs.YtkpboalccpancaaGreatDoor
open Go.RowKit Go.Shelf
set_option maxRecDepth 100000
set_option linter.all false
def nameG (k:Int):ByteArray:=if k=1 then ⟨#[105,110,116]⟩ else if k=2 then ⟨#[114,101,97,108]⟩ else if k=3 then ⟨#[99,111,109,112]⟩ else if k=4 then ⟨#[116,101,120,116]⟩ else if k=5 then ⟨#[98,111,111,108]⟩ else ⟨#[]⟩
def tyG (l:List UInt8):Nat→Nat→Nat × Bool
 | 0,_=>(0,false)
 | f+1,k=>if (nameG k).toList==l then (k,true) else tyG l f (k+1)
theorem tyG8 (l:List UInt8):tyG l 5 1=tyF8 l:=by
 have e1:(nameG ((1:Nat):Int)).toList=[105,110,116]:=by rw[tl_dat];rfl
 have e2:(nameG ((1+1:Nat):Int)).toList=[114,101,97,108]:=by rw[tl_dat];rfl
 have e3:(nameG ((1+1+1:Nat):Int)).toList=[99,111,109,112]:=by rw[tl_dat];rfl
 have e4:(nameG ((1+1+1+1:Nat):Int)).toList=[116,101,120,116]:=by rw[tl_dat];rfl
 have e5:(nameG ((1+1+1+1+1:Nat):Int)).toList=[98,111,111,108]:=by rw[tl_dat];rfl
 unfold tyF8 tyG;rw[e1];by_cases h1:l=[105,110,116]
 ·subst h1;rfl
 rw[if_neg h1,if_neg (by simpa using fun h=>h1 h.symm)];unfold tyG;rw[e2];by_cases h2:l=[114,101,97,108]
 ·subst h2;rfl
 rw[if_neg h2,if_neg (by simpa using fun h=>h2 h.symm)];unfold tyG;rw[e3];by_cases h3:l=[99,111,109,112]
 ·subst h3;rfl
 rw[if_neg h3,if_neg (by simpa using fun h=>h3 h.symm)];unfold tyG;rw[e4];by_cases h4:l=[116,101,120,116]
 ·subst h4;rfl
 rw[if_neg h4,if_neg (by simpa using fun h=>h4 h.symm)];unfold tyG;rw[e5];by_cases h5:l=[98,111,111,108]
 ·subst h5;rfl
 rw[if_neg h5,if_neg (by simpa using fun h=>h5 h.symm)];rfl
end Go.Proofs.YtkpboalccpancaaGreatDoor
