import Derived.Test.YtebpcnkdhgnghaaGreatDoorPM31
import Derived.Test.YtebpcnkdhgnghaaGreatDoorPM33
import Derived.Test.YtebpcnkdhgnghaaGreatDoorPM34
set_option linter.unusedSimpArgs false
set_option linter.unusedVariables false
namespace Go.Proofs.YtebpcnkdhgnghaaGreatDoor
variable {T:Int} {A:List OpX} {i n:Nat} {x y:OpX} {a:OpX×Nat}
section
open Go Go.RowKit Go.Lib Go.Sort Go.Maps
open scoped Classical
theorem Ix {ok:Bool} {cd:Nat} (h:(y,cd)=rd ok x) (hc:cd=0):ok=true/\ki x=0/\y=x:=by
 unfold rd at h
 split at h
 ·cases h;cases hc
 rename_i q
 split at h
 ·rename_i r
  cases h
  exact ⟨by cases ok;exact absurd rfl q;rfl,r,rfl⟩
 rename_i r
 cases h
 exact absurd hc r
theorem oV {ok:Bool} (h:(y,0)=rd ok x) (hx:x.1<=1073741824->True):ok=true/\ai x=0/\y=x:=by
 obtain ⟨h1,h2,h3⟩:=Ix h rfl
 refine ⟨h1,?_,h3⟩
 unfold ki at h2
 split at h2
 ·cases h2
 exact h2
theorem EK (h:ki x=0):ai x=0:=by
 unfold ki at h
 split at h
 ·cases h
 exact h
theorem EM {R:Rws} (hR:RowsK R) (h:MkIs (aQ R) T i (R i).length x (y,0)):NextOp R i T y:=by
 have up:∀ {nd:Int},KnownN (aQ R) nd->KnownN (y::aQ R) nd:=fun q=>q.mono (fun z hz=>ug _ hz)
 rcases h with ⟨_,_,h⟩ | ⟨_,_,ms,_,_,h⟩ | ⟨_,b,hb,h⟩ | ⟨_,b,hb,h⟩ | ⟨_,_,_,h⟩
 ·obtain ⟨h1,h2,rfl⟩:=oV h (fun _=>trivial)
  refine iu h2 ⟨.inl ⟨rfl,rfl⟩,fun _=>(plcB_iff.1 h1).imp id (fun q=>q.imp id up),fun q=> ?_⟩
  rcases q with ⟨q,_⟩ | q<;>exact absurd q (by show ¬(109=_);decide)
 ·rcases h with ⟨_,e⟩ | ⟨_,q,e⟩ | ⟨_,_,_,e⟩ | ⟨h1,h2,_,e⟩
  ·cases e
  ·have:=congrArg Prod.snd e
   exact absurd this.symm q
  ·cases e
  cases e
  rw [uL,knownB_iff,plcB_iff] at h1
  have hnd:=iw hR.well.ok h1.1
  refine iu (EK h2) ⟨.inr ?_,fun _=>h1.2.imp id (fun q=>q.imp id (fun q=>q.mono (fun z hz=>ug _ hz))),fun q=> ?_⟩
  ·rw [iU zj]
   exact h1.1.mono (fun z hz=>ug _ hz)
  rcases q with ⟨q,_⟩ | q<;>exact absurd q (by show ¬(109=_);decide)
 ·obtain ⟨h1,h2,rfl⟩:=oV h (fun _=>trivial)
  have hkl:KnownN (aQ R) (aM x)/\(0<b.1->LetterN (aQ R) (aM x) b.1):=by
   rcases hb with ⟨_,q2,q3⟩ | ⟨_,a1,a2⟩
   ·exact ⟨q3.1 h1,fun q=>zj⟩
   have hk:KnownN (aQ R) (aM x):=by
    by_cases hk:KnownN (aQ R) (aM x)
    ·exact hk
    rw [a1 hk] at h1;cases h1
   obtain ⟨L,hL,ea⟩:=a2 hk
   exact ⟨hk,fun _=>hL.mem.1 (Am (n:=aN x - 1) (by rw [<-ea,<-h1]))⟩
  have hnd:=iw hR.well.ok hkl.1
  refine iu h2 ⟨.inr ?_,fun q=>absurd q (by show ¬(105=_);decide),fun q=> ?_⟩
  ·rw [iU zj]
   exact hkl.1.mono (fun z hz=>ug _ hz)
  rw [iU zj]
  refine (hkl.2 ?_).mono (fun z hz=>ug _ hz)
  rcases q with ⟨_,q⟩ | q
  ·exact q
  exact absurd q (by show ¬(105=_);decide)
 ·obtain ⟨h1,h2,rfl⟩:=oV h (fun _=>trivial)
  have hk:KnownN (aQ R) (aM x):=by
   by_cases hk:KnownN (aQ R) (aM x)
   ·exact hk
   rw [hb.1 hk] at h1;cases h1
  obtain ⟨L,hL,ea⟩:=hb.2 hk
  have hl:LetterN (aQ R) (aM x) b.1:=hL.mem.1 (Am (n:=aN x) (by rw [<-ea,<-h1]))
  have hnd:=iw hR.well.ok hk
  refine iu h2 ⟨.inr ?_,fun q=>absurd q (by show ¬(100=_);decide),fun _=> ?_⟩
  ·exact kp2
  rw [iU zj]
  exact hl.mono (fun z hz=>ug _ hz)
 obtain ⟨h1,h2,rfl⟩:=oV h (fun _=>trivial)
 have hk:=knownB_iff.1 h1
 have hnd:=iw hR.well.ok hk
 refine iu h2 ⟨.inr ?_,fun q=>absurd q (by show ¬(115=_);decide),fun q=> ?_⟩
 ·exact kp2
 rcases q with ⟨q,_⟩ | q<;>exact absurd q (by show ¬(115=_);decide)
theorem DN (x:OpX):ki x<=12:=by
 have:=JK x
 unfold ki
 split<;>omega
theorem oe (ok:Bool) (x:OpX):(rd ok x).2<=12:=by
 have:=DN x
 unfold rd
 split
 ·show 6<=12;omega
 split
 ·show 0<=12;omega
 exact this
theorem Kp (h:MkIs A T i n x a):a.2<=12:=by
 rcases h with ⟨_,_,h⟩ | ⟨_,_,ms,_,_,h⟩ | ⟨_,b,_,h⟩ | ⟨_,b,_,h⟩ | ⟨_,_,_,h⟩
 ·rw [h];exact oe _ _
 ·rcases h with ⟨_,e⟩ | ⟨_,_,e⟩ | ⟨_,_,_,e⟩ | ⟨_,_,_,e⟩
  ·rw [e];show 6<=12;omega
  ·rw [e]
   exact DN _
  ·rw [e];show 10<=12;omega
  rw [e];show 0<=12;omega
 ·rw [h];exact oe _ _
 ·rw [h];exact oe _ _
 rw [h];exact oe _ _
theorem iO {ok:Bool} (h:a=rd ok x) (hc:a.2≠0):a.1=aR:=by
 rw [h] at hc |-
 unfold rd at hc |-
 split
 ·rfl
 split
 ·rename_i h1 h2
  rw [if_neg h1,if_pos h2] at hc
  exact absurd rfl hc
 rfl
theorem Er (h:MkIs A T i n x a) (hc:a.2≠0):a.1=aR:=by
 rcases h with ⟨_,_,h⟩ | ⟨_,_,ms,_,_,h⟩ | ⟨_,b,_,h⟩ | ⟨_,b,_,h⟩ | ⟨_,_,_,h⟩
 ·exact iO h hc
 ·rcases h with ⟨_,e⟩ | ⟨_,_,e⟩ | ⟨_,_,_,e⟩ | ⟨_,_,_,e⟩
  ·rw [e]
  ·rw [e]
  ·rw [e]
  rw [e] at hc;exact absurd rfl hc
 ·exact iO h hc
 ·exact iO h hc
 exact iO h hc
theorem DO (hok:∀x∈A,ai x=0) (h:dM A T):0<=T/\T<=1073741824:=by
 refine ⟨h.2.2,?_⟩
 rcases h.2.1 with e | ⟨x,hx,e⟩
 ·omega
 have:=(ar (hok x hx)).2.1
 omega
end
section
open Go Go.RowKit Go.Lib Go.Sort Go.Maps
open scoped Classical
structure MkF (w:World) (S0:Nat) (x:OpX) (W:World):Prop where
 x:OpBlk W S0 x
 z:OpBlk W (S0+1) aR
 b:Below w.heap.size w W
theorem EP {S:List OpX} (hok:∀x∈S,ai x=0) {ms:List Mov} (h:ms.Perm (bO S)):gj (aO ms):=fl fun m hm=>by
 obtain ⟨y,hy,he⟩:=Zl.1 (h.mem_iff.1 hm)
 by_cases hk:kdO y=109
 ·rw [mX hk] at he
  cases he
  exact kk5
 rw [mB hk] at he
 cases he
end
section
open Go Go.RowKit Go.Lib Go.Sort Go.Maps
open scoped Classical
end
section
open Go Go.RowKit Go.Lib Go.Sort Go.Maps
open scoped Classical
end
section
open Go Go.RowKit Go.Lib Go.Sort Go.Maps
open scoped Classical
end
section
open Go Go.RowKit Go.Lib Go.Sort Go.Maps
open scoped Classical
end
section
open Go Go.RowKit Go.Lib Go.Sort Go.Maps
open scoped Classical
end
section
open Go Go.RowKit Go.Lib Go.Sort Go.Maps
open scoped Classical
end
section
open Go Go.RowKit Go.Lib Go.Sort Go.Maps
open scoped Classical
