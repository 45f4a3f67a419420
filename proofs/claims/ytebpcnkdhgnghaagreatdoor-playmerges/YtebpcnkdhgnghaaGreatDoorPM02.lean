import Derived.Test.YtebpcnkdhgnghaaGreatDoorMacB
import Derived.Lib.Split
import Derived.Lib.Join
import Derived.Lib.ItoaNum
import Derived.Test.YtebpcnkdhgnghaaGreatDoorProg
import Derived.WalkSpells
import Derived.Lib.Hide
import Derived.Sort.LotA
import Derived.LaidEql
import Derived.LaidMore
import Derived.SevenTiedAt
import Derived.Lib.SmallJoins
import Derived.Lib.LaidU8
set_option linter.unusedSimpArgs false
set_option linter.unusedVariables false
set_option maxRecDepth 100000
set_option maxHeartbeats 64000000
namespace Go.Proofs.YtebpcnkdhgnghaaGreatDoor
open Go.Proofs.Tryz
variable {D:DataW Unit} {z:DataW Unit×List MemPlace} {b k r x:Int} {a:Int×Int} {i n:Nat} {w:World}
section
open Go
def hd (cur:List UInt8):List (List UInt8)->List (List UInt8)
 | []=>[cur]
 | p::ps=>(cur++p)::ps
def Dd:Nat->List UInt8->Option Nat
 | n,[]=>some n
 | n,c::r=>if c.toNat<48\/57<c.toNat then none else Dd (10*n+(c.toNat - 48)) r
def MF (D:Nat) (l:List UInt8):Option Nat:=if l.length<1\/D<l.length\/(l.getD 0 0).toNat=48/\1<l.length then none else Dd 0 l
abbrev RV:=Option (Nat⊕(Nat×Nat×Nat×Nat))
end
section
open Go
def Nl (p:UInt8):List UInt8->List (List UInt8)
 | []=>[[]]
 | c::r=>if c=p then []::Nl p r else hd [c] (Nl p r)
def lG (p:UInt8):List (List UInt8)->List UInt8
 | []=>[]
 | [a]=>a
 | a::b::r=>a++p::lG p (b::r)
theorem Bb (p:UInt8) (a0 a1 a2 a3 a4 a5 a6 a7:List UInt8):Lib.join [a0,a1,a2,a3,a4,a5,a6,a7] [p]=lG p [a0,a1,a2,a3,a4,a5,a6,a7]:=by
 simp [Lib.join_cons,Lib.joinTail,lG]
theorem Dv (n:Nat):∀c∈Lib.decDigits n,48<=c.toNat/\c.toNat<=57:=by
 induction n using Nat.strongRecOn with
 | _ n ih=>
  intro c hc;rw [Lib.decDigits] at hc;split at hc
  ·have e:(UInt8.ofNat (48+n)).toNat=48+n:=by simp;omega
   rw [vR] at hc;subst hc;rw [e];omega
  have e:(UInt8.ofNat (48+n % 10)).toNat=48+n % 10:=zq
  rcases vL.1 hc with h | h
  ·exact ih (n / 10) zj c h
  rw [vR] at h;subst h;rw [e];omega
def kE (n:Nat):UInt8:=UInt8.ofNat (if n<10 then 48+n else 87+n)
def tj:List UInt8->List UInt8
 | []=>[]
 | c::r=>kE (c.toNat / 16)::kE (c.toNat % 16)::tj r
def OC (c:UInt8):Option Nat:=if 48<=c.toNat/\c.toNat<=57 then some (c.toNat - 48) else if 97<=c.toNat/\c.toNat<=102 then some (c.toNat - 87) else none
def Jo:List UInt8->Option (List UInt8)
 | []=>some []
 | [_]=>none
 | a::b::r=>
  match OC a with
  | none=>none
  | some x=>match OC b with
   | none=>none
   | some y=>(Jo r).map fun l=>UInt8.ofNat (16*x+y)::l
theorem mG (l:List UInt8):(tj l).length=2*l.length:=by
 induction l with
 | nil=>rfl
 | cons c r ih=>simp [tj,ih];omega
def cV (c:UInt8):Bool:=decide (97<=c.toNat/\c.toNat<=122\/48<=c.toNat/\c.toNat<=57\/c.toNat=45\/c.toNat=46)
def gw (c:UInt8):Bool:=decide (32<=c.toNat/\c.toNat<=126)
def bC (l:List UInt8):Bool:=decide (1<=l.length) &&decide (l.length<=12) &&l.all cV
def dD (l:List UInt8):Bool:=l.all gw
def bK (id node other:Int) (name value:List UInt8):Nat:=if node<2\/id<node\/other<0\/id<=other then 3 else if bC name=false then 4 else if value≠ [] then 3 else 0
def fE (id node other:Int) (name value:List UInt8):Nat:=if node<0\/id<=node\/other<0\/id<=other then 3 else if name≠ [] then 4 else if value.length≠1\/dD value=false then 3 else 0
def gG (id node other:Int) (name value:List UInt8):Nat:=if node<0\/id<=node\/other<0\/id<=other\/other=0 then 3 else if name≠ [] then 4 else if value≠ [] then 3 else 0
def gI (id node other:Int) (name value:List UInt8):Nat:=if node<0\/id<=node\/other≠0 then 3 else if bC name=false then 4 else if 12<value.length\/dD value=false then 3 else 0
def fO (id:Int) (k:Nat) (node other:Int) (name value:List UInt8):Nat:=
 if k=109 then bK id node other name value else if k=105 then fE id node other name value else if k=100 then gG id node other name value else if k=115 then gI id node other name value else 5
def opE (t b n:Int) (k:Nat) (node other:Int) (name value:List UInt8):Nat:=
 if 1<=t/\t<=1073741824/\0<=b/\b<4/\1<=n/\n<=400 then fO (t*4+b) k node other name value else 2
theorem ar {t n:Int} {k:Nat} {node other:Int} {name value:List UInt8} (h:opE t b n k node other name value=0):
  1<=t/\t<=1073741824/\0<=b/\b<4/\1<=n/\n<=400/\(k=109\/k=105\/k=100\/k=115)/\0<=node/\node<=t*4+b/\0<=other/\other<=t*4+b/\(124:UInt8)∉name/\name.length<=12/\value.length<=12:=by
 have nm:bC name=true->(124:UInt8)∉name/\name.length<=12:=fun hn=>by
  unfold bC at hn;simp only [uL,decide_eq_true_eq] at hn;refine ⟨fun hm=> ?_,hn.1.2⟩;have:=List.all_eq_true.1 hn.2 _ hm;revert this;decide
 unfold opE at h;split at h
 ·rename_i hc;obtain ⟨h1,h2,h3,h4,h5,h6⟩:=hc;unfold fO at h;split at h
  ·rename_i hk;unfold bK at h;split at h
   ·cases h
   split at h
   ·cases h
   rename_i hn;split at h
   ·cases h
   rename_i hv;have hv:value= []:=Decidable.not_not.1 hv;have:=nm qy;exact ⟨h1,h2,h3,h4,h5,h6,.inl hk,zj,zj,zj,zj,this.1,this.2,qN⟩
  split at h
  ·rename_i hk;unfold fE at h;split at h
   ·cases h
   split at h
   ·cases h
   rename_i hn;split at h
   ·cases h
   rename_i hv;have hn:name= []:=Decidable.not_not.1 hn;subst hn;exact ⟨h1,h2,h3,h4,h5,h6,.inr (.inl hk),zj,zj,zj,zj,zt,zt,zj⟩
  split at h
  ·rename_i hk;unfold gG at h;split at h
   ·cases h
   split at h
   ·cases h
   rename_i hn;split at h
   ·cases h
   rename_i hv;have hn:name= []:=Decidable.not_not.1 hn;have hv:value= []:=Decidable.not_not.1 hv;subst hn hv;exact ⟨h1,h2,h3,h4,h5,h6,.inr (.inr (.inl hk)),zj,zj,zj,zj,zt,zt,zt⟩
  split at h
  ·rename_i hk;unfold gI at h;split at h
   ·cases h
   split at h
   ·cases h
   rename_i hn;split at h
   ·cases h
   have:=nm qy;exact ⟨h1,h2,h3,h4,h5,h6,.inr (.inr (.inr hk)),zj,zj,zj,zj,this.1,this.2,zj⟩
  cases h
 cases h
def kY (t b n:Int) (k:Nat) (node other:Int) (name value:List UInt8):List UInt8:=
 lG 124 [[UInt8.ofNat k],Lib.itoa t,Lib.itoa b,Lib.itoa n,Lib.itoa node,Lib.itoa other,name,tj value]
abbrev MV:=UInt8×Nat×Nat×Nat×Nat×Nat×List UInt8×List UInt8
def OW (c:UInt8) (p1 p2 p3 p4 p5 nm hx:List UInt8):Option MV:=
 match MF 10 p1 with
 | none=>none
 | some n1=>match MF 10 p2 with
  | none=>none
  | some n2=>match MF 10 p3 with
   | none=>none
   | some n3=>match MF 10 p4 with
    | none=>none
    | some n4=>match MF 10 p5 with
     | none=>none
     | some n5=>match Jo hx with
      | none=>none
      | some v=>some (c,n1,n2,n3,n4,n5,nm,v)
def Mr (l:List UInt8):Option MV:=
 match Nl 124 l with
 | [[c],p1,p2,p3,p4,p5,nm,hx]=>OW c p1 p2 p3 p4 p5 nm hx
 | _=>none
end
section
open Go.RowKit
theorem EW (s:ByteArray) (k:Nat) (h:k<s.size):s.data.toList.drop k=s[k]::s.data.toList.drop (k+1):=by
 have hl:k<s.data.toList.length:=yR;rw [uK hl];simp;rfl
theorem Do (s:ByteArray):s.data.toList.drop s.size= []:=by
 rw [List.drop_eq_nil_iff];simp
end
section
open Go.RowKit
theorem oB (n id:Int) (w:World) (h0:0<=n) (h1:n<id):
  Calls prog 250 #[.int .i64 n,.int .i64 id] w fun e w'=>e= .returned (.bool true)/\w'=w:=by
 go_enter func250,ntmps250;exact kb3
theorem wt (n id:Int) (w:World) (h:n<0\/id<=n):
  Calls prog 250 #[.int .i64 n,.int .i64 id] w fun e w'=>e= .returned (.bool false)/\w'=w:=by
 by_cases h0:n<0
 ·clear h;go_enter func250,ntmps250;exact kb3
 have h1:id<=n:=zj;have h2:0<=n:=zj;have d:decide (n<id)=false:=zq;clear h h0;go_enter func250,ntmps250;exact kb3
theorem NO (c:UInt8) (w:World):
  Calls prog 297 #[.int .u8 (c.toNat:Int)] w fun e w'=>e= .returned (.bool (cV c))/\w'=w:=by
 have hb:cV c=decide (97<=(c.toNat:Int)/\(c.toNat:Int)<=122\/48<=(c.toNat:Int)/\(c.toNat:Int)<=57\/(c.toNat:Int)=45\/(c.toNat:Int)=46):=by
  unfold cV;rw [decide_eq_decide];omega
 rw [hb];clear hb;generalize (c.toNat:Int)=x
 rcases (by omega:122<x\/(97<=x/\x<=122)\/(57<x/\x<97)\/(48<=x/\x<=57)\/x=46\/x=45\/(x<48/\x≠46/\x≠45)) with h | ⟨h,h'⟩ | ⟨h,h'⟩ | ⟨h,h'⟩ | h | h | ⟨h,h',h''⟩
 ·rw [decide_eq_false zj];have d1:decide (x<=122)=false:=zq;have d2:decide (x<=57)=false:=zq;have e1:(x==45)=false:=zq;have e2:(x==46)=false:=zq;go_enter func297,ntmps297;exact kb3
 ·rw [decide_eq_true zj];go_enter func297,ntmps297;exact kb3
 ·rw [decide_eq_false zj];have d1:decide (97<=x)=false:=zq;have d2:decide (x<=57)=false:=zq;have e1:(x==45)=false:=zq;have e2:(x==46)=false:=zq;go_enter func297,ntmps297;exact kb3
 ·rw [decide_eq_true zj];have d1:decide (97<=x)=false:=zq;go_enter func297,ntmps297;exact kb3
 ·subst h;go_enter func297,ntmps297;exact kb3
 ·subst h;go_enter func297,ntmps297;exact kb3
 rw [decide_eq_false zj];have d1:decide (97<=x)=false:=zq;have d2:decide (48<=x)=false:=zq;have e1:(x==45)=false:=zq;have e2:(x==46)=false:=zq;go_enter func297,ntmps297;exact kb3
theorem wq (s:ByteArray) (f:UInt8->Bool) (k:Nat) (h:k<s.size):(s.data.toList.drop k).all f=(f s[k] &&(s.data.toList.drop (k+1)).all f):=by
 rw [EW s k h,List.all_cons]
theorem IR (s:ByteArray) (w:World) (hs:s.size<=1000000):
  Calls prog 251 #[.string s] w fun e w'=>e= .returned (.bool (bC s.data.toList))/\w'=w:=by
 have hl:s.data.toList.length=s.size:=zt;by_cases h1:s.size<1
 ·have d1:decide ((s.size:Int)<1)=true:=by simp;omega
  have hr:bC s.data.toList=false:=by unfold bC;rw [hl,decide_eq_false zj];rfl
  rw [hr];go_enter func251,ntmps251;exact kb3
 by_cases h2:12<s.size
 ·have d1:decide ((s.size:Int)<1)=false:=by simp;omega
  have d2:decide (12<(s.size:Int))=true:=zq
  have hr:bC s.data.toList=false:=by unfold bC;rw [hl,decide_eq_false (show ¬s.size<=12 by omega)];simp
  rw [hr];go_enter func251,ntmps251;exact kb3
 have d1:decide ((s.size:Int)<1)=false:=zq;have d2:decide (12<(s.size:Int))=false:=zq
 have hr:bC s.data.toList=s.data.toList.all cV:=by unfold bC;rw [hl,decide_eq_true (show s.size<=12 by omega),decide_eq_true (show 1<=s.size by omega)];rfl
 rw [hr];generalize hR:s.data.toList.all cV=R;have HR:=Lib.hid hR;clear hR hr hl;go_enter func251,ntmps251;go_wp2;go_loop [14] (fun i=>∃k:Nat,k<=s.size/\i= .int .i64 k/\Hid ((s.data.toList.drop k).all cV=R)) (fun i=>s.size - (intOf i).toNat)
 case atStart=>exact ⟨0,vM _,rfl,Lib.hid qw⟩
 case round=>
  obtain ⟨k,hk,rfl,HD⟩:=hrel;by_cases hlt:k<s.size
  ·have hd:decide ((k:Int)<(s.size:Int))=true:=by simp;omega
   have HA:=Lib.hid ((wq s cV k hlt).symm.trans HD.o);clear HD;go_wp2_with fail;refine (NO _ _).mono ?_;rintro e w' ⟨rfl,rfl⟩
   cases hb:cV s[k] with
   | true=>
    have HE:Hid ((s.data.toList.drop (k+1)).all cV=R):=Lib.hid zY;go_wp2;go_round
    case rel=>exact ⟨k+1,zj,zw,HE⟩
    case measure=>simp [intOf];omega
   | false=>
    have HE:Hid (R=false):=Lib.hid vw;exact kl7
  exact kd3
theorem JQ (s:ByteArray) (w:World) (hs:s.size<=1000000):
  Calls prog 252 #[.string s] w fun e w'=>e= .returned (.bool (dD s.data.toList))/\w'=w:=by
 unfold dD;generalize hR:s.data.toList.all gw=R;have HR:=Lib.hid hR;clear hR;go_enter func252,ntmps252;go_wp2;go_loop [6] (fun i=>∃k:Nat,k<=s.size/\i= .int .i64 k/\Hid ((s.data.toList.drop k).all gw=R)) (fun i=>s.size - (intOf i).toNat)
 case atStart=>exact ⟨0,vM _,rfl,Lib.hid qw⟩
 case round=>
  obtain ⟨k,hk,rfl,HD⟩:=hrel;by_cases hlt:k<s.size
  ·have hd:decide ((k:Int)<(s.size:Int))=true:=by simp;omega
   have HA:=Lib.hid ((wq s gw k hlt).symm.trans HD.o);clear HD;by_cases g1:s[k].toNat<32
   ·have l1:decide ((s[k].toNat:Int)<32)=true:=by simp;omega
    exact kb4
   have l1:decide ((s[k].toNat:Int)<32)=false:=zq;by_cases g2:126<s[k].toNat
   ·have l2:decide (126<(s[k].toNat:Int))=true:=by simp;omega
    exact kb4
   have l2:decide (126<(s[k].toNat:Int))=false:=zq
   have HE:Hid ((s.data.toList.drop (k+1)).all gw=R):=Lib.hid (by
    have:=HA.o
    rw [show gw s[k]=true by unfold gw;rw [decide_eq_true zj],Bool.true_and] at this
    exact this)
   go_wp2;go_round
   case rel=>exact ⟨k+1,zj,zw,HE⟩
   case measure=>simp [intOf];omega
  exact kd3
end
section
open Go.RowKit
end
section
abbrev Ltr:=Int×Nat×Bool
def laid (x:Ltr):List Ltr->List Ltr
 | []=>[x]
 | h::t=>if x.1<h.1 then h::laid x t else x::h::t
def pS (b:Int) (x:Ltr):List Ltr->List Ltr
 | []=>[]
 | h::t=>if h.1=b then h::laid x t else h::pS b x t
def put (b:Int) (x:Ltr) (L:List Ltr):List Ltr:=if b=0 then laid x L else pS b x L
theorem ab {x h:Ltr} (k:x.1<h.1) (t:List Ltr):laid x (h::t)=h::laid x t:=by simp [laid,k]
theorem bG {x h:Ltr} (k:¬x.1<h.1) (t:List Ltr):laid x (h::t)=x::h::t:=by simp [laid,k]
theorem bu {x h:Ltr} (k:h.1=b) (t:List Ltr):pS b x (h::t)=h::laid x t:=by simp [pS,k]
theorem bl {x h:Ltr} (k:h.1≠b) (t:List Ltr):pS b x (h::t)=h::pS b x t:=by simp [pS,k]
theorem ga (x y:Ltr) (h:x.1≠y.1):∀L,laid y (laid x L)=laid x (laid y L)
 | []=>by
  by_cases k:x.1<y.1
  ·rw [show laid x []= [x] from rfl,show laid y []= [y] from rfl,ab k,bG zj];rfl
  rw [show laid x []= [x] from rfl,show laid y []= [y] from rfl,bG k,ab zj];rfl
 | g::t=>by
  by_cases kx:x.1<g.1
  ·by_cases ky:y.1<g.1
   ·rw [ab kx,ab ky,ab ky,ab kx,ga x y h t]
   rw [ab kx,bG ky,bG ky,ab zj,ab kx]
  by_cases ky:y.1<g.1
  ·rw [bG kx,ab ky,ab zj,ab ky,bG kx]
  rw [bG kx,bG ky];by_cases k:x.1<y.1
  ·rw [bG zj,ab k,bG kx]
  rw [ab zj,bG k,bG ky]
theorem fy (x y:Ltr) (b:Int) (h:x.1≠y.1) (hb:b≠x.1):∀L,pS b y (laid x L)=laid x (pS b y L)
 | []=>by
  rw [show laid x []= [x] from rfl,bl (fun e=>hb e.symm)];rfl
 | g::t=>by
  by_cases kx:x.1<g.1
  ·rw [ab kx];by_cases kb:g.1=b
   ·rw [bu kb,bu kb,ab kx,ga x y h t]
   rw [bl kb,bl kb,ab kx,fy x y b h hb t]
  rw [bG kx,bl (fun e=>hb e.symm)];by_cases kb:g.1=b
  ·rw [bu kb,bG kx]
  rw [bl kb,bG kx]
theorem pl (x y:Ltr) (a b:Int) (h:x.1≠y.1) (ha:a≠y.1) (hb:b≠x.1):∀L,pS b y (pS a x L)=pS a x (pS b y L)
 | []=>rfl
 | g::t=>by
  by_cases ka:g.1=a
  ·rw [bu ka];by_cases kb:g.1=b
   ·rw [bu kb,bu kb,bu ka,ga x y h t]
   rw [bl kb,bl kb,bu ka,fy x y b h hb t]
  rw [bl ka];by_cases kb:g.1=b
  ·rw [bu kb,bu kb,bl ka,fy y x a (fun e=>h e.symm) ha t]
  rw [bl kb,bl kb,bl ka,pl x y a b h ha hb t]
theorem Gv (x y:Ltr) (a b:Int) (h:x.1≠y.1) (ha:a≠y.1) (hb:b≠x.1) (L:List Ltr):put b y (put a x L)=put a x (put b y L):=by
 unfold put;by_cases h0:a=0
 ·rw [if_pos h0,if_pos h0];by_cases h1:b=0
  ·rw [if_pos h1,if_pos h1,ga x y h]
  rw [if_neg h1,if_neg h1,fy x y b h hb]
 rw [if_neg h0,if_neg h0];by_cases h1:b=0
 ·rw [if_pos h1,if_pos h1,fy y x a (fun e=>h e.symm) ha]
 rw [if_neg h1,if_neg h1,pl x y a b h ha hb]
def cF (s:List (Int×Ltr)) (L:List Ltr):List Ltr:=s.foldl (fun L m=>put m.1 m.2 L) L
theorem dF (s r:List (Int×Ltr)) (L:List Ltr):cF (s++r) L=cF r (cF s L):=by simp [cF]
theorem gL (m:Int×Ltr) (L:List Ltr):cF [m] L=put m.1 m.2 L:=rfl
theorem mH (m:Int×Ltr):∀(r:List (Int×Ltr)) (L:List Ltr),(∀y∈r,m.2.1≠y.2.1/\m.1≠y.2.1/\y.1≠m.2.1)->cF r (put m.1 m.2 L)=put m.1 m.2 (cF r L)
 | [],_,_=>rfl
 | y::r,L,h=>by
  obtain ⟨h1,h2,h3⟩:=h y zt
  show cF r (put y.1 y.2 (put m.1 m.2 L))=put m.1 m.2 (cF r (put y.1 y.2 L))
  rw [Gv m.2 y.2 m.1 y.1 h1 h2 h3];exact mH m r _ (fun z hz=>h z (by simp [hz]))
def pT (s:List (Int×Ltr)):Prop:=(s.map (·.2.1)).Nodup/\(∀m∈s,m.2.1≠0)/\∀u m v,s=u++m::v->m.1=0\/∃y∈u,y.2.1=m.1
theorem nu {s:List (Int×Ltr)} {m:Int×Ltr} (h:pT (s++ [m])):pT s:=by
 obtain ⟨h1,h2,h3⟩:=h;rw [un] at h1;refine ⟨(uH.1 h1).1,fun x hx=>h2 x (by simp [hx]),fun u x v e=>h3 u x (v++ [m]) (by rw [e];simp)⟩
theorem Ch {s:List (Int×Ltr)} {m:Int×Ltr} (h:pT (s++ [m])):∀y∈s,y.2.1≠m.2.1/\y.1≠m.2.1:=by
 obtain ⟨h1,h2,h3⟩:=h;rw [un] at h1
 have hd:∀y∈s,y.2.1≠m.2.1:=fun y hy e=>(uH.1 h1).2.2 _ (uh.2 ⟨y,hy,rfl⟩) _ zt e
 intro y hy;refine ⟨hd y hy,fun e=> ?_⟩;obtain ⟨u,v,rfl⟩:=List.append_of_mem hy
 rcases h3 u y (v++ [m]) zt with h0 | ⟨z,hz,he⟩
 ·exact h2 m zt (by rw [<-e,h0])
 exact hd z (by simp [hz]) (by rw [he,e])
theorem Cs {u v:List (Int×Ltr)} {m:Int×Ltr} (h:pT (u++m::v)) (hm:∀y∈v,y.1≠m.2.1):pT (u++v):=by
 obtain ⟨h1,h2,h3⟩:=h;have hsub:(u++v).Sublist (u++m::v):=List.Sublist.append_left (List.sublist_cons_self _ _) u;refine ⟨h1.sublist (hsub.map _),fun x hx=>h2 x (hsub.subset hx),fun a x b e=> ?_⟩
 rcases List.append_eq_append_iff.1 e with ⟨c,rfl,hc⟩ | ⟨c,rfl,hc⟩
 ·rcases h3 (u++m::c) x b (by rw [hc];simp) with h0 | ⟨z,hz,he⟩
  ·exact .inl h0
  right
  rcases vL.1 hz with hz | hz
  ·exact ⟨z,by simp [hz],he⟩
  rcases vJ.1 hz with rfl | hz
  ·exact absurd he.symm (hm x (by rw [hc];simp))
  exact ⟨z,by simp [hz],he⟩
 cases c with
 | nil=>
  simp only [uQ,uR] at hc h3 |-
  rcases h3 (a++ [m]) x b (by rw [<-hc];simp) with h0 | ⟨z,hz,he⟩
  ·exact .inl h0
  right
  rcases vL.1 hz with hz | hz
  ·exact ⟨z,hz,he⟩
  rw [vR] at hz;subst hz;exact absurd he.symm (hm x (by rw [<-hc];simp))
 | cons y c=>
  injection hc with e1 e2;subst e1;exact h3 a x (c++m::v) zt
theorem gM {α:Type} :∀(l:List α),l= []\/∃s m,l=s++ [m]
 | []=>.inl rfl
 | x::t=>by
  rcases gM t with rfl | ⟨s,m,rfl⟩
  ·exact .inr ⟨[],x,rfl⟩
  exact .inr ⟨x::s,m,rfl⟩
theorem iT:∀(n:Nat) (s r:List (Int×Ltr)),s.length=n->s.Perm r->pT s->pT r->cF s []=cF r []
 | 0,s,r,hn,hp,_,_=>by
  obtain rfl:=vZ.1 hn;rw [hp.symm.eq_nil]
 | n+1,s,r,hn,hp,hs,hr=>by
  rcases gM s with rfl | ⟨s',m,rfl⟩
  ·simp at hn
  obtain ⟨u,v,rfl⟩:=List.append_of_mem (hp.mem_iff.1 (show m∈s'++ [m] by simp));have hl:=Ch hs
  have hp':s'.Perm (u++v):=by
   have h1:(m::s').Perm (m::(u++v)):=((List.perm_append_singleton m s').symm.trans hp).trans List.perm_middle;exact h1.cons_inv
  have hv:∀y∈v,y.2.1≠m.2.1/\y.1≠m.2.1:=fun y hy=>hl y (hp'.mem_iff.2 xE)
  have hmv:∀y∈v,m.1≠y.2.1:=by
   intro y hy e;obtain ⟨h1,h2,h3⟩:=hr
   rcases h3 u m v rfl with h0 | ⟨z,hz,he⟩
   ·exact h2 y xE (by rw [<-e,h0])
   rw [un,ut] at h1;exact (uH.1 h1).2.2 _ (uh.2 ⟨z,hz,rfl⟩) _ (ug _ (uh.2 ⟨y,hy,rfl⟩)) (by rw [he,e])
  have hr':=Cs hr (fun y hy=>(hv y hy).2);have ih:=iT n s' (u++v) qy hp' (nu hs) hr';rw [dF,gL,ih,show u++m::v=u++([m]++v) by simp,dF,dF,dF,gL];exact (mH m v _ (fun y hy=>⟨fun e=>(hv y hy).1 e.symm,hmv y hy,(hv y hy).2⟩)).symm
end
section
def cl (x:Int):List Ltr->Nat
 | []=>0
 | h::t=>if x<h.1 then cl x t+1 else 0
def bj (b:Int):List Ltr->Option Nat
 | []=>none
 | h::t=>if h.1=b then some 0 else (bj b t).map (· +1)
theorem lP (x:Int):∀L,cl x L<=L.length
 | []=>vB _
 | h::t=>by
  unfold cl;split
  ·have:=lP x t;simp;omega
  omega
theorem ke {x:Int} :∀ {L:List Ltr} {n:Nat},n<=L.length->(∀i l,i<n->L[i]? =some l->x<l.1)->(∀l,L[n]? =some l->¬x<l.1)->cl x L=n
 | [],n,hn,_,_=>by simp at hn;simp [cl,hn]
 | g::t,0,_,_,h2=>by
  unfold cl;rw [if_neg (h2 g rfl)]
 | g::t,n+1,hn,h1,h2=>by
  unfold cl;rw [if_pos (h1 0 g zj rfl),ke (n:=n) qy (fun i l hi e=>h1 (i+1) l zj yu) (fun l e=>h2 l yu)]
theorem sC (x:Ltr):∀L,laid x L=L.take (cl x.1 L)++x::L.drop (cl x.1 L)
 | []=>rfl
 | h::t=>by
  unfold cl;by_cases k:x.1<h.1
  ·rw [ab k,if_pos k,sC x t];rfl
  rw [bG k,if_neg k];rfl
theorem cM {b:Int} :∀ {L:List Ltr} {i:Nat},bj b L=some i->∃l,L[i]? =some l/\l.1=b
 | [],i,h=>by simp [bj] at h
 | g::t,i,h=>by
  unfold bj at h;split at h
  ·cases h;exact ⟨g,rfl,yS⟩
  cases hf:bj b t with
  | none=>rw [hf] at h;cases h
  | some j=>
   rw [hf] at h
   cases h
   obtain ⟨l,h1,h2⟩:=cM hf;exact ⟨l,xp,h2⟩
theorem gW {b:Int} :∀ {L:List Ltr},bj b L=none->∀l∈L,l.1≠b
 | [],_,l,hl=>xW
 | g::t,h,l,hl=>by
  unfold bj at h;split at h
  ·cases h
  have hf:bj b t=none:=yR
  rcases vJ.1 hl with rfl | hl
  ·assumption
  exact gW hf l hl
theorem eT {L:List Ltr} (h:b∈L.map (·.1)):∃i,bj b L=some i:=by
 cases hf:bj b L with
 | some i=>exact ⟨i,rfl⟩
 | none=>
  obtain ⟨l,hl,e⟩:=uh.1 h;exact absurd e (gW hf l hl)
theorem Ap {b:Int} :∀ {L:List Ltr} {i:Nat} {l:Ltr},L[i]? =some l->l.1=b->(∀j g,j<i->L[j]? =some g->g.1≠b)->bj b L=some i
 | [],i,l,e,_,_=>qE
 | g::t,0,l,e,h,_=>by
  cases e
  unfold bj;rw [if_pos h]
 | g::t,i+1,l,e,h,hn=>by
  unfold bj;rw [if_neg (hn 0 g zj rfl),Ap (L:=t) (i:=i) yu h (fun j g' hj e'=>hn (j+1) g' zj (by simpa using e'))];rfl
theorem DP (b:Int) (x:Ltr):∀(L:List Ltr) (i:Nat),bj b L=some i->pS b x L=L.take (i+1+cl x.1 (L.drop (i+1)))++x::L.drop (i+1+cl x.1 (L.drop (i+1)))
 | [],i,h=>by simp [bj] at h
 | g::t,i,h=>by
  unfold bj at h;by_cases k:g.1=b
  ·rw [if_pos k] at h
   cases h
   have e:0+1+cl x.1 ((g::t).drop (0+1))=cl x.1 t+1:=by show 0+1+cl x.1 t=_;omega
   rw [bu k,sC x t,e];rfl
  rw [if_neg k] at h
  cases hf:bj b t with
  | none=>rw [hf] at h;cases h
  | some j=>
   rw [hf] at h
   cases h
   have e:j+1+1+cl x.1 ((g::t).drop (j+1+1))=j+1+cl x.1 (t.drop (j+1))+1:=by show j+1+1+cl x.1 (t.drop (j+1))=_;omega
   rw [bl k,DP b x t j hf,e];rfl
def ew (b id:Int) (L:List Ltr):Nat:=if b=0 then cl id L else match bj b L with
 | none=>0
 | some i=>i+1+cl id (L.drop (i+1))
theorem Au {x:Ltr} {L:List Ltr} (h:b=0\/b∈L.map (·.1)):ew b x.1 L<=L.length/\put b x L=L.take (ew b x.1 L)++x::L.drop (ew b x.1 L):=by
 unfold put ew;by_cases h0:b=0
 ·rw [if_pos h0,if_pos h0];exact ⟨lP _ _,sC x L⟩
 rw [if_neg h0,if_neg h0];obtain ⟨i,hi⟩:=eT (h.resolve_left h0);rw [hi];obtain ⟨l,hl,_⟩:=cM hi;have h1:=(vA.1 hl).1;have h2:=lP x.1 (L.drop (i+1));rw [ur] at h2;exact ⟨zQ,DP b x L i hi⟩
theorem ko {x:Ltr} {L:List Ltr} (h:b=0\/b∈L.map (·.1)):(put b x L).Perm (x::L):=by
 rw [(Au h).2];refine List.perm_middle.trans ?_;rw [ui]
theorem Kv {x:Ltr} {L:List Ltr} (h:b=0\/b∈L.map (·.1)):(put b x L).length=L.length+1:=by rw [(ko h).length_eq];rfl
theorem Df {x:Ltr} {L:List Ltr} (h:b=0\/b∈L.map (·.1)):((put b x L).map (·.1)).Perm (x.1::L.map (·.1)):=(ko h).map _
def gone (id:Int) (L:List Ltr):List Ltr:=L.map fun l=>if l.1=id then (l.1,l.2.1,true) else l
def bs (L:List Ltr):List Ltr:=L.filter fun l=> !l.2.2
end
section
def Ln (p:Ltr->Bool) (zs:List Ltr) (r:Int):Prop:=
 (r= -1/\∀l∈zs,p l=false)\/∃(i:Nat) (l:Ltr),r=(i:Int)/\zs[i]? =some l/\p l=true/\∀j g,j<i->zs[j]? =some g->p g=false
def iC (b:Int) (L:List Ltr):Int:=match bj b L with
 | none=> -1
 | some i=>(i:Int)
theorem oT {L:List Ltr} (h:Ln (fun l=>decide (l.1=b)) L r):r=iC b L:=by
 unfold iC
 rcases h with ⟨rfl,h⟩ | ⟨i,l,rfl,hl,hp,hn⟩
 ·cases hf:bj b L with
  | none=>rfl
  | some i=>
   obtain ⟨l,h1,h2⟩:=cM hf;have:=h l (vH h1);simp [h2] at this
 rw [Ap hl (by simpa using hp) (fun j g hj hg=>by simpa using hn j g hj hg)]
theorem eG {L:List Ltr} (h:b∉L.map (·.1)):iC b L= -1:=by
 unfold iC
 cases hf:bj b L with
 | none=>rfl
 | some i=>
  obtain ⟨l,h1,h2⟩:=cM hf;exact absurd (uh.2 ⟨l,vH h1,h2⟩) h
theorem mu {L:List Ltr} (h:b∈L.map (·.1)):∃i:Nat,iC b L=(i:Int)/\bj b L=some i/\i<L.length:=by
 obtain ⟨i,hi⟩:=eT h;obtain ⟨l,h1,_⟩:=cM hi;exact ⟨i,by unfold iC;rw [hi],hi,(vA.1 h1).1⟩
theorem LL {id:Int} {L:List Ltr} (hn:id∉L.map (·.1)) (h:Ln (fun l=>decide (l.1<id)) L r):(r= -1/\cl id L=L.length)\/r=(cl id L:Int):=by
 have hne:∀l∈L,l.1≠id:=fun l hl e=>hn (uh.2 ⟨l,hl,e⟩)
 rcases h with ⟨rfl,h⟩ | ⟨i,l,rfl,hl,hp,hq⟩
 ·refine .inl ⟨rfl,ke zg (fun i l _ e=> ?_) (fun l e=>qE)⟩;have h1:=h l (vH e);have h2:=hne l (vH e);simp at h1;omega
 right;rw [ke (n:=i) (ZG (vA.1 hl).1) (fun j g hj e=> ?_) (fun g e=> ?_)]
 ·have h1:=hq j g hj e;have h2:=hne g (vH e);simp at h1;omega
 rw [hl] at e
 cases e
 simp at hp;omega
def bare (l:Ltr):Ltr:=if l.2.2 then (l.1,0,true) else l
theorem tW (l:Ltr):(bare l).1=l.1:=by unfold bare;split<;>rfl
theorem pN (L:List Ltr):(L.map bare).map (·.1)=L.map (·.1):=by rw [ZC];exact Zi fun l _=>tW l
theorem lD (x:Ltr) (hx:bare x=x):∀L,laid x (L.map bare)=(laid x L).map bare
 | []=>by simp [laid,hx]
 | h::t=>by
  by_cases k:x.1<h.1
  ·rw [ab k,ut,ab qY,lD x hx t];rfl
  rw [bG k,ut,bG qY];simp [hx]
theorem pJ (b:Int) (x:Ltr) (hx:bare x=x):∀L,pS b x (L.map bare)=(pS b x L).map bare
 | []=>rfl
 | h::t=>by
  by_cases k:h.1=b
  ·rw [bu k,ut,bu qY,lD x hx t];rfl
  rw [bl k,ut,bl qY,pJ b x hx t];rfl
theorem Im (b:Int) (x:Ltr) (hx:bare x=x) (L:List Ltr):put b x (L.map bare)=(put b x L).map bare:=by
 unfold put;split
 ·exact lD x hx L
 exact pJ b x hx L
theorem FM (L:List Ltr):bs (L.map bare)=bs L:=by
 unfold bs
 induction L with
 | nil=>rfl
 | cons h t ih=>
  rw [ut];by_cases k:h.2.2=true
  ·have e:bare h=(h.1,0,true):=by unfold bare;rw [if_pos k]
   rw [e,List.filter_cons_of_neg zt,List.filter_cons_of_neg (by simp [k]),ih]
  have e:bare h=h:=by unfold bare;rw [if_neg k]
  rw [e,List.filter_cons,List.filter_cons,ih]
theorem GD {L:List Ltr} (id:Int) (c:Nat):(L.set i (id,c,true)).map bare=(L.map bare).set i (id,0,true):=by
 rw [List.map_set];rfl
theorem Kr {L:List Ltr} {l:Ltr} (h:L[i]? =some l) (c:Nat) (g:Bool):(L.set i (l.1,c,g)).map (·.1)=L.map (·.1):=by
 rw [List.map_set];apply List.ext_getElem?;intro j;by_cases e:j=i
 ·subst e;have hl:=(vA.1 h).1;rw [Zk qi];simp [h]
 rw [Zx zj]
theorem sN (b:Int):∀L:List Ltr,bj b (L.map bare)=bj b L
 | []=>rfl
 | h::t=>by
  rw [ut];unfold bj;rw [tW,sN b t]
theorem DF {x:Ltr} {L:List Ltr} (h:b=0\/b∈L.map (·.1)) (hn:(L.map (·.1)).Nodup) (hx:x.1∉L.map (·.1)):((put b x L).map (·.1)).Nodup:=by
 rw [(Df h).nodup_iff];exact List.nodup_cons.2 ⟨hx,hn⟩
end
section
abbrev Plc:=Int×Int×ByteArray
abbrev Sta:=Int->Option Plc
abbrev Mov:=(Int×Int)×Plc
def cU:Plc:=(0,0,⟨#[]⟩)
def mh:Sta:=fun _=>none
def lv (f:Sta):Nat->Int->Int->Bool
 | 0,_,_=>false
 | n+1,node,of=>match f node with
  | none=>false
  | some p=>decide (p.2.1=of) ||lv f n p.2.1 of
def Ins (f:Sta) (node of:Int):Prop:=∃n,lv f n node of=true
theorem fu {f:Sta} {node:Int} (h:f node=none) (n:Nat) (of:Int):lv f n node of=false:=by
 cases n<;>simp [lv,h]
theorem eE {f:Sta} {node:Int} {p:Plc} (h:f node=some p) (n:Nat) (of:Int):lv f (n+1) node of=(decide (p.2.1=of) ||lv f n p.2.1 of):=by
 simp [lv,h]
theorem pw (f:Sta):∀(n:Nat) (node of:Int),lv f n node of=true->lv f (n+1) node of=true
 | 0,_,_,h=>by simp [lv] at h
 | n+1,node,of,h=>by
  cases hf:f node with
  | none=>rw [fu hf] at h;cases h
  | some p=>
   rw [eE hf] at h |-
   rw [Zo] at h |-
   exact h.imp id (pw f n _ _)
theorem AZ {f:Sta} {node of:Int} (h:f node=none):¬Ins f node of:=by
 rintro ⟨n,hn⟩;rw [fu h] at hn
 cases hn
theorem oR {f:Sta} {node of:Int} {p:Plc} (h:f node=some p):Ins f node of↔p.2.1=of\/Ins f p.2.1 of:=by
 constructor
 ·rintro ⟨n,hn⟩
  cases n with
  | zero=>simp [lv] at hn
  | succ n=>
   rw [eE h,Zo] at hn;exact hn.imp zt (fun e=>⟨n,e⟩)
 rintro (e | ⟨n,hn⟩)
 ·exact ⟨1,by rw [eE h];simp [e]⟩
 exact ⟨n+1,by rw [eE h,hn];simp⟩
def Jn (f:Sta) (d:Int->Nat):Prop:=∀k p,f k=some p->d p.2.1<d k
theorem NL {f:Sta} {y:Int} {p:Plc} (h:f x=some p) (hy:p.2.1=y\/Ins f p.2.1 y):Ins f x y:=(oR h).2 hy
def upd (f:Sta) (k:Int) (v:Option Plc):Sta:=fun x=>if x=k then v else f x
theorem de (f:Sta) (k:Int) (v:Option Plc):upd f k v k=v:=by simp [upd]
theorem cw {f:Sta} {v:Option Plc} (h:x≠k):upd f k v x=f x:=by simp [upd,h]
structure FineP (p:Plc):Prop where
 ne:p.1≠0
 lo:0<=p.1
 hi:p.1<2^62
 lo':0<=p.2.1
 hi':p.2.1<2^62
 sz:p.2.2.size<=60
theorem FineP.ne_zero {p:Plc} (h:FineP p):p≠cU:=fun e=>h.ne vd
structure gj (f:Sta):Prop where
 rank:∃d,Jn f d
 key:∀k p,f k=some p->p.1=k
 fine:∀k p,f k=some p->FineP p
theorem Li:gj mh:=⟨⟨fun _=>0,fun k p h=>jc⟩,fun k p h=>jc,fun k p h=>jc⟩
def wo (f:Sta) (p:Plc):Prop:=p.1=p.2.1\/Ins f p.2.1 p.1
def step [∀(f:Sta) (p:Plc),Decidable (wo f p)] (f:Sta) (m:Mov):Sta:=if wo f m.2 then f else upd f m.2.1 (some m.2)
open scoped Classical
theorem dA {f:Sta} {m:Mov} (h:wo f m.2):step f m=f:=by unfold step;rw [if_pos h]
theorem dy {f:Sta} {m:Mov} (h:¬wo f m.2):step f m=upd f m.2.1 (some m.2):=by unfold step;rw [if_neg h]
theorem Ah {f:Sta} {m:Mov} (h:x≠m.2.1):step f m x=f x:=by
 by_cases hi:wo f m.2
 ·rw [dA hi]
 rw [dy hi,cw h]
theorem DW {f:Sta} {m:Mov} (G:gj f) (hm:FineP m.2):gj (step f m):=by
 by_cases hi:wo f m.2
 ·rw [dA hi];exact G
 rw [dy hi];obtain ⟨s,c,q,nm⟩:=m
 dsimp only at hi hm |-
 have hcq:c≠q:=fun e=>hi (.inl e)
 have hqc:¬Ins f q c:=fun e=>hi (.inr e)
 refine ⟨?_,fun k p h=> ?_,fun k p h=> ?_⟩
 ·obtain ⟨d,hd⟩:=G.rank
  classical
  refine ⟨fun x=>if x=c\/Ins f x c then d x+d q+1 else d x,fun k p h=> ?_⟩;by_cases hk:k=c
  ·subst hk;rw [de] at h
   cases h
   dsimp only;rw [if_neg (fun e=>e.elim (fun e=>hcq e.symm) hqc),if_pos (.inl rfl)];omega
  rw [cw hk] at h;have h1:=hd k p h;dsimp only;by_cases hp:p.2.1=c\/Ins f p.2.1 c
  ·rw [if_pos hp,if_pos (.inr (NL h hp))];omega
  rw [if_neg hp];split<;>omega
 ·by_cases hk:k=c
  ·subst hk;rw [de] at h;cases h;rfl
  rw [cw hk] at h;exact G.key k p h
 by_cases hk:k=c
 ·subst hk;rw [de] at h;cases h;exact hm
 rw [cw hk] at h;exact G.fine k p h
def JJ (f:Sta) (node:Int) (fr:Plc):Sta:=upd f node (if fr=cU then none else some fr)
theorem GV {f:Sta} {m:Mov} (G:gj f):JJ (step f m) m.2.1 ((f m.2.1).getD cU)=f:=by
 funext x;unfold JJ;by_cases hx:x=m.2.1
 ·subst hx;rw [de]
  cases h:f m.2.1 with
  | none=>simp
  | some p=>
   rw [ZO,if_neg (G.fine _ p h).ne_zero]
 rw [cw hx,Ah hx]
def tR [∀(f:Sta) (p:Plc),Decidable (wo f p)] (f:Sta) (ms:List Mov):Sta:=ms.foldl step f
theorem Cl (f:Sta) (ms:List Mov) (m:Mov):tR f (ms++ [m])=step (tR f ms) m:=by simp [tR]
theorem rR:∀(ms:List Mov) (f:Sta),gj f->(∀m∈ms,FineP m.2)->gj (tR f ms)
 | [],_,G,_=>G
 | m::r,f,G,h=>rR r (step f m) (DW G (h m zt)) (fun x hx=>h x (by simp [hx]))
def aO [∀(f:Sta) (p:Plc),Decidable (wo f p)] (ms:List Mov):Sta:=tR mh ms
theorem fl {ms:List Mov} (h:∀m∈ms,FineP m.2):gj (aO ms):=rR ms _ Li h
theorem pt (ms:List Mov) (m:Mov):aO (ms++ [m])=step (aO ms) m:=Cl _ _ _
theorem rE {ms:List Mov} {m:Mov} (h:ms[i]? =some m):aO (ms.take (i+1))=step (aO (ms.take i)) m:=by
 rw [uA,h];exact pt _ _
def kL [∀(f:Sta) (p:Plc),Decidable (wo f p)] (ms:List Mov) (i:Nat):Plc:=match ms[i]? with
 | none=>cU
 | some m=>(aO (ms.take i) m.2.1).getD cU
def SLt (a b:Int×Int):Prop:=a.1<b.1\/(a.1=b.1/\a.2<b.2)
theorem nz :¬SLt a a:=by unfold SLt;omega
theorem iR {b c:Int×Int} (h:SLt a b) (k:SLt b c):SLt a c:=by unfold SLt at*;omega
theorem En {b:Int×Int} (h:a≠b) (k:¬SLt a b):SLt b a:=by
 obtain ⟨a1,a2⟩:=a;obtain ⟨b1,b2⟩:=b
 have:¬(a1=b1/\a2=b2):=fun e=>h (by rw [e.1,e.2])
 unfold SLt at*;dsimp only at*;omega
def bQ (ms:List Mov):Prop:=ms.Pairwise (fun a b=>SLt a.1 b.1)
def gH (ms:List Mov) (i:Nat) (m:Mov):List Mov:=ms.take i++m::ms.drop i
theorem im (ms:List Mov) (i:Nat) (m:Mov):(gH ms i m).Perm (m::ms):=by
 unfold gH;have h1:(ms.take i++m::ms.drop i).Perm (m::(ms.take i++ms.drop i)):=List.perm_middle;rwa [ui] at h1
theorem rP (ms:List Mov) (i:Nat) (m:Mov):(gH ms i m).length=ms.length+1:=by
 rw [(im ms i m).length_eq];rfl
theorem Hc {ms:List Mov} {m:Mov} (h:bQ ms) (h1:∀x∈ms.take i,SLt x.1 m.1) (h2:∀x∈ms.drop i,SLt m.1 x.1):bQ (gH ms i m):=by
 unfold bQ gH;rw [uX];refine ⟨h.sublist (List.take_sublist _ _),um.2 ⟨h2,h.sublist (List.drop_sublist _ _)⟩,fun a ha b hb=> ?_⟩
 rcases vJ.1 hb with rfl | hb
 ·exact h1 a ha
 exact iR (h1 a ha) (h2 b hb)
theorem BJ {ms:List Mov} {m:Mov} (hi:i<=ms.length):(gH ms i m).take i=ms.take i:=by
 unfold gH;rw [ux zq,List.take_take,Nat.min_self]
theorem gF:∀ {l l':List Mov},l.Perm l'->bQ l->bQ l'->l=l'
 | [],l',hp,_,_=>by have:=hp.length_eq;cases l' with | nil=>rfl | cons _ _=>simp at this
 | a::r,[],hp,_,_=>by have:=hp.length_eq;simp at this
 | a::r,b::r',hp,h,h'=>by
  obtain ⟨h1,h2⟩:=um.1 h;obtain ⟨h1',h2'⟩:=um.1 h'
  have e:a=b:=by
   rcases vJ.1 (hp.mem_iff.1 (uu (a:=a) (l:=r))) with e | ha
   ·exact e
   rcases vJ.1 (hp.mem_iff.2 (uu (a:=b) (l:=r'))) with e | hb
   ·exact e.symm
   exact absurd (iR (h1 b hb) (h1' a ha)) nz
  subst e;rw [gF (List.perm_cons a |>.1 hp) h2 h2']
structure IsPlaces (f:Sta) (L:List Plc):Prop where
 rise:L.Pairwise (fun a b=>a.1<b.1)
 mem:∀p,p∈L↔f p.1=some p
theorem iV:∀ {L L':List Plc},L.Pairwise (fun a b=>a.1<b.1)->L'.Pairwise (fun a b=>a.1<b.1)->(∀p,p∈L↔p∈L')->L=L'
 | [],[],_,_,_=>rfl
 | [],b::r',_,_,h=>by have:=(h b).2 zt;simp at this
 | a::r,[],_,_,h=>by have:=(h a).1 zt;simp at this
 | a::r,b::r',hl,hl',h=>by
  obtain ⟨h1,h2⟩:=um.1 hl;obtain ⟨h1',h2'⟩:=um.1 hl'
  have e:a=b:=by
   rcases vJ.1 ((h a).1 zt) with e | ha
   ·exact e
   rcases vJ.1 ((h b).2 zt) with e | hb
   ·exact e.symm
   have x:=h1 b hb;have y:=h1' a ha;omega
  subst e;rw [iV h2 h2' (fun p=> ?_)];constructor
  ·intro hp
   rcases vJ.1 ((h p).1 (by simp [hp])) with e | hp'
   ·subst e;have:=h1 p hp;omega
   exact hp'
  intro hp
  rcases vJ.1 ((h p).2 (by simp [hp])) with e | hp'
  ·subst e;have:=h1' p hp;omega
  exact hp'
theorem IsPlaces.unique {f:Sta} {L L':List Plc} (h:IsPlaces f L) (h':IsPlaces f L'):L=L':=
 iV h.rise h'.rise (fun p=>(h.mem p).trans (h'.mem p).symm)
end
section
open Go Go.Maps
def aP (p:Plc):List Value:=[.int .i64 p.1,.int .i64 p.2.1,.string p.2.2]
def kC (p:Plc):Value:=.agg #[.int .i64 p.1,.int .i64 p.2.1,.string p.2.2]
theorem Gg {p q:Plc} (h:kC p=kC q):p=q:=by
 obtain ⟨a,b,s⟩:=p;obtain ⟨a',b',s'⟩:=q;simp [kC] at h;exact kp5
def dat (p:Plc):DataW Unit:=.agg [.lit (.int .i64 p.1),.lit (.int .i64 p.2.1),.lit (.string p.2.2.data.toList)]
theorem wB {p q:Plc} (h:dat p=dat q):p=q:=by
 obtain ⟨a,b,⟨⟨s⟩⟩⟩:=p;obtain ⟨a',b',⟨⟨s'⟩⟩⟩:=q;simp [dat] at h;exact kp5
def OL (l:List Value):Option (DataW Unit×List MemPlace):=match l with
 | [.int .i64 a,.int .i64 b,.string s]=>some (dat (a,b,s),[])
 | _=>none
def Ji (v:Value):Option (DataW Unit×List MemPlace):=match v with
 | .agg cs=>OL cs.toList
 | _=>none
theorem wQ (p:Plc):Ji (kC p)=some (dat p,[]):=rfl
theorem IV {l:List Value} (h:OL l=some z):∃p:Plc,l= [.int .i64 p.1,.int .i64 p.2.1,.string p.2.2]/\z=(dat p,[]):=by
 unfold OL at h;split at h
 ·rename_i a b s
  cases h
  exact ⟨(a,b,s),rfl,rfl⟩
 cases h
theorem lY {v:Value} (h:Ji v=some z):∃p,v=kC p/\z=(dat p,[]):=by
 unfold Ji at h;split at h
 ·rename_i cs;obtain ⟨p,e,rfl⟩:=IV h;refine ⟨p,?_,rfl⟩;unfold kC;rw [<-e]
 cases h
def Wf (k:Int):Prop:=(Lit.int .i64 k).wf=true
theorem wR (h0: -2^63<=k) (h1:k<2^63):Wf k:=by
 unfold Wf;exact kj1
theorem ib {p:Plc} (h:FineP p):Wf p.1/\Wf p.2.1:=by
 have h1:=h.lo;have h2:=h.hi;have h3:=h.lo';have h4:=h.hi';exact ⟨wR zj zj,wR zj zj⟩
theorem NF {f:Sta} (G:gj f) {p:Plc} (h:f k=some p):Wf k:=by
 have:=(ib (G.fine k p h)).1;rwa [G.key k p h] at this
def ReadsAs (D:DataW Unit) (f:Sta):Prop:=∀k,Wf k->match f k with
 | none=>has D (.int .i64 k)=false
 | some p=>∀z,D.atKey (.int .i64 k) z=dat p
theorem ReadsAs.none {f:Sta} (h:ReadsAs D f) (hk:Wf k) (hf:f k=none):has D (.int .i64 k)=false:=by
 exact kn0
theorem ReadsAs.some {f:Sta} (h:ReadsAs D f) (hk:Wf k) {p:Plc} (hf:f k=some p) (z:DataW Unit):D.atKey (.int .i64 k) z=dat p:=by
 exact kl8
theorem ReadsAs.has {D:DataW Unit} {f:Sta} (h:ReadsAs D f) {k:Int} (hk:Wf k):Maps.has D (.int .i64 k)=(f k).isSome:=by
 cases hf:f k with
 | none=>rw [h.none hk hf];rfl
 | some p=>rw [has_true_of_atKey (h.some hk hf)];rfl
theorem ReadsAs.at {f:Sta} (h:ReadsAs D f) (hk:Wf k):D.atKey (.int .i64 k) (dat cU)=dat ((f k).getD cU):=by
 cases hf:f k with
 | none=>rw [atKey_of_not_has (h.none hk hf)];rfl
 | some p=>rw [h.some hk hf];rfl
theorem lf {a:Int} (h:a≠b):Lit.int .i64 a≠Lit.int .i64 b:=fun e=>h (by injection e)
section
variable {P:Program} {K E T:TypeId}
def MapAt (P:Program) (K:TypeId) (w:World) (b n:Nat) (f:Sta):Prop:=∃D,w.ownsMap P K Ji b n D/\ReadsAs D f
theorem MapAt.lt {w:World} {b n:Nat} {f:Sta} (h:MapAt P K w b n f):b<w.heap.size:=by
 obtain ⟨D,h,_⟩:=h;exact h.lt
theorem MapAt.mono {w:World} {b n n':Nat} {f:Sta} (h:MapAt P K w b n f) (hn:n<=n'):MapAt P K w b n' f:=by
 obtain ⟨D,h,r⟩:=h;exact ⟨D,h.mono hn,r⟩
theorem MapAt.same {w':World} {b:Nat} {f:Sta} (h:MapAt P K w b n f) (e:w'.heap[b]? =w.heap[b]?):MapAt P K w' b n f:=by
 exact ko5
theorem MapAt.block {b:Nat} {f:Sta} (h:MapAt P K w b n f):∃es clock,w.heap[b]? =some (.map es clock):=by
 obtain ⟨D,⟨es,clock,hb,F⟩,r⟩:=h;exact ⟨es,clock,hb⟩
theorem Bi (w:World):MapAt P K (w.alloc (.map #[] 0)) w.heap.size 0 mh:=
 ⟨_,World.ownsMap_made w P K Ji,fun _ _=>rfl⟩
theorem MapAt.look {b:Nat} {f:Sta} (h:MapAt P K w b n f) (hK:P.underlying K=some (.int .i64)) (hT:P.underlying T=some (.map K E)) (hz:(zeroValue E).run P w= .ok (kC cU) w) (hk:Wf k):
  (Instr.lookup T (.map (some b)) (.int .i64 k) true).run P w= .ok (.tuple #[kC ((f k).getD cU),.bool (f k).isSome]) w:=by
 obtain ⟨D,h,r⟩:=h;obtain ⟨v,ps,hrun,hv⟩:=h.look_ok (int_keyed hK) hT hz (wQ cU) (keyOf_int_mk hK hk);obtain ⟨p,rfl,hp⟩:=lY hv;rw [r.at hk,Prod.mk.injEq] at hp;rw [hrun,r.has hk,wB hp.1]
theorem MapAt.look1 {b:Nat} {f:Sta} (h:MapAt P K w b n f) (hK:P.underlying K=some (.int .i64)) (hT:P.underlying T=some (.map K E)) (hz:(zeroValue E).run P w= .ok (kC cU) w) (hk:Wf k):
  (Instr.lookup T (.map (some b)) (.int .i64 k) false).run P w= .ok (kC ((f k).getD cU)) w:=by
 obtain ⟨D,h,r⟩:=h;obtain ⟨v,ps,hrun,hv⟩:=h.lookup (int_keyed hK) hT hz (wQ cU) (keyOf_int_mk hK hk);obtain ⟨p,rfl,hp⟩:=lY hv;rw [r.at hk,Prod.mk.injEq] at hp;rw [hrun,wB hp.1]
theorem GR {f:Sta} (h:ReadsAs D f) (hD:IsMap D) (k:Int) (p:Plc):ReadsAs (D.put (.int .i64 k) (dat p)) (upd f k (some p)):=by
 intro x hx;by_cases e:x=k
 ·subst e;rw [de];exact ko4
 rw [cw e]
 cases hf:f x with
 | none=>rw [has_put_other (lf e)];exact h.none hx hf
 | some q=>intro z;rw [atKey_put_other (lf e)];exact h.some hx hf z
theorem El {f:Sta} (h:ReadsAs D f) (k:Int):ReadsAs (D.del (.int .i64 k)) (upd f k none):=by
 intro x hx;by_cases e:x=k
 ·subst e;rw [de];exact has_del_same
 rw [cw e]
 cases hf:f x with
 | none=>rw [has_del_other (lf e)];exact h.none hx hf
 | some q=>intro z;rw [atKey_del_other (lf e)];exact h.some hx hf z
theorem MapAt.store {w:World} {b n:Nat} {f:Sta} (h:MapAt P K w b n f) (hK:P.underlying K=some (.int .i64)) (hT:P.underlying T=some (.map K E)) (hn:n<maxLen) {k:Int} (hk:Wf k) (p:Plc):
  ∃w',(Instr.mapUpdate T (.map (some b)) (.int .i64 k) (kC p)).run P w= .ok () w'/\MapAt P K w' b (n+1) (upd f k (some p))/\w.mapTurned w' b:=by
 obtain ⟨D,h,r⟩:=h;obtain ⟨w',hrun,h',ht⟩:=h.store (int_keyed hK) hT hn (keyOf_int_mk hK hk) (wQ p);exact ⟨w',hrun,⟨_,h',GR r h.isMap k p⟩,ht⟩
theorem MapAt.drop {w:World} {b n:Nat} {f:Sta} (h:MapAt P K w b n f) (hK:P.underlying K=some (.int .i64)) (hT:P.underlying T=some (.map K E)) {k:Int} (hk:Wf k) (ty:TypeId):
  ∃w',(Builtin.delete_ #[T,K] ty #[.map (some b),.int .i64 k]).run P w= .ok (.tuple #[]) w'/\MapAt P K w' b n (upd f k none)/\w.mapTurned w' b:=by
 obtain ⟨D,h,r⟩:=h;obtain ⟨w',hrun,h',ht⟩:=h.drop (int_keyed hK) hT (keyOf_int_mk hK hk) ty;exact ⟨w',hrun,⟨_,h',El r k⟩,ht⟩
end
end
section
open Go.RowKit
def nw (a b:Int):Int:=if a<b then -1 else if b<a then 1 else 0
theorem Oi (a:Int) (w:World):Calls prog 171 #[.int .i64 a] w fun e w'=>e= .returned (.bool false)/\w'=w:=by
 have d0:(a !=a)=false:=zt;go_enter func171,ntmps171;exact kb3
theorem oL (a b:Int) (w:World):Calls prog 99 #[.int .i64 a,.int .i64 b] w fun e w'=>e= .returned (.int .i64 (nw a b))/\w'=w:=by
 unfold nw;by_cases h1:a<b
 ·have d1:decide (a<b)=true:=decide_eq_true h1;rw [if_pos h1];exact kf1
 have d1:decide (a<b)=false:=decide_eq_false h1;rw [if_neg h1];by_cases h2:b<a
 ·have d2:decide (b<a)=true:=decide_eq_true h2;rw [if_pos h2];exact kf1
 have d2:decide (b<a)=false:=decide_eq_false h2;rw [if_neg h2];exact kf1
end
section
open Go.RowKit
def bM (t b t' b':Int):Bool:=if t=t' then decide (b<b') else decide (t<t')
theorem pQ (t b t' b':Int) (w:World):
  Calls prog 128 #[.agg #[.int .i64 t,.int .i64 b],.agg #[.int .i64 t',.int .i64 b']] w fun e w'=>e= .returned (.bool (bM t b t' b'))/\Below w.heap.size w w':=by
 unfold bM;by_cases h:t=t'
 ·have hd:(t !=t')=false:=by simp [h]
  rw [if_pos h];clear h;go_enter func128,ntmps128;exact ke2
 have hd:(t !=t')=true:=xQ;rw [if_neg h];clear h;go_enter func128,ntmps128;exact ke2
end
section
open Go.RowKit
theorem bD (x y:ByteArray) (h:x.size+y.size<=9223372036854775807):∃F:ByteArray,F.data.toList=x.data.toList++y.data.toList/\F.size=x.size+y.size/\∀w,(Op.stringOp .add x y).run prog w= .ok (.string F) w:=by
 refine ⟨x++y,zt,zt,fun w=> ?_⟩;rw [run_string_add_sum w x y h]
theorem DB {x y:ByteArray} (h:x.data.toList=y.data.toList):x=y:=by
 cases x;cases y
 simp at h;rw [h]
theorem FX (s:ByteArray) (k:Nat) (h:k<s.size):s.data.toList.take k++ [s[k]]=s.data.toList.take (k+1):=by
 have hl:k<s.data.toList.length:=yR;rw [uF hl];congr 1
end
section
open Go.RowKit
theorem Ay:prog.cellsOf 3=1:=zo
