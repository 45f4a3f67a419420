import Derived.Test.YtjclejjkganhfaaGreatDoorMacB
import Derived.Test.YtjclejjkganhfaaGreatDoorSR01
import Derived.Lib.Split
import Derived.Lib.Join
import Derived.Lib.ItoaNum
import Derived.Lib.IndexBytes
import Derived.WalkSpells
import Derived.LoopN
import Derived.LoopTactic
import Derived.Lib.Hide
import Derived.Maps.AppendAt
import Derived.Laws.AppendOwn
import Derived.Laws.IdiomStrings
import Derived.Deep.RegionHeld3
import Derived.LaidEql
import Derived.ChangeKeysEq
import Derived.Laws.StructEq
import Derived.ProofKit
import Derived.OpenShut
import Derived.LaidMore
import Derived.Stop.Joined
import Derived.SevenTiedAt
import Derived.Lib.SmallJoins
import Derived.Lib.LaidU8
import Derived.Lib.LaidTab
import Derived.Laws.IdiomArrays
set_option linter.unusedSimpArgs false
set_option linter.unusedVariables false
set_option maxRecDepth 100000
set_option maxHeartbeats 64000000
namespace Go.Proofs.YtjclejjkganhfaaGreatDoor
open Go.Proofs.Tryz
variable {P:List ByteArray} {D fr k:Nat} {o:Value}
section
def hd(cur:qU):List qU->List qU
 | []=>[cur]
 | p::ps=>(cur++p)::ps
theorem zc0(a b)(x)(hx:x≠ []):hd a (hd b x)=hd (a++b) x:=by
 cases x with
 | nil=>exact absurd rfl hx
 | cons p ps=>simp [hd]
theorem WX(x)(hx:x≠ []):hd [] x=x:=by
 cases x with
 | nil=>exact absurd rfl hx
 | cons p ps=>simp [hd]
theorem Cp(a)(x)(hx:x≠ []):(hd a x).length=x.length:=by
 cases x with
 | nil=>exact absurd rfl hx
 | cons p ps=>simp [hd]
def mN:Nat->qU->Option Nat
 | n,[]=>some n
 | n,c::r=>if c.toNat<48\/57<c.toNat then none else mN (10*n+(c.toNat - 48)) r
def rP(D:Nat)(l:qU):Option Nat:=if l.length<1\/D<l.length\/(l.getD 0 0).toNat=48/\1<l.length then none else mN 0 l
abbrev RV:=Option (Nat⊕(Nat×Nat×Nat×Nat))
def nF(p:UInt8):qU->List qU
 | []=>[[]]
 | c::r=>if c=p then []::nF p r else hd [c] (nF p r)
theorem pO(p)(l):nF p l≠ []:=by
 cases l with
 | nil=>simp [nF]
 | cons c r=>
  unfold nF;split
  ·simp
  cases nF p r<;>simp [hd]
theorem rK(p)(r):nF p (p::r)= []::nF p r:=by simp [nF]
theorem nC(p c)(r)(h:c≠p):nF p (c::r)=hd [c] (nF p r):=by simp [nF,h]
theorem DV(p)(l):(nF p l).length<=l.length+1:=by
 induction l with
 | nil=>simp [nF]
 | cons c r ih=>
  grind [rK,nC,Cp,pO]
theorem Ck(p)(l):Lib.splitK [p] 0 0 l= [l]:=rfl
theorem ss(p)(k):Lib.splitK [p] 0 k []= [[]]:=by
 cases k with
 | zero=>rfl
 | succ k=>unfold Lib.splitK;rfl
theorem Fg(p)(k)(l):Lib.splitK [p] 0 k l≠ []:=by
 cases k with
 | zero=>simp [Lib.splitK]
 | succ k=>unfold Lib.splitK;split<;>simp
theorem AR(p)(k)(r):Lib.splitK [p] 0 (k+1) (p::r)= []::Lib.splitK [p] 0 k r:=by
 have h:Lib.index (p::r) [p]=0:=by rw [Lib.index_one];simp [Lib.indexByte]
 rw [Lib.splitK,if_neg (by rw [h];simp),h];simp
theorem rt(p)(k)(c)(r)(hc:c≠p):Lib.splitK [p] 0 (k+1) (c::r)=hd [c] (Lib.splitK [p] 0 (k+1) r):=by
 have h:Lib.index (c::r) [p]=if Lib.index r [p]== -1 then -1 else Lib.index r [p]+1:=by
  rw [Lib.index_one,Lib.index_one];simp [Lib.indexByte,hc]
 have g:=Lib.index_ge r [p];by_cases h1:Lib.index r [p]= -1
 ·rw [if_pos (by simp [h1])] at h
  have e1:Lib.splitK [p] 0 (k+1) (c::r)= [c::r]:=by unfold Lib.splitK;simp [h]
  have e2:Lib.splitK [p] 0 (k+1) r= [r]:=by unfold Lib.splitK;simp [h1]
  rw [e1,e2];simp [hd]
 rw [if_neg (by simp [h1])] at h
 obtain ⟨n,hn⟩:∃n:Nat,Lib.index r [p]=n:=⟨(Lib.index r [p]).toNat,zj⟩
 rw [hn] at h
 have e1:Lib.splitK [p] 0 (k+1) (c::r)=(c::r.take n)::Lib.splitK [p] 0 k (r.drop (n+1)):=by
  rw [Lib.splitK,if_neg (by rw [h];simp;omega),h];have:((n:Int)+1).toNat=n+1:=zj;simp [this]
 have e2:Lib.splitK [p] 0 (k+1) r=r.take n::Lib.splitK [p] 0 k (r.drop (n+1)):=by
  rw [Lib.splitK,if_neg yo,hn];simp
 rw [e1,e2];simp [hd]
theorem EH(p)(l):∀k,(Lib.splitK [p] 0 k l).length=min (k+1) (nF p l).length:=by
 induction l with
 | nil=>intro k;rw [ss];simp [nF]
 | cons c r ih=>
  intro k
  cases k with
  | zero=>
   have:=pO p (c::r);have:=YG.2 this;rw [Ck];simp;omega
  | succ k=>
   grind [AR,rK,rt,nC,Cp,Fg,pO]
theorem Oj(p)(l):∀k,(nF p l).length<=k+1->Lib.splitK [p] 0 k l=nF p l:=by
 induction l with
 | nil=>intro k _;rw [ss];rfl
 | cons c r ih=>
  intro k hk;by_cases h:c=p
  ·subst h
   rw [rK] at hk |-
   have h0:=YG.2 (pO c r)
   cases k with
   | zero=>simp_all
   | succ k=>rw [AR,ih k (by simpa using hk)]
  rw [nC p c r h] at hk |-
  rw [Cp _ _ (pO p r)] at hk
  cases k with
  | zero=>
   grind [Ck,hd]
  | succ k=>rw [rt p k c r h,ih (k+1) hk]
theorem nI(p)(a b)(h:p∉a):nF p (a++p::b)=a::nF p b:=by
 induction a with
 | nil=>simp [nF]
 | cons c r ih=>
  grind [nC,hd]
theorem sH(p)(a)(h:p∉a):nF p a= [a]:=by
 induction a with
 | nil=>simp [nF]
 | cons c r ih=>
  grind [nC,hd]
def pt(p:UInt8):List qU->qU
 | []=>[]
 | [a]=>a
 | a::b::r=>a++p::pt p (b::r)
theorem Ng(p)(a)(x)(h:x≠ []):pt p (a::x)=a++p::pt p x:=by
 cases x with
 | nil=>exact absurd rfl h
 | cons b r=>rfl
theorem Sj(p)(c)(x)(h:x≠ []):pt p (hd [c] x)=c::pt p x:=by
 cases x with
 | nil=>exact absurd rfl h
 | cons b r=>
  cases r with
  | nil=>simp [hd,pt]
  | cons d r=>simp [hd,pt]
theorem Ox(p)(l):pt p (nF p l)=l:=by
 induction l with
 | nil=>simp [nF,pt]
 | cons c r ih=>
  grind [rK,Ng,pO,nC,Sj]
theorem Mx(p)(a0 a1 a2 a3 a4 a5 a6 a7):Lib.join [a0,a1,a2,a3,a4,a5,a6,a7] [p]=pt p [a0,a1,a2,a3,a4,a5,a6,a7]:=by
 simp [Lib.join_cons,Lib.joinTail,pt]
theorem By(x)(c):∀a,mN a (x++ [c])=(mN a x).bind fun v=>if c.toNat<48\/57<c.toNat then none else some (10*v+(c.toNat - 48)):=by
 induction x with
 | nil=>intro a;simp [mN]
 | cons d r ih=>
  grind [mN]
theorem Oc(x):∀a v,mN a x=some v->a<=v:=by
 induction x with
 | nil=>intro a v h;simp [mN] at h;omega
 | cons d r ih=>
  grind [mN]
theorem LY(n):mN 0 (Lib.decDigits n)=some n:=by
 induction n using Nat.strongRecOn with
 | _ n ih=>
  rw [Lib.decDigits];split
  ·rename_i h;have e:(UInt8.ofNat (48+n)).toNat=48+n:=zm;simp only [mN]
   grind
  rename_i h;have e:(UInt8.ofNat (48+n % 10)).toNat=48+n % 10:=zm;rw [By,ih (n / 10) zj]
  grind
theorem GZ(n):∀c∈Lib.decDigits n,48<=c.toNat/\c.toNat<=57:=by
 induction n using Nat.strongRecOn with
 | _ n ih=>
  intro c hc;rw [Lib.decDigits] at hc;split at hc
  ·have e:(UInt8.ofNat (48+n)).toNat=48+n:=by simp;omega
   grind
  have e:(UInt8.ofNat (48+n % 10)).toNat=48+n % 10:=zm
  grind
theorem VL(n):Lib.decDigits n≠ []:=by
 rw [Lib.decDigits];split<;>simp
theorem Td(n)(h:10<=n):((Lib.decDigits n).getD 0 0).toNat≠48:=by
 induction n using Nat.strongRecOn with
 | _ n ih=>
  rw [Lib.decDigits,dif_neg zj];have hne:=VL (n / 10)
  have e:(Lib.decDigits (n / 10)++ [UInt8.ofNat (48+n % 10)]).getD 0 0=(Lib.decDigits (n / 10)).getD 0 0:=by
   cases hd:Lib.decDigits (n / 10) with
   | nil=>exact absurd hd hne
   | cons c r=>rfl
  rw [e];by_cases h2:n / 10<10
  ·rw [Lib.decDigits,dif_pos h2];have e:(UInt8.ofNat (48+n / 10)).toNat=48+n / 10:=zm
   show (UInt8.ofNat (48+n / 10)).toNat≠48
   rw [e];omega
  grind
theorem zaq(D):∀n,n<10^(D+1)->(Lib.decDigits n).length<=D+1:=by
 induction D with
 | zero=>intro n h;rw [Lib.decDigits,dif_pos zj];simp
 | succ D ih=>
  intro n h;rw [Lib.decDigits]
  grind
theorem TI(D n)(h:n<10^(D+1)):rP (D+1) (Lib.decDigits n)=some n:=by
 unfold rP;have h1:=YG.2 (VL n);have h2:=zaq D n h;rw [if_neg,LY];rintro (h3 | h3 | ⟨h3,h4⟩)
 ·omega
 ·omega
 by_cases ki:10<=n
 ·exact Td n ki h3
 rw [Lib.decDigits,dif_pos zj] at h4;simp at h4
theorem sR(D)(a)(h0:0<=a)(h:a.toNat<10^(D+1)):rP (D+1) (Lib.itoa a)=some a.toNat:=by
 rw [Lib.itoa,if_neg zj];exact TI D _ h
theorem wQ(a)(p)(hp:57<p.toNat)(h0:0<=a):p∉Lib.itoa a:=by
 rw [Lib.itoa,if_neg zj];intro hm;have:=GZ _ _ hm;omega
theorem zbi(x):∀n v,x.length=n->mN 0 x=some v->x≠ []->(x.getD 0 0).toNat≠48->Lib.decDigits v=x:=by
 intro n
 induction n generalizing x with
 | zero=>simp_all
 | succ n ih=>
  intro v hl hd hne hz
  obtain ⟨y,c,rfl⟩:∃y c,x=y++ [c]:=⟨x.dropLast,x.getLast hne,(List.dropLast_concat_getLast hne).symm⟩
  rw [By] at hd
  cases hv:mN 0 y with
  | none=>simp_all
  | some u=>
   rw [hv] at hd;simp only [Option.bind_some] at hd;by_cases hc:c.toNat<48\/57<c.toNat
   ·simp_all
   rw [if_neg hc] at hd;have hd:=Option.some.inj hd;by_cases hy:y= []
   ·subst hy;simp [mN] at hv;subst hv;rw [Lib.decDigits,dif_pos zj];have:48+v=c.toNat:=zj;rw [this];simp
   have hy0:((y++ [c]).getD 0 0)=y.getD 0 0:=by
    cases y with
    | nil=>exact absurd rfl hy
    | cons b r=>rfl
   rw [hy0] at hz
   have hu:1<=u:=by
    cases y with
    | nil=>exact absurd rfl hy
    | cons b r=>
     simp only [mN] at hv;split at hv
     ·cases hv
     have:=Oc _ _ _ hv
     grind
   have:=ih y u qw hv hy hz;rw [Lib.decDigits,dif_neg zj,show v / 10=u by omega,this,show 48+v % 10=c.toNat by omega];simp
theorem wo(D)(l)(v)(h:rP D l=some v):Lib.decDigits v=l:=by
 unfold rP at h;split at h
 ·cases h
 rename_i hc
 have hne:l≠ []:=fun e=>hc (.inl zL)
 by_cases hz:(l.getD 0 0).toNat=48
 ·have hl:¬1<l.length:=fun e=>hc (.inr (.inr ⟨hz,e⟩))
  match l,hne with
  | [c],_=>
   have hz:c.toNat=48:=hz;simp [mN,hz] at h;subst h;rw [Lib.decDigits,dif_pos zj];have:c=48:=UInt8.toNat_inj.1 hz;subst this;rfl
  | _::_::_,_=>simp at hl
 exact zbi l _ v rfl h hne hz
theorem Wq(l):∀a v,mN a l=some v->v<(a+1)*10^l.length:=by
 induction l with
 | nil=>intro a v h;simp [mN] at h;simp;omega
 | cons c r ih=>
  intro a v h;simp only [mN] at h;split at h
  ·cases h
  have:=ih _ _ h;have h2:(10*a+(c.toNat - 48)+1)*10^r.length<=(10*(a+1))*10^r.length:=ZG _ zj
  grind
theorem Lq(D)(l)(v)(h:rP D l=some v):v<10^D:=by
 unfold rP at h;split at h
 ·cases h
 rename_i hc;have h1:=Wq l 0 v h;have h2:10^l.length<=10^D:=Nat.pow_le_pow_right zo zj;omega
def wj(n:Nat):UInt8:=UInt8.ofNat (if n<10 then 48+n else 87+n)
def Cv:qU->qU
 | []=>[]
 | c::r=>wj (c.toNat / 16)::wj (c.toNat % 16)::Cv r
def Md(c:UInt8):Option Nat:=if 48<=c.toNat/\c.toNat<=57 then some (c.toNat - 48) else if 97<=c.toNat/\c.toNat<=102 then some (c.toNat - 87) else none
def nU:qU->Option qU
 | []=>some []
 | [_]=>none
 | a::b::r=>
  match Md a with
  | none=>none
  | some x=>match Md b with
   | none=>none
   | some y=>(nU r).map fun l=>UInt8.ofNat (16*x+y)::l
theorem wX:∀n:Fin 16,Md (wj n)=some n.1/\wj n≠124:=yZ
theorem Oy:∀c:Fin 256,∀x:Fin 16,Md (UInt8.ofNat c)=some x.1->wj x=UInt8.ofNat c:=yZ
theorem Bi(c)(x)(h:Md c=some x):x<16:=by
 grind [Md]
theorem XQ(c)(x)(h:Md c=some x):wj x=c:=by
 have:=Oy ⟨c.toNat,c.toNat_lt⟩ ⟨x,Bi c x h⟩
 simp_all
theorem RY(l):nU (Cv l)=some l:=by
 induction l with
 | nil=>rfl
 | cons c r ih=>
  have hc:=c.toNat_lt;have h1:=(wX ⟨c.toNat / 16,zj⟩).1;have h2:=(wX ⟨c.toNat % 16,zj⟩).1;simp only at h1 h2;simp only [Cv,nU,h1,h2,ih,YA];congr 2;rw [show 16*(c.toNat / 16)+c.toNat % 16=c.toNat by omega];simp
theorem Tl(l):(124:UInt8)∉Cv l:=by
 induction l with
 | nil=>simp [Cv]
 | cons c r ih=>
  have hc:=c.toNat_lt;have h1:=(wX ⟨c.toNat / 16,zj⟩).2;have h2:=(wX ⟨c.toNat % 16,zj⟩).2;simp only at h1 h2;simp only [Cv,uX,not_or]
  grind
theorem tL(l):(Cv l).length=2*l.length:=by
 induction l with
 | nil=>rfl
 | cons c r ih=>simp [Cv,ih];omega
theorem NJ(n):∀l:qU,l.length=n->n % 2=1->nU l=none:=by
 induction n using Nat.strongRecOn with
 | _ n ih=>
  intro l hl hn
  match l,hl with
  | [],hl=>simp at hl;omega
  | [_],_=>rfl
  | a::b::r,hl=>
   grind [Za,nU]
theorem Nh(n):∀l v:qU,l.length=n->nU l=some v->Cv v=l:=by
 induction n using Nat.strongRecOn with
 | _ n ih=>
  intro l v hl h
  match l,hl,h with
  | [],_,h=>simp [nU] at h;subst h;rfl
  | [_],_,h=>simp [nU] at h
  | a::b::r,hl,h=>
   simp only [Za] at hl;simp only [nU] at h
   cases ha:Md a with
   | none=>rw [ha] at h;cases h
   | some x=>
    rw [ha] at h;simp only at h
    cases hb:Md b with
    | none=>rw [hb] at h;cases h
    | some y=>
     rw [hb] at h;simp only at h
     cases hr:nU r with
     | none=>rw [hr] at h;cases h
     | some u=>
      rw [hr] at h;have h:=Option.some.inj h;subst h;have h1:=Bi _ _ ha;have h2:=Bi _ _ hb;have e:(UInt8.ofNat (16*x+y)).toNat=16*x+y:=zm
      grind [Cv,XQ]
def DU(c:UInt8):Bool:=decide (97<=c.toNat/\c.toNat<=122\/48<=c.toNat/\c.toNat<=57\/c.toNat=45\/c.toNat=46)
def Fx(c:UInt8):Bool:=decide (32<=c.toNat/\c.toNat<=126)
def nY(l:qU):Bool:=decide (1<=l.length) &&decide (l.length<=12) &&l.all DU
def CH(l:qU):Bool:=l.all Fx
def nw(id l8 other:Int)(name value:qU):Nat:=if l8<2\/id<l8\/other<0\/id<=other then 3 else if nY name=false then 4 else if value≠ [] then 3 else 0
def DG(id l8 other:Int)(name value:qU):Nat:=if l8<0\/id<=l8\/other<0\/id<=other then 3 else if name≠ [] then 4 else if value.length≠1\/CH value=false then 3 else 0
def EC(id l8 other:Int)(name value:qU):Nat:=if l8<0\/id<=l8\/other<0\/id<=other\/other=0 then 3 else if name≠ [] then 4 else if value≠ [] then 3 else 0
def FV(id l8 other:Int)(name value:qU):Nat:=if l8<0\/id<=l8\/other≠0 then 3 else if nY name=false then 4 else if 12<value.length\/CH value=false then 3 else 0
def wd(id:Int)(k:Nat)(l8 other:Int)(name value:qU):Nat:=
 if k=109 then nw id l8 other name value else if k=105 then DG id l8 other name value else if k=100 then EC id l8 other name value else if k=115 then FV id l8 other name value else 5
def opE(t b n:Int)(k:Nat)(l8 other:Int)(name value:qU):Nat:=
 if 1<=t/\t<=1073741824/\0<=b/\b<4/\1<=n/\n<=400 then wd (t*4+b) k l8 other name value else 2
theorem mT{t b n}{k}{l8 other}{name value}(h:opE t b n k l8 other name value=0):
  1<=t/\t<=1073741824/\0<=b/\b<4/\1<=n/\n<=400/\(k=109\/k=105\/k=100\/k=115)/\0<=l8/\l8<=t*4+b/\0<=other/\other<=t*4+b/\(124:UInt8)∉name/\name.length<=12/\value.length<=12:=by
 have nm:nY name=true->(124:UInt8)∉name/\name.length<=12:=fun hn=>by
  unfold nY at hn;simp only [Yl,decide_eq_true_eq] at hn;refine ⟨fun hm=> ?_,hn.1.2⟩;have:=List.all_eq_true.1 hn.2 _ hm;revert this;decide
 unfold opE at h;split at h
 ·rename_i hc;obtain ⟨h1,h2,h3,h4,h5,h6⟩:=hc;unfold wd at h;split at h
  ·grind [nw]
  split at h
  ·grind [DG]
  split at h
  ·rename_i hk;unfold EC at h;split at h
   ·cases h
   split at h
   ·cases h
   rename_i hn;split at h
   ·cases h
   rename_i hv;have hn:=Decidable.not_not.1 hn;have hv:=Decidable.not_not.1 hv;subst hn hv;exact ⟨h1,h2,h3,h4,h5,h6,.inr (.inr (.inl hk)),zj,zj,zj,zj,zr,zr,zr⟩
  grind [FV]
 cases h
def ol(t b n:Int)(k:Nat)(l8 other:Int)(name value:qU):qU:=
 pt 124 [[UInt8.ofNat k],Lib.itoa t,Lib.itoa b,Lib.itoa n,Lib.itoa l8,Lib.itoa other,name,Cv value]
abbrev WC:=UInt8×Nat×Nat×Nat×Nat×Nat×qU×qU
def Ca(c:UInt8)(p1 p2 p3 p4 p5 nm hx:qU):Option WC:=
 match rP 10 p1 with
 | none=>none
 | some n1=>match rP 10 p2 with
  | none=>none
  | some n2=>match rP 10 p3 with
   | none=>none
   | some n3=>match rP 10 p4 with
    | none=>none
    | some n4=>match rP 10 p5 with
     | none=>none
     | some n5=>match nU hx with
      | none=>none
      | some v=>some (c,n1,n2,n3,n4,n5,nm,v)
def nN(l:qU):Option WC:=
 match nF 124 l with
 | [[c],p1,p2,p3,p4,p5,nm,hx]=>Ca c p1 p2 p3 p4 p5 nm hx
 | _=>none
theorem An{l p1 p2 p3 p4 p5 nm hx}{c}(h:nF 124 l= [[c],p1,p2,p3,p4,p5,nm,hx]):nN l=Ca c p1 p2 p3 p4 p5 nm hx:=by simp [nN,h]
theorem Mo{l}(h:(nF 124 l).length≠8):nN l=none:=by
 unfold nN;split
 ·simp_all
 rfl
theorem Ib{l p0 p1 p2 p3 p4 p5 nm hx}(h:nF 124 l= [p0,p1,p2,p3,p4,p5,nm,hx])(h0:p0.length≠1):nN l=none:=by
 grind [nN]
theorem MD{t b n}{k}{l8 other}{name value}(h:opE t b n k l8 other name value=0):
  nN (ol t b n k l8 other name value)=some (UInt8.ofNat k,t.toNat,b.toNat,n.toNat,l8.toNat,other.toNat,name,value):=by
 obtain ⟨h1,h2,h3,h4,h5,h6,hk,h7,h8,h9,ki,hn,-,-⟩:=mT h;have hp:(57:Nat)<(124:UInt8).toNat:=zo
 have jc:(124:UInt8)∉ [UInt8.ofNat k]:=by
  rcases hk with rfl | rfl | rfl | rfl<;>decide
 have hc:nF 124 (ol t b n k l8 other name value)= [[UInt8.ofNat k],Lib.itoa t,Lib.itoa b,Lib.itoa n,Lib.itoa l8,Lib.itoa other,name,Cv value]:=by
  unfold ol;simp only [pt];rw [nI _ _ _ jc,nI _ _ _ (wQ t _ hp zj),nI _ _ _ (wQ b _ hp zj),nI _ _ _ (wQ n _ hp zj),nI _ _ _ (wQ l8 _ hp zj),nI _ _ _ (wQ other _ hp zj),nI _ _ _ hn,sH _ _ (Tl value)]
 rw [An hc];unfold Ca;rw [sR 9 t zj zj,sR 9 b zj zj,sR 9 n zj zj,sR 9 l8 zj zj,sR 9 other zj zj,RY]
theorem DR{l nm v}{c}{n1 n2 n3 n4 n5}(h:nN l=some (c,n1,n2,n3,n4,n5,nm,v)):ol n1 n2 n3 c.toNat n4 n5 nm v=l:=by
 have it:∀m:Nat,Lib.itoa (m:Int)=Lib.decDigits m:=fun m=>by rw [Lib.itoa,if_neg zj];rfl
 unfold nN at h;split at h
 ·rename_i c' p1 p2 p3 p4 p5 gY hx hc;unfold Ca at h;split at h
  ·cases h
  rename_i m1 e1;split at h
  ·cases h
  rename_i m2 e2;split at h
  ·cases h
  rename_i m3 e3;split at h
  ·cases h
  rename_i m4 e4;split at h
  ·cases h
  rename_i m5 e5;split at h
  ·cases h
  rename_i v' ev;simp only [Option.some.injEq,Prod.mk.injEq] at h;obtain ⟨rfl,rfl,rfl,rfl,rfl,rfl,rfl,rfl⟩:=h;unfold ol;rw [it,it,it,it,it,wo _ _ _ e1,wo _ _ _ e2,wo _ _ _ e3,wo _ _ _ e4,wo _ _ _ e5,Nh _ _ _ rfl ev];rw [UInt8.ofNat_toNat,<-hc,Ox]
 cases h
end
section
open RowKit
theorem pF(s:qY)(k:Nat)(h:k<s.size):s.data.toList.drop k=s[k]::s.data.toList.drop (k+1):=by
 have hl:k<s.data.toList.length:=xl;rw [Yg hl];simp;rfl
theorem AU(s:qY):s.data.toList.drop s.size= []:=by
 simp_all
theorem Vl(k v)(h:v<10^k)(hk:k<18):v<100000000000000000:=by
 have:10^k<=10^17:=Nat.pow_le_pow_right zo zj;omega
theorem Jp(k v d)(h:v<10^k)(hd:d<10):10*v+d<10^(k+1):=by
 omega
theorem Eu(n id)(w)(h0:0<=n)(h1:n<id):
  qC 325 #[qI n,qI id] w fun e w'=>e= .returned (.bool true)/\w'=w:=by
 go_enter func325,ntmps325;exact ka7
theorem IP(n id)(w)(h:n<0\/id<=n):
  qC 325 #[qI n,qI id] w fun e w'=>e= .returned (.bool false)/\w'=w:=by
 by_cases h0:n<0
 ·clear h;go_enter func325,ntmps325;exact ka7
 have h1:id<=n:=zj;have h2:0<=n:=zj;have d:decide (n<id)=false:=zm;go_enter func325,ntmps325;exact ka7
theorem zcb(c)(w):
  qC 259 #[.int .u8 (c.toNat:Int)] w fun e w'=>e= .returned (.bool (DU c))/\w'=w:=by
 have hb:DU c=decide (97<=(c.toNat:Int)/\(c.toNat:Int)<=122\/48<=(c.toNat:Int)/\(c.toNat:Int)<=57\/(c.toNat:Int)=45\/(c.toNat:Int)=46):=by
  unfold DU;rw [decide_eq_decide];omega
 rw [hb];generalize (c.toNat:Int)=x
 rcases (by omega:122<x\/(97<=x/\x<=122)\/(57<x/\x<97)\/(48<=x/\x<=57)\/x=46\/x=45\/(x<48/\x≠46/\x≠45)) with h | ⟨h,h'⟩ | ⟨h,h'⟩ | ⟨h,h'⟩ | h | h | ⟨h,h',h''⟩
 ·rw [decide_eq_false zj];have d1:decide (x<=122)=false:=zm;have d2:decide (x<=57)=false:=zm;have e1:(x==45)=false:=zm;have e2:(x==46)=false:=zm;go_enter func259,ntmps259;exact ka7
 ·rw [decide_eq_true zj];go_enter func259,ntmps259;exact ka7
 ·rw [decide_eq_false zj];have d1:decide (97<=x)=false:=zm;have d2:decide (x<=57)=false:=zm;have e1:(x==45)=false:=zm;have e2:(x==46)=false:=zm;go_enter func259,ntmps259;exact ka7
 ·rw [decide_eq_true zj];have d1:decide (97<=x)=false:=zm;go_enter func259,ntmps259;exact ka7
 ·subst h;go_enter func259,ntmps259;exact ka7
 ·subst h;go_enter func259,ntmps259;exact ka7
 rw [decide_eq_false zj];have d1:decide (97<=x)=false:=zm;have d2:decide (48<=x)=false:=zm;have e1:(x==45)=false:=zm;have e2:(x==46)=false:=zm;go_enter func259,ntmps259;exact ka7
theorem Vn(s:qY)(f:UInt8->Bool)(k:Nat)(h:k<s.size):(s.data.toList.drop k).all f=(f s[k] &&(s.data.toList.drop (k+1)).all f):=by
 rw [pF s k h,List.all_cons]
theorem Ju(s)(w)(hs:s.size<=1000000):
  qC 206 #[.string s] w fun e w'=>e= .returned (.bool (nY s.data.toList))/\w'=w:=by
 have hl:s.data.toList.length=s.size:=zr;by_cases h1:s.size<1
 ·have d1:decide ((s.size:Int)<1)=true:=by simp;omega
  have hr:nY s.data.toList=false:=by unfold nY;rw [hl,decide_eq_false zj];rfl
  rw [hr];go_enter func206,ntmps206;exact ka7
 by_cases h2:12<s.size
 ·have d1:decide ((s.size:Int)<1)=false:=by simp;omega
  have d2:decide (12<(s.size:Int))=true:=zm
  have hr:nY s.data.toList=false:=by unfold nY;rw [hl,decide_eq_false (show ¬s.size<=12 by omega)];simp
  rw [hr];go_enter func206,ntmps206;exact ka7
 have d1:decide ((s.size:Int)<1)=false:=zm;have d2:decide (12<(s.size:Int))=false:=zm
 have hr:nY s.data.toList=s.data.toList.all DU:=by unfold nY;rw [hl,decide_eq_true (show s.size<=12 by omega),decide_eq_true (show 1<=s.size by omega)];rfl
 rw [hr];generalize hR:s.data.toList.all DU=R;have HR:=Lib.hid hR;go_enter func206,ntmps206;go_wp2;go_loop [14] (fun i=>∃k:Nat,k<=s.size/\i=qI k/\Hid ((s.data.toList.drop k).all DU=R)) (fun i=>s.size - (intOf i).toNat)
 case atStart=>exact ⟨0,uW _,rfl,Lib.hid qq⟩
 case round=>
  obtain ⟨k,hk,rfl,HD⟩:=hrel;by_cases hlt:k<s.size
  ·have hd:qlt k s.size=true:=by simp;omega
   have HA:=Lib.hid ((Vn s DU k hlt).symm.trans HD.o);go_wp2_with fail;refine (zcb _ _).mono ?_;rintro e w' ⟨rfl,rfl⟩
   cases hb:DU s[k] with
   | true=>
    have HE:=Lib.hid (by have:=HA.o;rw [hb,Bool.true_and] at this;exact this);go_wp2;go_round
    case rel=>exact ⟨k+1,zj,zN,HE⟩
    case measure=>simp [intOf];omega
   | false=>
    have HE:=Lib.hid (by have:=HA.o;rw [hb,Bool.false_and] at this;exact this.symm);go_wp2;go_ret;exact ⟨by rw [HE.o];rfl,rfl⟩
  exact kg3
theorem Uu(s)(w)(hs:s.size<=1000000):
  qC 326 #[.string s] w fun e w'=>e= .returned (.bool (CH s.data.toList))/\w'=w:=by
 unfold CH;generalize hR:s.data.toList.all Fx=R;have HR:=Lib.hid hR;go_enter func326,ntmps326;go_wp2;go_loop [6] (fun i=>∃k:Nat,k<=s.size/\i=qI k/\Hid ((s.data.toList.drop k).all Fx=R)) (fun i=>s.size - (intOf i).toNat)
 case atStart=>exact ⟨0,uW _,rfl,Lib.hid qq⟩
 case round=>
  obtain ⟨k,hk,rfl,HD⟩:=hrel;by_cases hlt:k<s.size
  ·have hd:qlt k s.size=true:=by simp;omega
   have HA:=Lib.hid ((Vn s Fx k hlt).symm.trans HD.o);by_cases g1:s[k].toNat<32
   ·have l1:decide ((s[k].toNat:Int)<32)=true:=by simp;omega
    exact kf0
   have l1:decide ((s[k].toNat:Int)<32)=false:=zm;by_cases g2:126<s[k].toNat
   ·have l2:decide (126<(s[k].toNat:Int))=true:=by simp;omega
    exact kf0
   have l2:decide (126<(s[k].toNat:Int))=false:=zm
   have HE:=Lib.hid (by
    have:=HA.o
    rw [show Fx s[k]=true by unfold Fx;rw [decide_eq_true zj],Bool.true_and] at this
    exact this)
   go_wp2;go_round
   case rel=>exact ⟨k+1,zj,zN,HE⟩
   case measure=>simp [intOf];omega
  exact kg3
theorem infoByte:(prog.info? 5).map (fun i=>(i.zero,i.size,i.bytes))=some (some (.int .u8 0),1,1):=zk
def ni(l:qU):List Value:=l.map fun c=>.int .u8 (c.toNat:Int)
theorem VB(x)(w)(h0:0<=x)(h1:x<16):(Instr.index 9 (.string ⟨#[48,49,50,51,52,53,54,55,56,57,97,98,99,100,101,102]⟩) (.int .u8 x)).run prog w= .ok (.int .u8 ((wj x.toNat).toNat:Int)) w:=by
 rcases (show x=0\/x=1\/x=2\/x=3\/x=4\/x=5\/x=6\/x=7\/x=8\/x=9\/x=10\/x=11\/x=12\/x=13\/x=14\/x=15 by omega) with rfl | rfl | rfl | rfl | rfl | rfl | rfl | rfl | rfl | rfl | rfl | rfl | rfl | rfl | rfl | rfl
 all_goals kernel_rfl
theorem zcJ:∀c:Fin 256,bits .and .u8 (c.1:Int) 15=((c.1 % 16:Nat):Int):=yZ
theorem zdy:∀x y:Fin 16,bits .or .i64 ((16*x.1:Nat):Int) (y.1:Int)=((16*x.1+y.1:Nat):Int):=yZ
theorem Wg(c:UInt8)(w):(Instr.index 9 (.string ⟨#[48,49,50,51,52,53,54,55,56,57,97,98,99,100,101,102]⟩) (.int .u8 ((c.toNat:Int) / 16))).run prog w= .ok (.int .u8 ((wj (c.toNat / 16)).toNat:Int)) w:=by
 have:=c.toNat_lt
 grind [VB]
theorem za8(c:UInt8)(w):(Instr.index 9 (.string ⟨#[48,49,50,51,52,53,54,55,56,57,97,98,99,100,101,102]⟩) (.int .u8 (bits .and .u8 (c.toNat:Int) 15))).run prog w= .ok (.int .u8 ((wj (c.toNat % 16)).toNat:Int)) w:=by
 have:=c.toNat_lt;have e:=VB ((c.toNat % 16:Nat):Int) w zj zj;have e2:=zcJ ⟨c.toNat,this⟩
 grind
theorem oc(a b):ni (a++b)=ni a++ni b:=by simp [ni]
theorem JD{w}{l9}{v}{n}{l}(h:w.ownsRow l9 5 1 v n (ni l))(hl:l.length=n):
  Sem.run prog (convert 141 9 v) w= .ok (.string ⟨l.toArray⟩) w:=by
 rcases Nat.eq_zero_or_pos n with h0 | h0
 ·have cP:l= []:=Zg.1 zj;subst cP
  rcases h.2 with ⟨hv,_⟩ | ⟨g,cap,cur,hv,_⟩
  ·exact kk7
  grind [run_convert_bytes_back,underlying141,underlying5,underlying9]
 obtain ⟨g,cap,rfl,-,-⟩:=h.form h0;have hc:=h.cells (g:=g) rfl
 grind [run_convert_bytes_back,underlying141,underlying5,underlying9,ni,uJ]
theorem TC(s:qY)(k:Nat)(h:k<s.size)(done R:qU)(hd:done++Cv (s.data.toList.drop k)=R):(done++ [wj (s[k].toNat / 16),wj (s[k].toNat % 16)])++Cv (s.data.toList.drop (k+1))=R:=by
 grind [pF,Cv]
theorem Hk(s)(w)(hs:s.size<=1000000):
  qC 230 #[.string s] w (qR (.string ⟨(Cv s.data.toList).toArray⟩) w):=by
 obtain ⟨i0,hi,aD,aw,aH⟩:=info_parts infoByte;generalize hR:Cv s.data.toList=R;have HR:=Lib.hid hR;go_enter func230,ntmps230;go_wp2_with (at_make;refine wpList_make_own _ rfl _ _ 141 rfl w.heap.size 5 i0 (.int .u8 0) 1 underlying141 hi aD aw .i64 .i64 _ (2*s.size) rfl rfl zj (by rw [aH];omega) yt zg ?_;intro w0 bd d7);go_loopw [3,11] (fun v i wr=>∃(k n:Nat) (done:qU),k<=s.size/\n=2*k/\done.length=n/\i=qI (k:Nat)/\wr.ownsRow w.heap.size 5 1 v n (ni done)/\qL w wr/\Hid (done++Cv (s.data.toList.drop k)=R)) (fun _ i _=>s.size - (intOf i).toNat)
 case atStart=>exact ⟨0,0,[],uW _,rfl,rfl,rfl,bd,(uM _ _).grown d7 zg (fun k hk=>by simp at hk),Lib.hid qq⟩
 case round=>
  obtain ⟨k,n,done,hk,rfl,bw,rfl,hown,hB,HD⟩:=hrel;by_cases hlt:k<s.size
  ·have hdt:qlt k s.size=true:=by simp;omega
   have HE:=Lib.hid (TC s k hlt done R HD.o);have HL:=Lib.hid bw;have x1:=Wg s[k];have x2:=za8 s[k];have hzB:=hB.size;generalize hc1:wj (s[k].toNat / 16)=c1 at x1 HE;generalize hc2:wj (s[k].toNat % 16)=c2 at x2 HE;go_wp2_with fail
   go_region_held3 (fun _=>True) (trivial)
    ((refine step_append_lies _ zt _ _ _ zt w.heap.size 5 i0 _ 1 1 underlying141 hi aD aw aH rfl zj _ (2*k) (ni done) zt ((hown.alloc _).drew) (qB wr.heap.size) 2 2 [.int .u8 (c1.toNat:Int),.int .u8 (c2.toNat:Int)] zt zt (YH (cs:= #[.int .u8 (c1.toNat:Int),.int .u8 (c2.toNat:Int)]) (t:=5) (fr:=(0,0)) (heap_alloc_new wr _)) xg zj yt zj zm (wr.heap.size+1) zr ?_;intro gg cap w1 aX ag aN hlt1))
   all_goals go_wp2
   all_goals
    refine ⟨⟨k+1,2*(k+1),done++ [c1,c2],zj,rfl,by have:=HL.o;simp;omega,zN,by rw [oc];exact aX,(hB.alloc hB.size _).drew.grown ag zm (fun k hk=>(hown.lt k hk).1),HE⟩,?_⟩;simp [intOf];omega
  have hdl':qlt k s.size=false:=zm;have HE:=Lib.hid (by have:=HD.o;rw [show k=s.size by omega,AU] at this;simpa [Cv] using this.symm);have jS:=JD hown bw;go_wp2;go_ret;exact ⟨by rw [HE.o];rfl,hB⟩
def Mh(c:UInt8):Int:=match Md c with
 | none=> -1
 | some x=>(x:Int)
theorem TQ:∀c:Fin 256,Lib.indexByte [48,49,50,51,52,53,54,55,56,57,97,98,99,100,101,102] (UInt8.ofNat c.1)=Mh (UInt8.ofNat c.1):=yZ
theorem Wx(c)(w):qC 382 #[.string ⟨#[48,49,50,51,52,53,54,55,56,57,97,98,99,100,101,102]⟩,.int .u8 (c.toNat:Int)] w fun e w'=>e= .returned (qI (Mh c))/\w'=w:=by
 have h:=Tryz.strings_IndexByte ⟨#[48,49,50,51,52,53,54,55,56,57,97,98,99,100,101,102]⟩ (c.toNat:Int) w;have e:=TQ ⟨c.toNat,c.toNat_lt⟩;simp only [UInt8.ofNat_toNat] at e;have e2:((c.toNat:Int).toNat).toUInt8=c:=zr;rw [e2] at h;have e3:(⟨#[48,49,50,51,52,53,54,55,56,57,97,98,99,100,101,102]⟩:qY).data.toList= [48,49,50,51,52,53,54,55,56,57,97,98,99,100,101,102]:=rfl;rw [e3,e] at h;exact h
theorem Jz(c)(z)(w)(hz:Mh c=z):qC 382 #[.string ⟨#[48,49,50,51,52,53,54,55,56,57,97,98,99,100,101,102]⟩,.int .u8 (c.toNat:Int)] w fun e w'=>e= .returned (qI z)/\w'=w:=by rw [<-hz];exact Wx c w
theorem TN(s:qY)(k:Nat)(h:k+1<s.size):s.data.toList.drop k=s[k]::s[k+1]::s.data.toList.drop (k+2):=by
 grind [pF]
theorem zah(x y:Nat)(hx:x<16)(hy:y<16):bits .or .i64 ((x:Int)*16) (y:Int)=((16*x+y:Nat):Int):=by
 have:=zdy ⟨x,hx⟩ ⟨y,hy⟩
 grind
theorem CO{B}{w v}(h:Below B w v)(n):Below B w (v.drewN n):=h.trans ⟨rfl,rfl,rfl,uL _,fun _ _=>rfl⟩
theorem GT(s)(w)(hs:s.size<=1000000)(h2:s.size % 2=0):
  qC 372 #[.string s] w (qR (.tuple #[.string ⟨((nU s.data.toList).getD []).toArray⟩,.bool (nU s.data.toList).isSome]) w):=by
 obtain ⟨i0,hi,aD,aw,aH⟩:=info_parts infoByte;generalize hR:nU s.data.toList=R;have HR:=Lib.hid hR;clear hR;have e2:((s.size:Int) % 2 !=0)=false:=zm;go_enter func372,ntmps372;go_wp2_with (at_make;refine wpList_make_own _ rfl _ _ 141 rfl w.heap.size 5 i0 (.int .u8 0) 1 underlying141 hi aD aw .i64 .i64 _ (s.size / 2) rfl rfl zj (by rw [aH];omega) yt zg ?_;intro w0 bd d7);clear e2;go_loopw [4,5] (fun v i wr=>∃(k n:Nat) (done:qU),k<=s.size/\k=2*n/\done.length=n/\i=qI (k:Nat)/\wr.ownsRow w.heap.size 5 1 v n (ni done)/\qL w wr/\Hid ((nU (s.data.toList.drop k)).map (done++ ·)=R)) (fun _ i _=>s.size - (intOf i).toNat)
 case atStart=>exact ⟨0,0,[],uW _,rfl,rfl,rfl,bd,(uM _ _).grown d7 zg (fun k hk=>by simp at hk),Lib.hid (by rw [<-HR.o];simp)⟩
 case round=>
  obtain ⟨k,n,done,hk,cE,bw,rfl,hown,hB,HD⟩:=hrel;have HK:=Lib.hid cE;have HL:=Lib.hid bw;clear bd d7 HR bw;by_cases hlt:k<s.size
  ·have hlt1:k+1<s.size:=by omega
   clear cE;have hdt:qlt k s.size=true:=zm;have ea:IntKind.i64.wrap ((k:Int)+1)=(k:Int)+1:=zw;have eb:(0:Int)<=(k:Int)+1:=zj;have ec:(k:Int)+1<(s.size:Int):=zj;have ed:((k:Int)+1).toNat=k+1:=zj;have HU:Hid ((nU (s[k]::s[k+1]::s.data.toList.drop (k+2))).map (done++ ·)=R):=Lib.hid (by rw [<-TN s k hlt1];exact HD.o);clear HD
   cases hx:Md s[k] with
   | none=>
    have HE:=Lib.hid (by have:=HU.o;simp only [nU,hx,Option.map_none] at this;exact this.symm)
    have z1:Mh s[k]= -1:=by unfold Mh;rw [hx]
    obtain ⟨y,hy⟩:∃y,Mh s[k+1]=y:=⟨_,rfl⟩
    have HZ:=Lib.hid (And.intro z1 hy);clear hx z1 hy;exact ke9
   | some x=>
    have hx16:=Bi _ _ hx
    have z1:Mh s[k]=(x:Int):=by unfold Mh;rw [hx]
    cases hy:Md s[k+1] with
    | none=>
     have HE:=Lib.hid (by have:=HU.o;simp only [nU,hx,hy,Option.map_none] at this;exact this.symm)
     have z2:Mh s[k+1]= -1:=by unfold Mh;rw [hy]
     have HZ:=Lib.hid (And.intro z1 z2);clear hx hy z1 z2;exact ke9
    | some y=>
     have hy16:=Bi _ _ hy
     have z2:Mh s[k+1]=(y:Int):=by unfold Mh;rw [hy]
     have HE:Hid ((nU (s.data.toList.drop (k+2))).map ((done++ [UInt8.ofNat (16*x+y)])++ ·)=R):=Lib.hid (by
      have:=HU.o
      simp only [nU,hx,hy,Option.map_map] at this
      rw [<-this]
      congr 1
      funext l
      simp)
     have HZ:=Lib.hid (And.intro z1 z2);have hor:=zah x y hx16 hy16
     obtain ⟨c,hc⟩:∃c:UInt8,UInt8.ofNat (16*x+y)=c:=⟨_,rfl⟩
     have hcn:((16*x+y:Nat):Int)=(c.toNat:Int):=by rw [<-hc];simp;omega
     rw [hcn] at hor;rw [hc] at HE;have hc256:=c.toNat_lt;clear hx hy z1 z2 HU hc hcn;go_wp2_with fail;go_quiet (first | (go_at_call 382;first | exact Calls.quiet_of_same (Jz _ _ _ HZ.o.1) | exact Calls.quiet_of_same (Jz _ _ _ HZ.o.2)));have ik:(wr.drewN nq).ownsRow w.heap.size 5 1 _ n (ni done):=hown;have hBq:=CO hB nq
     generalize wr.drewN nq=wq at ik hBq |-
     clear hown hB;have hzB:=hBq.size;have hn5:n<=500000:=xW;go_wp2_with (at_builtin;refine wpList_append_own _ rfl _ _ 141 rfl w.heap.size 5 i0 (.int .u8 0) 1 1 underlying141 hi aD aw aH rfl zo _ _ _ rfl (ik.alloc _) _ 1 1 [.int .u8 (c.toNat:Int)] rfl rfl (cell_one_new _ _ _) qZ yt zj zm ?_;intro v' w5 hown5 hgrow5 _);refine ⟨⟨k+2,n+1,done++ [c],zj,xW,by have:=HL.o;simp;omega,zN,by rw [oc];exact hown5,(hBq.alloc hzB _).grown hgrow5 zm (fun k hk=>(ik.lt k hk).1),HE⟩,?_⟩;simp [intOf];omega
  have hdt:qlt k s.size=false:=zm;have HE:=Lib.hid (by have:=HD.o;rw [show k=s.size by omega,AU] at this;simpa [nU] using this.symm);have jS:=JD hown HL.o;go_wp2;go_ret2;exact ⟨by rw [HE.o];rfl,hB⟩
theorem CL(s)(w)(hs:s.size<=1000000):
  qC 372 #[.string s] w (qR (.tuple #[.string ⟨((nU s.data.toList).getD []).toArray⟩,.bool (nU s.data.toList).isSome]) w):=by
 by_cases h2:s.size % 2=0
 ·exact GT s w hs h2
 have e2:((s.size:Int) % 2 !=0)=true:=zm;rw [NJ s.data.toList.length s.data.toList rfl zm];go_enter func372,ntmps372;go_wp2;go_ret2;exact ⟨rfl,uM _ _⟩
theorem zb3(D:Nat)(hD:D<=18)(s:qY)(w:qW)(h1:1<=s.size)(h4:s.size<=D)(hz:¬(s[0].toNat=48/\1<s.size)):
  qC 150 #[.string s,qN D] w fun e w'=>e=qT #[qI ((mN 0 s.data.toList).getD 0:Nat),.bool (mN 0 s.data.toList).isSome]/\w'=w:=by
 have fq:0<s.size:=h1;have d1:decide ((s.size:Int)<1)=false:=zm
 have hc:(((s[0].toNat:Int)==48)=true/\decide (1<(s.size:Int))=false)\/(((s[0].toNat:Int)==48)=false/\True):=by
  by_cases e:s[0].toNat=48
  ·refine .inl ⟨by simp [e],?_⟩;simp;omega
  refine .inr ⟨?_,trivial⟩;simp;omega
 have H4:=Lib.hid h4;generalize hR:mN 0 s.data.toList=R;have HR:=Lib.hid hR
 rcases hc with ⟨e0,d5⟩ | ⟨e0,d5⟩
 ·go_enter func150,ntmps150;go_wp2;go_loop [6,30] (fun n i=>∃k v:Nat,k<=s.size/\i=qI k/\n=qI v/\Hid (mN v (s.data.toList.drop k)=R)/\v<10^k) (fun _ i=>s.size - (intOf i).toNat)
  case atStart=>exact ⟨0,0,uW _,rfl,rfl,Lib.hid qq,zr⟩
  case round=>
   obtain ⟨k,v,hk,rfl,rfl,HD,hv⟩:=hrel;by_cases hlt:k<s.size
   ·have hd:qlt k s.size=true:=by simp;omega
    by_cases hdig:48<=s[k].toNat/\s[k].toNat<=57
    ·obtain ⟨g1,g2⟩:=hdig;have l1:decide ((s[k].toNat:Int)<48)=false:=zm;have l2:decide (57<(s[k].toNat:Int))=false:=zm
     have hk3:k<18:=by have:=H4.o;omega
     have hv3:=Vl k v hv hk3
     have HE:=Lib.hid (by
      have:=HD.o
      rw [pF s k hlt,mN,if_neg zj] at this
      exact this)
     have HV:=Lib.hid (Jp k v (s[k].toNat - 48) hv zj);go_wp2;go_round
     case rel=>exact ⟨k+1,10*v+(s[k].toNat - 48),zj,zN,zN,HE,HV.o⟩
     case measure=>simp [intOf];omega
    have HN:=Lib.hid (by
     have:=HD.o
     rw [pF s k hlt,mN,if_pos zj] at this
     exact this.symm)
    by_cases bC:s[k].toNat<48
    ·have l1:decide ((s[k].toNat:Int)<48)=true:=by simp;omega
     exact kf6
    have l1:decide ((s[k].toNat:Int)<48)=false:=zm;have l2:decide (57<(s[k].toNat:Int))=true:=zm;exact kf6
   have hd:qlt k s.size=false:=zm
   have HN:=Lib.hid (by
    have:=HD.o
    rw [show k=s.size by omega,AU,mN] at this
    exact this.symm)
   exact kf6
 go_enter func150,ntmps150;go_wp2;go_loop [6,30] (fun n i=>∃k v:Nat,k<=s.size/\i=qI k/\n=qI v/\Hid (mN v (s.data.toList.drop k)=R)/\v<10^k) (fun _ i=>s.size - (intOf i).toNat)
 case atStart=>exact ⟨0,0,uW _,rfl,rfl,Lib.hid qq,zr⟩
 case round=>
  obtain ⟨k,v,hk,rfl,rfl,HD,hv⟩:=hrel;by_cases hlt:k<s.size
  ·have hd:qlt k s.size=true:=by simp;omega
   by_cases hdig:48<=s[k].toNat/\s[k].toNat<=57
   ·obtain ⟨g1,g2⟩:=hdig;have l1:decide ((s[k].toNat:Int)<48)=false:=zm;have l2:decide (57<(s[k].toNat:Int))=false:=zm
    have hk3:k<18:=by have:=H4.o;omega
    have hv3:=Vl k v hv hk3
    have HE:=Lib.hid (by
     have:=HD.o
     rw [pF s k hlt,mN,if_neg zj] at this
     exact this)
    have HV:=Lib.hid (Jp k v (s[k].toNat - 48) hv zj);go_wp2;go_round
    case rel=>exact ⟨k+1,10*v+(s[k].toNat - 48),zj,zN,zN,HE,HV.o⟩
    case measure=>simp [intOf];omega
   have HN:=Lib.hid (by
    have:=HD.o
    rw [pF s k hlt,mN,if_pos zj] at this
    exact this.symm)
   by_cases bC:s[k].toNat<48
   ·have l1:decide ((s[k].toNat:Int)<48)=true:=by simp;omega
    exact kf6
   have l1:decide ((s[k].toNat:Int)<48)=false:=zm;have l2:decide (57<(s[k].toNat:Int))=true:=zm;exact kf6
  have hd:qlt k s.size=false:=zm
  have HN:=Lib.hid (by
   have:=HD.o
   rw [show k=s.size by omega,AU,mN] at this
   exact this.symm)
  exact kf6
theorem Uz(D)(hD:D<=18)(s:qY)(w)(h:s.size<1\/D<s.size):
  qC 150 #[.string s,qN D] w fun e w'=>e=qT #[qI 0,.bool false]/\w'=w:=by
 rcases h with h | h
 ·have d1:decide ((s.size:Int)<1)=true:=by simp;omega
  go_enter func150,ntmps150;go_wp2;go_ret2;exact ki2
 have d1:decide ((s.size:Int)<1)=false:=zm;go_enter func150,ntmps150;go_wp2;go_ret2;exact ki2
theorem zan(D:Nat)(s:qY)(w:qW)(h1:1<s.size)(h4:s.size<=D)(hz:s[0].toNat=48):
  qC 150 #[.string s,qN D] w fun e w'=>e=qT #[qI 0,.bool false]/\w'=w:=by
 have fq:0<s.size:=zj;have d1:decide ((s.size:Int)<1)=false:=zm;have d5:decide (1<(s.size:Int))=true:=zm;go_enter func150,ntmps150;go_wp2;go_ret2;exact ki2
theorem WH{s:qY}(h1:1<=s.size)(h4:s.size<=D)(hz:¬(s[0].toNat=48/\1<s.size)):rP D s.data.toList=mN 0 s.data.toList:=by
 have h0:s.data.toList.getD 0 0=s[0]:=by
  have:=pF s 0 h1;rw [List.drop_zero] at this;rw [this];rfl
 have hl:s.data.toList.length=s.size:=zr;unfold rP
 grind
theorem UP{D}{s:qY}(h:s.size<1\/D<s.size):rP D s.data.toList=none:=by
 have hl:s.data.toList.length=s.size:=zr;unfold rP
 grind
theorem NW{s:qY}(h1:1<s.size)(hz:s[0].toNat=48):rP D s.data.toList=none:=by
 have h0:s.data.toList.getD 0 0=s[0]:=by
  have:=pF s 0 zj;rw [List.drop_zero] at this;rw [this];rfl
 simp_all [rP,if_pos]
theorem Ci(D:Nat)(hD:D<=18)(s)(w):
  qC 150 #[.string s,qN D] w fun e w'=>e=qT #[qI ((rP D s.data.toList).getD 0:Nat),.bool (rP D s.data.toList).isSome]/\w'=w:=by
 by_cases h:s.size<1\/D<s.size
 ·rw [UP h];exact Uz D hD s w h
 by_cases hz:(s[0]'zj).toNat=48
 ·by_cases h1:1<s.size
  ·rw [NW h1 hz];exact zan D s w h1 zj hz
  exact kl6
 exact kl6
theorem Sp.abd:(prog.info? 9).map (fun i=>(i.zero,i.size,i.bytes))=some (some (.string ⟨#[]⟩),1,16):=zk
def Sp.aa5(s:qY)(fr k:Nat):qU:=(s.data.toList.drop fr).take (k - fr)
theorem Sp.aci(s:qY)(fr k:Nat)(h:fr<=k)(hk:k<s.size):aa5 s fr (k+1)=aa5 s fr k++ [s[k]]:=by
 unfold aa5;have hb:=pF s k hk;have e:k+1 - fr=(k - fr)+1:=zj;rw [e,Zy,ZO,show fr+(k - fr)=k by omega];congr 1
 have:s.data.toList[k]? =some s[k]:=by
  have:=congrArg List.head? hb;simpa [List.head?_drop] using this
 rw [this];rfl
theorem Sp.abC(s)(k):aa5 s k k= []:=by simp [aa5]
theorem Sp.aaH(s)(fr k)(_h:fr<=k):(s.extract fr k).data.toList=aa5 s fr k:=by
 rw [Lib.extract_data];rfl
structure Sp.aan (s:qY) (w0:qW) (o:Value) (k fr:Nat) (P:List ByteArray) (w:qW):Prop where
 I8:w.ownsRow w0.heap.size 9 1 o P.length (P.map Value.string)
 m8:qL w0 w
 D4:P.length<=k
 cut:P.map (·.data.toList)++hd (aa5 s fr k) (nF 32 (s.data.toList.drop k))=nF 32 s.data.toList
theorem Sp.aan.dot{s:qY}{w0 w:qW}(h:aan s w0 o k fr P w)(hf:fr<=k)(hk:k<s.size)(fD:s[k]=32):
  (P++ [s.extract fr k]).map (·.data.toList)++hd (aa5 s (k+1) (k+1)) (nF 32 (s.data.toList.drop (k+1)))=nF 32 s.data.toList:=by
 have:=h.cut;rw [pF s k hk,fD,rK] at this
 grind [abC,WX,pO,aaH,hd]
theorem Sp.aan.on{s:qY}{w0 w:qW}(h:aan s w0 o k fr P w)(hf:fr<=k)(hk:k<s.size)(fD:s[k]≠32):
  aan s w0 o (k+1) fr P w:=by
 refine ⟨h.I8,h.m8,by have:=h.D4;omega,?_⟩;have:=h.cut
 grind [pF,nC,zc0,pO,aci]
theorem Sp.aan.acq{s}{w0 w}{o}{k fr}{P}(h:aan s w0 o k fr P w)(hf:fr<=k)(hk:k=s.size):
  (P++ [s.extract fr s.size]).map (·.data.toList)=nF 32 s.data.toList:=by
 have:=h.cut
 grind [AU,aaH,nF,hd]
theorem Sp.aby{w0 wr w5}{o v'}{P}{b}{ob}(bd:wr.ownsRow w0.heap.size 9 1 o P.length (P.map Value.string))(hb0:qL w0 wr)
  (hown:w5.ownsRow w0.heap.size 9 1 v' (P.length+1) (P.map Value.string++ [.string b])) (hg:(wr.alloc ob).grownBy w5 o.ownBlock):
  w5.ownsRow w0.heap.size 9 1 v' (P++ [b]).length ((P++ [b]).map Value.string)/\qL w0 w5:=by
 refine ⟨by simpa using hown,?_⟩;exact (hb0.alloc hb0.size _).grown hg (by have:=hb0.size;simp;omega) (fun k hk=>(bd.lt k hk).1)
theorem Sp.ac6(s:qY)(k:Nat)(hk:k<s.size):((s[k].toNat:Int)==32)=decide (s[k]=32):=by
 by_cases h:s[k]=32
 ·simp [h]
 have:¬s[k].toNat=32:=fun e=>h (UInt8.toNat_inj.1 e)
 grind
theorem Sp.ab4(s)(w)(hs:s.size<=70000):
  qC 8 #[.string s,.int .u8 32] w fun e w'=>∃(v:Value) (P:List ByteArray),e= .returned v/\w'.ownsRow w.heap.size 9 1 v P.length (P.map Value.string)/\P.map (·.data.toList)=nF 32 s.data.toList/\qL w w':=by
 obtain ⟨i0,hi,aD,aw,aH⟩:=info_parts abd;go_enter func8,ntmps8;go_wp2;go_loopw [5,6,7] (fun o f i wr=>∃k fr P,k<=s.size/\fr<=k/\i=qI (k:Nat)/\f=qI (fr:Nat)/\aan s w o k fr P wr) (fun _ _ i _=>s.size - (intOf i).toNat)
 case atStart=>exact ⟨0,0,[],uW _,uL _,rfl,rfl,⟨Zi _ _ _ _,uM _ _,uL _,by rw [abC,WX _ (pO _ _)];simp⟩⟩
 case round=>
  obtain ⟨k,fr,P,hk,hf,rfl,rfl,hC⟩:=hrel;by_cases hlt:k<s.size
  ·have bw:qlt k s.size=true:=by simp;omega
   have h46:=ac6 s k hlt;by_cases fD:s[k]=32
   ·rw [decide_eq_true fD] at h46;have HC:=Lib.hid (hC.dot hf hlt fD);go_wp2_with (at_builtin;refine wpList_append_own _ rfl _ _ 22 rfl w.heap.size 9 i0 (.string ⟨#[]⟩) 1 16 underlying22 hi aD aw aH rfl zo _ _ _ rfl (hC.I8.alloc _) _ 1 1 [.string (s.extract fr k)] rfl rfl (cell_one_new _ _ _) qZ (by unfold maxLen;have:=hC.D4;omega) (by have:=hC.D4;omega) (by have:=hC.m8.size;simp;omega) ?_;intro v' w5 hown ag _;have hN:=aby hC.I8 hC.m8 hown ag;clear hown ag);refine ⟨⟨k+1,k+1,P++ [s.extract fr k],zj,uL _,zN,zN,⟨hN.1,hN.2,by have:=hC.D4;simp;omega,HC.o⟩⟩,?_⟩;simp [intOf];omega
   rw [decide_eq_false fD] at h46;have hC':=hC.on hf hlt fD;go_wp2;refine ⟨⟨k+1,fr,P,zj,zj,zN,rfl,hC'⟩,?_⟩;simp [intOf];omega
  have bw:qlt k s.size=false:=zm;have HC:=Lib.hid (hC.acq hf zj);go_wp2_with (at_builtin;refine wpList_append_own _ rfl _ _ 22 rfl w.heap.size 9 i0 (.string ⟨#[]⟩) 1 16 underlying22 hi aD aw aH rfl zo _ _ _ rfl (hC.I8.alloc _) _ 1 1 [.string (s.extract fr s.size)] rfl rfl (cell_one_new _ _ _) qZ (by unfold maxLen;have:=hC.D4;omega) (by have:=hC.D4;omega) (by have:=hC.m8.size;simp;omega) ?_;intro v' w5 hown ag _;have hN:=aby hC.I8 hC.m8 hown ag;clear hown ag);go_ret;exact ⟨v',P++ [s.extract fr s.size],rfl,hN.1,HC.o,hN.2⟩
end
section
abbrev CLt(a b:Int×Int):Prop:=a.1<b.1\/(a.1=b.1/\a.2<b.2)
theorem DP{a} :¬CLt a a:=by unfold CLt;omega
theorem wN{a b c}(h:CLt a b)(k:CLt b c):CLt a c:=zj
theorem zdD{a b}(h:¬CLt a b):b=a\/CLt b a:=by
 grind
abbrev Cb:=Int×ByteArray
abbrev pl:=ByteArray×(Int×Int)
abbrev Do:=Cb->Option pl
def noC:Do:=fun _=>none
def tA(f:Do)(k:Cb)(c:pl):Bool:=match f k with
 | none=>true
 | some o=>decide (CLt o.2 c.2)
def FO(f:Do)(m:Cb×pl):Do:=if tA f m.1 m.2 then fun k=>if k=m.1 then some m.2 else f k else f
def DT(l:List (Cb×pl))(f:Do):Do:=l.foldl FO f
theorem Dv(l)(m)(f):DT (l++ [m]) f=FO (DT l f) m:=by simp [DT]
theorem MS{f}{m}{k}(h:k≠m.1):FO f m k=f k:=by
 unfold FO;split
 ·exact if_neg h
 rfl
theorem NZ{f}{m}(h:f m.1=none):FO f m m.1=some m.2:=by
 unfold FO tA;rw [h];simp
theorem Pu{f}{m}{o}(h:f m.1=some o):FO f m m.1=if CLt o.2 m.2.2 then some m.2 else some o:=by
 unfold FO tA;rw [h];by_cases k:CLt o.2 m.2.2
 ·simp [k]
 simp [k,h]
def Sh(l:List (Cb×pl))(k:Cb)(r:Option pl):Prop:=match r with
 | none=>∀c,(k,c)∉l
 | some c=>(k,c)∈l/\∀d,(k,d)∈l->¬CLt c.2 d.2
theorem AI(l)(k):Sh l k (DT l noC k):=by
 have Y9:∀(n:Nat) (l:List (Cb×pl)),l.length=n->Sh l k (DT l noC k):=by
  intro n
  induction n with
  | zero=>
   intro l hn;obtain rfl:=Zg.1 hn
   exact fun c hc=>by simp at hc
  | succ n ih=>
   intro l hn
   obtain ⟨s,m,rfl⟩:∃s m,l=s++ [m]:=by
    refine ⟨l.dropLast,l.getLast zM,(List.dropLast_concat_getLast _).symm⟩
   have h:=ih s vm;rw [Dv];by_cases hk:k=m.1
   ·subst hk
    cases hf:DT s noC m.1 with
    | none=>
     rw [hf] at h;rw [NZ hf];refine ⟨zr,fun d hd=> ?_⟩
     rcases uV.1 hd with hd | hd
     ·exact absurd hd (h d)
     grind
    | some o=>
     rw [hf] at h;rw [Pu hf];by_cases hlt:CLt o.2 m.2.2
     ·rw [if_pos hlt];refine ⟨zr,fun d hd=> ?_⟩
      rcases uV.1 hd with hd | hd
      ·exact fun hc=>h.2 d hd (wN hlt hc)
      grind
     rw [if_neg hlt];refine ⟨Zm _ h.1,fun d hd=> ?_⟩
     rcases uV.1 hd with hd | hd
     ·exact h.2 d hd
     grind
   rw [MS hk]
   cases hf:DT s noC k with
   | none=>
    rw [hf] at h;intro c hc
    rcases uV.1 hc with hc | hc
    ·exact h c hc
    grind
   | some o=>
    rw [hf] at h;refine ⟨Zm _ h.1,fun d hd=> ?_⟩
    rcases uV.1 hd with hd | hd
    ·exact h.2 d hd
    grind
 exact Y9 _ l rfl
def zc5(l:List (Cb×pl)):Prop:=∀k c d,(k,c)∈l->(k,d)∈l->c.2=d.2->c=d
theorem OA{l r}{k}{x y}(hm:∀m,m∈l↔m∈r)(h1:zc5 l)(hx:Sh l k x)(hy:Sh r k y):x=y:=by
 cases x with
 | none=>
  cases y with
  | none=>rfl
  | some d=>exact absurd ((hm _).2 hy.1) (hx d)
 | some c=>
  cases y with
  | none=>exact absurd ((hm _).1 hx.1) (hy c)
  | some d=>
   have a1:=hx.2 d ((hm _).2 hy.1);have a2:=hy.2 c ((hm _).1 hx.1)
   rcases zdD a1 with e | e
   ·rw [h1 k c d hx.1 ((hm _).2 hy.1) e.symm]
   exact absurd e a2
theorem GS{l r}(hm:∀m,m∈l↔m∈r)(h1:zc5 l):DT l noC=DT r noC:=by
 funext k
 grind [OA,AI]
abbrev KLt(a b:Cb):Prop:=a.1<b.1\/(a.1=b.1/\a.2.data.toList<b.2.data.toList)
theorem Tc{a b:qY}(h:a.data.toList=b.data.toList):a=b:=by
 rcases a with ⟨⟨a⟩⟩
 simp_all
theorem AA{a b:qU}(h:a≠b):a<b\/b<a:=by
 grind
theorem Mv{a} :¬KLt a a:=by
 simp_all
theorem OC{a b c}(h:KLt a b)(k:KLt b c):KLt a c:=by
 grind
theorem QM{a b}(h:a≠b):KLt a b\/KLt b a:=by
 grind [Prod.ext,Tc,AA]
theorem tV{α:Type}{R}(irr:∀a,¬R a a)(tr:∀a b c,R a b->R b c->R a c):∀ {L M:List α},L.Pairwise R->M.Pairwise R->(∀p,p∈L↔p∈M)->L=M
 | [],[],_,_,_=>rfl
 | [],b::r,_,_,h=>by have:=(h b).2 zr;simp at this
 | a::r,[],_,_,h=>by have:=(h a).1 zr;simp at this
 | a::r,b::s,hl,hm,h=>by
  obtain ⟨h1,h2⟩:=Zz.1 hl;obtain ⟨k1,k2⟩:=Zz.1 hm
  have e:a=b:=by
   rcases uX.1 ((h a).1 zr) with e | ha
   ·exact e
   rcases uX.1 ((h b).2 zr) with e | hb
   ·exact e.symm
   exact absurd (tr _ _ _ (h1 b hb) (k1 a ha)) (irr a)
  subst e;rw [tV irr tr h2 k2 (fun p=> ?_)]
  grind
theorem Ft{f}{m}(h:tA f m.1 m.2=true):FO f m=fun k=>if k=m.1 then some m.2 else f k:=by unfold FO;rw [if_pos h]
theorem Kb{f}{m}(h:tA f m.1 m.2=false):FO f m=f:=by unfold FO;simp_all
abbrev Mrk:=Int×ByteArray×ByteArray
abbrev Ao(m:Mrk):Cb:=(m.1,m.2.1)
structure P9 (f:Do) (L:List Mrk):Prop where
 L3:L.Pairwise (fun a b=>KLt (Ao a) (Ao b))
 U5:∀p:Mrk,p∈L↔p.2.2.size≠0/\∃s,f (Ao p)=some (p.2.2,s)
theorem P9.q{f}{L M}(h:P9 f L)(k:P9 f M):L=M:=
 tV (R:=fun a b=>KLt (Ao a) (Ao b)) (fun _=>Mv) (fun _ _ _=>OC) h.L3 k.L3 (fun p=>(h.U5 p).trans (k.U5 p).symm)
structure zdA (f:Do) (L:List (Cb×pl)):Prop where
 L3:L.Pairwise (fun a b=>KLt a.1 b.1)
 U5:∀k c,(k,c)∈L↔f k=some c
def za7(m:Cb×pl):Mrk:=(m.1.1,m.1.2,m.2.1)
def zc7(m:Cb×pl):Bool:=decide (m.2.1.size≠0)
def U9(L:List (Cb×pl)):List Mrk:=(L.filter zc7).map za7
end
section
open RowKit
theorem SC{W w1}(hb:qL W w1):(∀b o,b<W.heap.size->w1.cell? (qA b o)=W.cell? (qA b o))/\(∀b o,b<W.heap.size->w1.frozen? (qA b o)=W.frozen? (qA b o)):=
 ⟨fun b o h=>hb.cell (p:=(qA b o)) h,fun b o h=>hb.frozen (p:=(qA b o)) h⟩
theorem BK(t b)(w)(h1:1<=t)(h2:t<=1073741824)(h3:0<=b)(h4:b<4):
  qC 153 #[.agg #[qI t,qI b]] w (qR .nilIface w):=by
 exact kc9
theorem EE(t b)(w)(eb)(hg:w.cell? (qB 0)=some eb)(hz:0<w.heap.size)(h:¬(1<=t/\t<=1073741824/\0<=b/\b<4)):
  qC 153 #[.agg #[qI t,qI b]] w (qR eb w):=by
 by_cases h1:1<=t
 ·by_cases h2:t<=1073741824
  ·by_cases h3:0<=b
   ·have h4:4<=b:=by omega
    have d4:decide (b<4)=false:=zm;exact kc9
   have h4:b<0:=zj;exact kc9
  have h4:1073741824<t:=zj;exact kc9
 have h4:t<1:=zj;exact kc9
theorem MZ(t b)(w)(h1:1<=t)(h2:t<=1073741824)(h3:0<=b)(h4:b<4):
  qC 114 #[.agg #[qI t,qI b]] w (qR (.tuple #[qI (t*4+b),.nilIface]) w):=by
 go_enter func114,ntmps114;go_wp2_with (go_at_call 153;refine (BK _ _ _ h1 h2 h3 h4).mono ?_;rintro e w1 ⟨rfl,hb⟩;obtain ⟨hc,hf⟩:=SC hb);exact km1
theorem zcO(t b)(w)(u)(x)(hg:w.cell? (qB 0)=some (.iface u x))(hz:0<w.heap.size)(h:¬(1<=t/\t<=1073741824/\0<=b/\b<4)):
  qC 114 #[.agg #[qI t,qI b]] w (qR (.tuple #[qI 0,.iface u x]) w):=by
 have H:Hid (¬(1<=t/\t<=1073741824/\0<=b/\b<4)):=h;go_enter func114,ntmps114;go_wp2_with fail;refine (EE t b _ (.iface u x) (by rw [Yr _ _ _ hz];exact hg) yX H.o).mono ?_;rintro e w1 ⟨rfl,hb⟩;obtain ⟨hc,hf⟩:=SC hb;go_wp2;exact km1
theorem QZ(n)(w)(h1:4<=n)(h2:n<4294967300):
  qC 278 #[qI n] w (qR (.tuple #[.agg #[qI (n / 4),qI (n % 4)],.nilIface]) w):=by
 go_enter func278,ntmps278;go_wp2_with (go_at_call 153;refine (BK _ _ _ zj zj zj zj).mono ?_;rintro e w1 ⟨rfl,hb⟩;obtain ⟨hc,hf⟩:=SC hb);have c0:w1.cell? (qB w.heap.size)=some (qI 0):=uu;have c1:w1.cell? (qA w.heap.size 1)=some (qI 0):=uu;refine bodyPost_ret (v:=.tuple #[.agg #[qI (n / 4),qI (n % 4)],.nilIface]) uG rfl ⟨rfl,?_⟩;exact ((((zh _ _).alloc zr _).trans (hb.mono zm)).setCell zr _).setCell zr _
def Aq(a b:Int):Int:=if a<b then -1 else if b<a then 1 else 0
theorem zdz(a)(w):qC 242 #[qI a] w fun e w'=>e= .returned (.bool false)/\w'=w:=by
 go_enter func242,ntmps242;exact ka7
theorem BQ(a b)(w):qC 178 #[qI a,qI b] w fun e w'=>e= .returned (qI (Aq a b))/\w'=w:=by
 unfold Aq;by_cases h1:a<b
 ·have d1:=decide_eq_true h1;rw [if_pos h1];exact ke4
 have d1:=decide_eq_false h1;rw [if_neg h1];by_cases h2:b<a
 ·have d2:=decide_eq_true h2;rw [if_pos h2];exact ke4
 have d2:=decide_eq_false h2;rw [if_neg h2];exact ke4
def mx(a b:Int):Int:=max a b
end