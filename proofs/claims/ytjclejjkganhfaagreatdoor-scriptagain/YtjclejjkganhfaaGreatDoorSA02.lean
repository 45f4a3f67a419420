import Derived.Test.YtjclejjkganhfaaGreatDoorMacB
import Derived.Test.YtjclejjkganhfaaGreatDoorSA01
import Derived.Lib.Split
import Derived.Lib.Join
import Derived.Lib.ItoaNum
import Derived.Lib.IndexBytes
import Derived.WalkSpells
import Derived.LoopN
import Derived.LoopTactic
import Derived.Lib.Hide
import Derived.Maps.AppendAt
import Derived.Laws.AppendOwn
import Derived.Laws.IdiomStrings
import Derived.Deep.RegionHeld3
import Derived.Maps.OwnSet
import Derived.Maps.RangeWalk
import Derived.DeepKeys4
import Derived.LaidEql
import Derived.Sort.Grow
import Derived.Lib.AppendIntMem
import Derived.Laws.OwnMore
import Derived.OrdersHeld
set_option linter.unusedSimpArgs false
set_option linter.unusedVariables false
set_option maxRecDepth 100000
set_option maxHeartbeats 64000000
namespace Go.Proofs.YtjclejjkganhfaaGreatDoor
open Go.Proofs.Tryz
section
def hd(cur:qU):List qU->List qU
 | []=>[cur]
 | p::ps=>(cur++p)::ps
theorem Ct(a)(x)(hx:x≠ []):(hd a x).length=x.length:=by
 cases x with
 | nil=>exact absurd rfl hx
 | cons p ps=>simp [hd]
def mI:Nat->qU->Option Nat
 | n,[]=>some n
 | n,c::r=>if c.toNat<48\/57<c.toNat then none else mI (10*n+(c.toNat - 48)) r
def pq(D:Nat)(l:qU):Option Nat:=if l.length<1\/D<l.length\/(l.getD 0 0).toNat=48/\1<l.length then none else mI 0 l
abbrev RV:=Option (Nat⊕(Nat×Nat×Nat×Nat))
def nk(p:UInt8):qU->List qU
 | []=>[[]]
 | c::r=>if c=p then []::nk p r else hd [c] (nk p r)
theorem Au(p)(l):nk p l≠ []:=by
 cases l with
 | nil=>simp [nk]
 | cons c r=>
  unfold nk;split
  ·simp
  cases nk p r<;>simp [hd]
theorem wg(p)(r):nk p (p::r)= []::nk p r:=by simp [nk]
theorem oO(p c)(r)(h:c≠p):nk p (c::r)=hd [c] (nk p r):=by simp [nk,h]
theorem DG(p)(l):(nk p l).length<=l.length+1:=by
 induction l with
 | nil=>simp [nk]
 | cons c r ih=>
  grind [wg,oO,Ct,Au]
theorem CT(p)(l):Lib.splitK [p] 0 0 l= [l]:=rfl
theorem EZ(p)(k):Lib.splitK [p] 0 k []= [[]]:=by
 cases k with
 | zero=>rfl
 | succ k=>unfold Lib.splitK;rfl
theorem QB(p)(k)(l):Lib.splitK [p] 0 k l≠ []:=by
 cases k with
 | zero=>simp [Lib.splitK]
 | succ k=>unfold Lib.splitK;split<;>simp
theorem ET(p)(k)(r):Lib.splitK [p] 0 (k+1) (p::r)= []::Lib.splitK [p] 0 k r:=by
 have h:Lib.index (p::r) [p]=0:=by rw [Lib.index_one];simp [Lib.indexByte]
 rw [Lib.splitK,if_neg (by rw [h];simp),h];simp
theorem Ah(p)(k)(c)(r)(hc:c≠p):Lib.splitK [p] 0 (k+1) (c::r)=hd [c] (Lib.splitK [p] 0 (k+1) r):=by
 have h:Lib.index (c::r) [p]=if Lib.index r [p]== -1 then -1 else Lib.index r [p]+1:=by
  rw [Lib.index_one,Lib.index_one];simp [Lib.indexByte,hc]
 have g:=Lib.index_ge r [p];by_cases h1:Lib.index r [p]= -1
 ·rw [if_pos (by simp [h1])] at h
  have e1:Lib.splitK [p] 0 (k+1) (c::r)= [c::r]:=by unfold Lib.splitK;simp [h]
  have e2:Lib.splitK [p] 0 (k+1) r= [r]:=by unfold Lib.splitK;simp [h1]
  rw [e1,e2];simp [hd]
 rw [if_neg (by simp [h1])] at h
 obtain ⟨n,hn⟩:∃n:Nat,Lib.index r [p]=n:=⟨(Lib.index r [p]).toNat,zj⟩
 rw [hn] at h
 have e1:Lib.splitK [p] 0 (k+1) (c::r)=(c::r.take n)::Lib.splitK [p] 0 k (r.drop (n+1)):=by
  rw [Lib.splitK,if_neg (by rw [h];simp;omega),h];have:((n:Int)+1).toNat=n+1:=zj;simp [this]
 have e2:Lib.splitK [p] 0 (k+1) r=r.take n::Lib.splitK [p] 0 k (r.drop (n+1)):=by
  rw [Lib.splitK,if_neg yq,hn];simp
 rw [e1,e2];simp [hd]
theorem Fu(p)(l):∀k,(Lib.splitK [p] 0 k l).length=min (k+1) (nk p l).length:=by
 induction l with
 | nil=>intro k;rw [EZ];simp [nk]
 | cons c r ih=>
  intro k
  cases k with
  | zero=>
   have:=Au p (c::r);have:=YI.2 this;rw [CT];simp;omega
  | succ k=>
   grind [ET,wg,Ah,oO,Ct,QB,Au]
theorem RP(p)(l):∀k,(nk p l).length<=k+1->Lib.splitK [p] 0 k l=nk p l:=by
 induction l with
 | nil=>intro k _;rw [EZ];rfl
 | cons c r ih=>
  intro k hk;by_cases h:c=p
  ·subst h
   rw [wg] at hk |-
   have h0:=YI.2 (Au c r)
   cases k with
   | zero=>simp_all
   | succ k=>rw [ET,ih k (by simpa using hk)]
  rw [oO p c r h] at hk |-
  rw [Ct _ _ (Au p r)] at hk
  cases k with
  | zero=>
   grind [CT,hd]
  | succ k=>rw [Ah p k c r h,ih (k+1) hk]
theorem nK(p)(a b)(h:p∉a):nk p (a++p::b)=a::nk p b:=by
 induction a with
 | nil=>simp [nk]
 | cons c r ih=>
  grind [oO,hd]
theorem ss(p)(a)(h:p∉a):nk p a= [a]:=by
 induction a with
 | nil=>simp [nk]
 | cons c r ih=>
  grind [oO,hd]
def pA(p:UInt8):List qU->qU
 | []=>[]
 | [a]=>a
 | a::b::r=>a++p::pA p (b::r)
theorem OW(p)(a)(x)(h:x≠ []):pA p (a::x)=a++p::pA p x:=by
 cases x with
 | nil=>exact absurd rfl h
 | cons b r=>rfl
theorem TP(p)(c)(x)(h:x≠ []):pA p (hd [c] x)=c::pA p x:=by
 cases x with
 | nil=>exact absurd rfl h
 | cons b r=>
  cases r with
  | nil=>simp [hd,pA]
  | cons d r=>simp [hd,pA]
theorem Na(p)(l):pA p (nk p l)=l:=by
 induction l with
 | nil=>simp [nk,pA]
 | cons c r ih=>
  grind [wg,OW,Au,oO,TP]
theorem Mk(p)(a0 a1 a2 a3 a4 a5 a6 a7):Lib.join [a0,a1,a2,a3,a4,a5,a6,a7] [p]=pA p [a0,a1,a2,a3,a4,a5,a6,a7]:=by
 simp [Lib.join_cons,Lib.joinTail,pA]
theorem Cp(x)(c):∀a,mI a (x++ [c])=(mI a x).bind fun v=>if c.toNat<48\/57<c.toNat then none else some (10*v+(c.toNat - 48)):=by
 induction x with
 | nil=>intro a;simp [mI]
 | cons d r ih=>
  grind [mI]
theorem Qo(x):∀a v,mI a x=some v->a<=v:=by
 induction x with
 | nil=>intro a v h;simp [mI] at h;omega
 | cons d r ih=>
  grind [mI]
theorem NU(n):mI 0 (Lib.decDigits n)=some n:=by
 induction n using Nat.strongRecOn with
 | _ n ih=>
  rw [Lib.decDigits];split
  ·rename_i h;have e:(UInt8.ofNat (48+n)).toNat=48+n:=zl;simp only [mI]
   grind
  rename_i h;have e:(UInt8.ofNat (48+n % 10)).toNat=48+n % 10:=zl;rw [Cp,ih (n / 10) zj]
  grind
theorem Hb(n):∀c∈Lib.decDigits n,48<=c.toNat/\c.toNat<=57:=by
 induction n using Nat.strongRecOn with
 | _ n ih=>
  intro c hc;rw [Lib.decDigits] at hc;split at hc
  ·have e:(UInt8.ofNat (48+n)).toNat=48+n:=by simp;omega
   grind
  have e:(UInt8.ofNat (48+n % 10)).toNat=48+n % 10:=zl
  grind
theorem Wp(n):Lib.decDigits n≠ []:=by
 rw [Lib.decDigits];split<;>simp
theorem TL(n)(h:10<=n):((Lib.decDigits n).getD 0 0).toNat≠48:=by
 induction n using Nat.strongRecOn with
 | _ n ih=>
  rw [Lib.decDigits,dif_neg zj];have hne:=Wp (n / 10)
  have e:(Lib.decDigits (n / 10)++ [UInt8.ofNat (48+n % 10)]).getD 0 0=(Lib.decDigits (n / 10)).getD 0 0:=by
   cases hd:Lib.decDigits (n / 10) with
   | nil=>exact absurd hd hne
   | cons c r=>rfl
  rw [e];by_cases h2:n / 10<10
  ·rw [Lib.decDigits,dif_pos h2];have e:(UInt8.ofNat (48+n / 10)).toNat=48+n / 10:=zl
   show (UInt8.ofNat (48+n / 10)).toNat≠48
   rw [e];omega
  grind
theorem Xg(D):∀n,n<10^(D+1)->(Lib.decDigits n).length<=D+1:=by
 induction D with
 | zero=>intro n h;rw [Lib.decDigits,dif_pos zj];simp
 | succ D ih=>
  intro n h;rw [Lib.decDigits]
  grind
theorem Vj(D n)(h:n<10^(D+1)):pq (D+1) (Lib.decDigits n)=some n:=by
 unfold pq;have h1:=YI.2 (Wp n);have h2:=Xg D n h;rw [if_neg,NU];rintro (h3 | h3 | ⟨h3,h4⟩)
 ·omega
 ·omega
 by_cases kU:10<=n
 ·exact TL n kU h3
 rw [Lib.decDigits,dif_pos zj] at h4;simp at h4
theorem ru(D)(a)(h0:0<=a)(h:a.toNat<10^(D+1)):pq (D+1) (Lib.itoa a)=some a.toNat:=by
 rw [Lib.itoa,if_neg zj];exact Vj D _ h
theorem tb(a)(p)(hp:57<p.toNat)(h0:0<=a):p∉Lib.itoa a:=by
 rw [Lib.itoa,if_neg zj];intro hm;have:=Hb _ _ hm;omega
theorem zcF(x):∀n v,x.length=n->mI 0 x=some v->x≠ []->(x.getD 0 0).toNat≠48->Lib.decDigits v=x:=by
 intro n
 induction n generalizing x with
 | zero=>simp_all
 | succ n ih=>
  intro v hl hd hne hz
  obtain ⟨y,c,rfl⟩:∃y c,x=y++ [c]:=⟨x.dropLast,x.getLast hne,(List.dropLast_concat_getLast hne).symm⟩
  rw [Cp] at hd
  cases hv:mI 0 y with
  | none=>simp_all
  | some u=>
   rw [hv] at hd;simp only [Option.bind_some] at hd;by_cases hc:c.toNat<48\/57<c.toNat
   ·simp_all
   rw [if_neg hc] at hd;have hd:=Option.some.inj hd;by_cases hy:y= []
   ·subst hy;simp [mI] at hv;subst hv;rw [Lib.decDigits,dif_pos zj];have:48+v=c.toNat:=zj;rw [this];simp
   have hy0:((y++ [c]).getD 0 0)=y.getD 0 0:=by
    cases y with
    | nil=>exact absurd rfl hy
    | cons b r=>rfl
   rw [hy0] at hz
   have hu:1<=u:=by
    cases y with
    | nil=>exact absurd rfl hy
    | cons b r=>
     simp only [mI] at hv;split at hv
     ·cases hv
     have:=Qo _ _ _ hv
     grind
   have:=ih y u qx hv hy hz;rw [Lib.decDigits,dif_neg zj,show v / 10=u by omega,this,show 48+v % 10=c.toNat by omega];simp
theorem wG(D)(l)(v)(h:pq D l=some v):Lib.decDigits v=l:=by
 unfold pq at h;split at h
 ·cases h
 rename_i hc
 have hne:l≠ []:=fun e=>hc (.inl zM)
 by_cases hz:(l.getD 0 0).toNat=48
 ·have hl:¬1<l.length:=fun e=>hc (.inr (.inr ⟨hz,e⟩))
  match l,hne with
  | [c],_=>
   have hz:c.toNat=48:=hz;simp [mI,hz] at h;subst h;rw [Lib.decDigits,dif_pos zj];have:c=48:=UInt8.toNat_inj.1 hz;subst this;rfl
  | _::_::_,_=>simp at hl
 exact zcF l _ v rfl h hne hz
theorem za9(l):∀a v,mI a l=some v->v<(a+1)*10^l.length:=by
 induction l with
 | nil=>intro a v h;simp [mI] at h;simp;omega
 | cons c r ih=>
  intro a v h;simp only [mI] at h;split at h
  ·cases h
  have:=ih _ _ h;have h2:(10*a+(c.toNat - 48)+1)*10^r.length<=(10*(a+1))*10^r.length:=ZK _ zj
  grind
theorem Dv(D)(l)(v)(h:pq D l=some v):v<10^D:=by
 unfold pq at h;split at h
 ·cases h
 rename_i hc;have h1:=za9 l 0 v h;have h2:10^l.length<=10^D:=Nat.pow_le_pow_right zo zj;omega
def AU(n:Nat):UInt8:=UInt8.ofNat (if n<10 then 48+n else 87+n)
def Co:qU->qU
 | []=>[]
 | c::r=>AU (c.toNat / 16)::AU (c.toNat % 16)::Co r
def Nr(c:UInt8):Option Nat:=if 48<=c.toNat/\c.toNat<=57 then some (c.toNat - 48) else if 97<=c.toNat/\c.toNat<=102 then some (c.toNat - 87) else none
def nV:qU->Option qU
 | []=>some []
 | [_]=>none
 | a::b::r=>
  match Nr a with
  | none=>none
  | some x=>match Nr b with
   | none=>none
   | some y=>(nV r).map fun l=>UInt8.ofNat (16*x+y)::l
theorem wW:∀n:Fin 16,Nr (AU n)=some n.1/\AU n≠124:=qb
theorem Sb:∀c:Fin 256,∀x:Fin 16,Nr (UInt8.ofNat c)=some x.1->AU x=UInt8.ofNat c:=qb
theorem Cv(c)(x)(h:Nr c=some x):x<16:=by
 grind [Nr]
theorem zbc(c)(x)(h:Nr c=some x):AU x=c:=by
 have:=Sb ⟨c.toNat,c.toNat_lt⟩ ⟨x,Cv c x h⟩
 simp_all
theorem Oo(l):nV (Co l)=some l:=by
 induction l with
 | nil=>rfl
 | cons c r ih=>
  have hc:=c.toNat_lt;have h1:=(wW ⟨c.toNat / 16,zj⟩).1;have h2:=(wW ⟨c.toNat % 16,zj⟩).1;simp only at h1 h2;simp only [Co,nV,h1,h2,ih,YD];congr 2;rw [show 16*(c.toNat / 16)+c.toNat % 16=c.toNat by omega];simp
theorem TE(l):(124:UInt8)∉Co l:=by
 induction l with
 | nil=>simp [Co]
 | cons c r ih=>
  have hc:=c.toNat_lt;have h1:=(wW ⟨c.toNat / 16,zj⟩).2;have h2:=(wW ⟨c.toNat % 16,zj⟩).2;simp only at h1 h2;simp only [Co,uZ,not_or]
  grind
theorem tM(l):(Co l).length=2*l.length:=by
 induction l with
 | nil=>rfl
 | cons c r ih=>simp [Co,ih];omega
theorem Sg(n):∀l:qU,l.length=n->n % 2=1->nV l=none:=by
 induction n using Nat.strongRecOn with
 | _ n ih=>
  intro l hl hn
  match l,hl with
  | [],hl=>simp at hl;omega
  | [_],_=>rfl
  | a::b::r,hl=>
   grind [Zd,nV]
theorem Ri(n):∀l v:qU,l.length=n->nV l=some v->Co v=l:=by
 induction n using Nat.strongRecOn with
 | _ n ih=>
  intro l v hl h
  match l,hl,h with
  | [],_,h=>simp [nV] at h;subst h;rfl
  | [_],_,h=>simp [nV] at h
  | a::b::r,hl,h=>
   simp only [Zd] at hl;simp only [nV] at h
   cases ha:Nr a with
   | none=>rw [ha] at h;cases h
   | some x=>
    rw [ha] at h;simp only at h
    cases hb:Nr b with
    | none=>rw [hb] at h;cases h
    | some y=>
     rw [hb] at h;simp only at h
     cases hr:nV r with
     | none=>rw [hr] at h;cases h
     | some u=>
      rw [hr] at h;have h:=Option.some.inj h;subst h;have h1:=Cv _ _ ha;have h2:=Cv _ _ hb;have e:(UInt8.ofNat (16*x+y)).toNat=16*x+y:=zl
      grind [Co,zbc]
def oU(c:UInt8):Bool:=decide (97<=c.toNat/\c.toNat<=122\/48<=c.toNat/\c.toNat<=57\/c.toNat=45\/c.toNat=46)
def Hz(c:UInt8):Bool:=decide (32<=c.toNat/\c.toNat<=126)
def mr(l:qU):Bool:=decide (1<=l.length) &&decide (l.length<=12) &&l.all oU
def DN(l:qU):Bool:=l.all Hz
def nC(id l8 other:Int)(name value:qU):Nat:=if l8<2\/id<l8\/other<0\/id<=other then 3 else if mr name=false then 4 else if value≠ [] then 3 else 0
def Du(id l8 other:Int)(name value:qU):Nat:=if l8<0\/id<=l8\/other<0\/id<=other then 3 else if name≠ [] then 4 else if value.length≠1\/DN value=false then 3 else 0
def FO(id l8 other:Int)(name value:qU):Nat:=if l8<0\/id<=l8\/other<0\/id<=other\/other=0 then 3 else if name≠ [] then 4 else if value≠ [] then 3 else 0
def En(id l8 other:Int)(name value:qU):Nat:=if l8<0\/id<=l8\/other≠0 then 3 else if mr name=false then 4 else if 12<value.length\/DN value=false then 3 else 0
def AG(id:Int)(k:Nat)(l8 other:Int)(name value:qU):Nat:=
 if k=109 then nC id l8 other name value else if k=105 then Du id l8 other name value else if k=100 then FO id l8 other name value else if k=115 then En id l8 other name value else 5
def opE(t b n:Int)(k:Nat)(l8 other:Int)(name value:qU):Nat:=
 if 1<=t/\t<=1073741824/\0<=b/\b<4/\1<=n/\n<=400 then AG (t*4+b) k l8 other name value else 2
theorem mP{t b n}{k}{l8 other}{name value}(h:opE t b n k l8 other name value=0):
  1<=t/\t<=1073741824/\0<=b/\b<4/\1<=n/\n<=400/\(k=109\/k=105\/k=100\/k=115)/\0<=l8/\l8<=t*4+b/\0<=other/\other<=t*4+b/\(124:UInt8)∉name/\name.length<=12/\value.length<=12:=by
 have nm:mr name=true->(124:UInt8)∉name/\name.length<=12:=fun hn=>by
  unfold mr at hn;simp only [Yk,decide_eq_true_eq] at hn;refine ⟨fun hm=> ?_,hn.1.2⟩;have:=List.all_eq_true.1 hn.2 _ hm;revert this;decide
 unfold opE at h;split at h
 ·rename_i hc;obtain ⟨h1,h2,h3,h4,h5,h6⟩:=hc;unfold AG at h;split at h
  ·grind [nC]
  split at h
  ·grind [Du]
  split at h
  ·rename_i hk;unfold FO at h;split at h
   ·cases h
   split at h
   ·cases h
   rename_i hn;split at h
   ·cases h
   rename_i hv;have hn:=Decidable.not_not.1 hn;have hv:=Decidable.not_not.1 hv;subst hn hv;exact ⟨h1,h2,h3,h4,h5,h6,.inr (.inr (.inl hk)),zj,zj,zj,zj,zq,zq,zq⟩
  grind [En]
 cases h
def ou(t b n:Int)(k:Nat)(l8 other:Int)(name value:qU):qU:=
 pA 124 [[UInt8.ofNat k],Lib.itoa t,Lib.itoa b,Lib.itoa n,Lib.itoa l8,Lib.itoa other,name,Co value]
abbrev zbr:=UInt8×Nat×Nat×Nat×Nat×Nat×qU×qU
def DK(c:UInt8)(p1 p2 p3 p4 p5 nm hx:qU):Option zbr:=
 match pq 10 p1 with
 | none=>none
 | some n1=>match pq 10 p2 with
  | none=>none
  | some n2=>match pq 10 p3 with
   | none=>none
   | some n3=>match pq 10 p4 with
    | none=>none
    | some n4=>match pq 10 p5 with
     | none=>none
     | some n5=>match nV hx with
      | none=>none
      | some v=>some (c,n1,n2,n3,n4,n5,nm,v)
def nQ(l:qU):Option zbr:=
 match nk 124 l with
 | [[c],p1,p2,p3,p4,p5,nm,hx]=>DK c p1 p2 p3 p4 p5 nm hx
 | _=>none
theorem BZ{l p1 p2 p3 p4 p5 nm hx}{c}(h:nk 124 l= [[c],p1,p2,p3,p4,p5,nm,hx]):nQ l=DK c p1 p2 p3 p4 p5 nm hx:=by simp [nQ,h]
theorem NP{l}(h:(nk 124 l).length≠8):nQ l=none:=by
 unfold nQ;split
 ·simp_all
 rfl
theorem JE{l p0 p1 p2 p3 p4 p5 nm hx}(h:nk 124 l= [p0,p1,p2,p3,p4,p5,nm,hx])(h0:p0.length≠1):nQ l=none:=by
 grind [nQ]
theorem Lw{t b n}{k}{l8 other}{name value}(h:opE t b n k l8 other name value=0):
  nQ (ou t b n k l8 other name value)=some (UInt8.ofNat k,t.toNat,b.toNat,n.toNat,l8.toNat,other.toNat,name,value):=by
 obtain ⟨h1,h2,h3,h4,h5,h6,hk,h7,h8,h9,kU,hn,-,-⟩:=mP h;have hp:(57:Nat)<(124:UInt8).toNat:=zo
 have iW:(124:UInt8)∉ [UInt8.ofNat k]:=by
  rcases hk with rfl | rfl | rfl | rfl<;>decide
 have hc:nk 124 (ou t b n k l8 other name value)= [[UInt8.ofNat k],Lib.itoa t,Lib.itoa b,Lib.itoa n,Lib.itoa l8,Lib.itoa other,name,Co value]:=by
  unfold ou;simp only [pA];rw [nK _ _ _ iW,nK _ _ _ (tb t _ hp zj),nK _ _ _ (tb b _ hp zj),nK _ _ _ (tb n _ hp zj),nK _ _ _ (tb l8 _ hp zj),nK _ _ _ (tb other _ hp zj),nK _ _ _ hn,ss _ _ (TE value)]
 rw [BZ hc];unfold DK;rw [ru 9 t zj zj,ru 9 b zj zj,ru 9 n zj zj,ru 9 l8 zj zj,ru 9 other zj zj,Oo]
theorem EL{l nm v}{c}{n1 n2 n3 n4 n5}(h:nQ l=some (c,n1,n2,n3,n4,n5,nm,v)):ou n1 n2 n3 c.toNat n4 n5 nm v=l:=by
 have it:∀m:Nat,Lib.itoa (m:Int)=Lib.decDigits m:=fun m=>by rw [Lib.itoa,if_neg zj];rfl
 unfold nQ at h;split at h
 ·rename_i c' p1 p2 p3 p4 p5 nm' hx hc;unfold DK at h;split at h
  ·cases h
  rename_i m1 e1;split at h
  ·cases h
  rename_i m2 e2;split at h
  ·cases h
  rename_i m3 e3;split at h
  ·cases h
  rename_i m4 e4;split at h
  ·cases h
  rename_i m5 e5;split at h
  ·cases h
  rename_i v' ev;simp only [Option.some.injEq,Prod.mk.injEq] at h;obtain ⟨rfl,rfl,rfl,rfl,rfl,rfl,rfl,rfl⟩:=h;unfold ou;rw [it,it,it,it,it,wG _ _ _ e1,wG _ _ _ e2,wG _ _ _ e3,wG _ _ _ e4,wG _ _ _ e5,Ri _ _ _ rfl ev];rw [UInt8.ofNat_toNat,<-hc,Na]
 cases h
end
section
open RowKit
theorem rk(s:qY)(k:Nat)(h:k<s.size):s.data.toList.drop k=s[k]::s.data.toList.drop (k+1):=by
 have hl:k<s.data.toList.length:=xo;rw [Yg hl];simp;rfl
theorem CC(s:qY):s.data.toList.drop s.size= []:=by
 simp_all
theorem Wc(k v)(h:v<10^k)(hk:k<18):v<100000000000000000:=by
 have:10^k<=10^17:=Nat.pow_le_pow_right zo zj;omega
theorem LO(k v d)(h:v<10^k)(hd:d<10):10*v+d<10^(k+1):=by
 omega
theorem FW(n id)(w)(h0:0<=n)(h1:n<id):
  qC 325 #[qI n,qI id] w fun e w'=>e= .returned (.bool true)/\w'=w:=by
 go_enter func325,ntmps325;exact ka7
theorem IB(n id)(w)(h:n<0\/id<=n):
  qC 325 #[qI n,qI id] w fun e w'=>e= .returned (.bool false)/\w'=w:=by
 by_cases h0:n<0
 ·clear h;go_enter func325,ntmps325;exact ka7
 have h1:id<=n:=zj;have h2:0<=n:=zj;have d:decide (n<id)=false:=zl;go_enter func325,ntmps325;exact ka7
theorem zcC(c)(w):
  qC 259 #[.int .u8 (c.toNat:Int)] w fun e w'=>e= .returned (.bool (oU c))/\w'=w:=by
 have hb:oU c=decide (97<=(c.toNat:Int)/\(c.toNat:Int)<=122\/48<=(c.toNat:Int)/\(c.toNat:Int)<=57\/(c.toNat:Int)=45\/(c.toNat:Int)=46):=by
  unfold oU;rw [decide_eq_decide];omega
 rw [hb];generalize (c.toNat:Int)=x
 rcases (by omega:122<x\/(97<=x/\x<=122)\/(57<x/\x<97)\/(48<=x/\x<=57)\/x=46\/x=45\/(x<48/\x≠46/\x≠45)) with h | ⟨h,h'⟩ | ⟨h,h'⟩ | ⟨h,h'⟩ | h | h | ⟨h,h',h''⟩
 ·rw [decide_eq_false zj];have d1:decide (x<=122)=false:=zl;have d2:decide (x<=57)=false:=zl;have e1:(x==45)=false:=zl;have e2:(x==46)=false:=zl;go_enter func259,ntmps259;exact ka7
 ·rw [decide_eq_true zj];go_enter func259,ntmps259;exact ka7
 ·rw [decide_eq_false zj];have d1:decide (97<=x)=false:=zl;have d2:decide (x<=57)=false:=zl;have e1:(x==45)=false:=zl;have e2:(x==46)=false:=zl;go_enter func259,ntmps259;exact ka7
 ·rw [decide_eq_true zj];have d1:decide (97<=x)=false:=zl;go_enter func259,ntmps259;exact ka7
 ·subst h;go_enter func259,ntmps259;exact ka7
 ·subst h;go_enter func259,ntmps259;exact ka7
 rw [decide_eq_false zj];have d1:decide (97<=x)=false:=zl;have d2:decide (48<=x)=false:=zl;have e1:(x==45)=false:=zl;have e2:(x==46)=false:=zl;go_enter func259,ntmps259;exact ka7
theorem QM(s:qY)(f:UInt8->Bool)(k:Nat)(h:k<s.size):(s.data.toList.drop k).all f=(f s[k] &&(s.data.toList.drop (k+1)).all f):=by
 rw [rk s k h,List.all_cons]
theorem Ke(s)(w)(hs:s.size<=1000000):
  qC 206 #[.string s] w fun e w'=>e= .returned (.bool (mr s.data.toList))/\w'=w:=by
 have hl:s.data.toList.length=s.size:=zq;by_cases h1:s.size<1
 ·have d1:decide ((s.size:Int)<1)=true:=by simp;omega
  have hr:mr s.data.toList=false:=by unfold mr;rw [hl,decide_eq_false zj];rfl
  rw [hr];go_enter func206,ntmps206;exact ka7
 by_cases h2:12<s.size
 ·have d1:decide ((s.size:Int)<1)=false:=by simp;omega
  have d2:decide (12<(s.size:Int))=true:=zl
  have hr:mr s.data.toList=false:=by unfold mr;rw [hl,decide_eq_false (show ¬s.size<=12 by omega)];simp
  rw [hr];go_enter func206,ntmps206;exact ka7
 have d1:decide ((s.size:Int)<1)=false:=zl;have d2:decide (12<(s.size:Int))=false:=zl
 have hr:mr s.data.toList=s.data.toList.all oU:=by unfold mr;rw [hl,decide_eq_true (show s.size<=12 by omega),decide_eq_true (show 1<=s.size by omega)];rfl
 rw [hr];generalize hR:s.data.toList.all oU=R;have HR:=Lib.hid hR;go_enter func206,ntmps206;go_wp2;go_loop [14] (fun i=>∃k:Nat,k<=s.size/\i=qI k/\Hid ((s.data.toList.drop k).all oU=R)) (fun i=>s.size - (intOf i).toNat)
 case atStart=>exact ⟨0,uW _,rfl,Lib.hid yY⟩
 case round=>
  obtain ⟨k,hk,rfl,HD⟩:=hrel;by_cases hlt:k<s.size
  ·have hd:qlt k s.size=true:=by simp;omega
   have HA:=Lib.hid ((QM s oU k hlt).symm.trans HD.o);go_wp2_with fail;refine (zcC _ _).mono ?_;rintro e w' ⟨rfl,rfl⟩
   cases hb:oU s[k] with
   | true=>
    have HE:=Lib.hid yc;go_wp2;go_round
    case rel=>exact ⟨k+1,zj,zJ,HE⟩
    case measure=>simp [intOf];omega
   | false=>
    have HE:=Lib.hid uG;go_wp2;go_ret;exact ⟨by rw [HE.o];rfl,rfl⟩
  exact kg6
theorem UQ(s)(w)(hs:s.size<=1000000):
  qC 326 #[.string s] w fun e w'=>e= .returned (.bool (DN s.data.toList))/\w'=w:=by
 unfold DN;generalize hR:s.data.toList.all Hz=R;have HR:=Lib.hid hR;go_enter func326,ntmps326;go_wp2;go_loop [6] (fun i=>∃k:Nat,k<=s.size/\i=qI k/\Hid ((s.data.toList.drop k).all Hz=R)) (fun i=>s.size - (intOf i).toNat)
 case atStart=>exact ⟨0,uW _,rfl,Lib.hid yY⟩
 case round=>
  obtain ⟨k,hk,rfl,HD⟩:=hrel;by_cases hlt:k<s.size
  ·have hd:qlt k s.size=true:=by simp;omega
   have HA:=Lib.hid ((QM s Hz k hlt).symm.trans HD.o);by_cases g1:s[k].toNat<32
   ·have l1:decide ((s[k].toNat:Int)<32)=true:=by simp;omega
    exact kf4
   have l1:decide ((s[k].toNat:Int)<32)=false:=zl;by_cases g2:126<s[k].toNat
   ·have l2:decide (126<(s[k].toNat:Int))=true:=by simp;omega
    exact kf4
   have l2:decide (126<(s[k].toNat:Int))=false:=zl
   have HE:=Lib.hid (by
    have:=HA.o
    rw [show Hz s[k]=true by unfold Hz;rw [decide_eq_true zj],Bool.true_and] at this
    exact this)
   go_wp2;go_round
   case rel=>exact ⟨k+1,zj,zJ,HE⟩
   case measure=>simp [intOf];omega
  exact kg6
theorem infoByte:(prog.info? 5).map (fun i=>(i.zero,i.size,i.bytes))=some (some (.int .u8 0),1,1):=zk
def nr(l:qU):List Value:=l.map fun c=>.int .u8 (c.toNat:Int)
theorem Wm(x)(w)(h0:0<=x)(h1:x<16):(Instr.index 9 (.string ⟨#[48,49,50,51,52,53,54,55,56,57,97,98,99,100,101,102]⟩) (.int .u8 x)).run prog w= .ok (.int .u8 ((AU x.toNat).toNat:Int)) w:=by
 rcases (show x=0\/x=1\/x=2\/x=3\/x=4\/x=5\/x=6\/x=7\/x=8\/x=9\/x=10\/x=11\/x=12\/x=13\/x=14\/x=15 by omega) with rfl | rfl | rfl | rfl | rfl | rfl | rfl | rfl | rfl | rfl | rfl | rfl | rfl | rfl | rfl | rfl
 all_goals kernel_rfl
theorem zdE:∀c:Fin 256,bits .and .u8 (c.1:Int) 15=((c.1 % 16:Nat):Int):=qb
theorem zez:∀x y:Fin 16,bits .or .i64 ((16*x.1:Nat):Int) (y.1:Int)=((16*x.1+y.1:Nat):Int):=qb
theorem Xq(c:UInt8)(w):(Instr.index 9 (.string ⟨#[48,49,50,51,52,53,54,55,56,57,97,98,99,100,101,102]⟩) (.int .u8 ((c.toNat:Int) / 16))).run prog w= .ok (.int .u8 ((AU (c.toNat / 16)).toNat:Int)) w:=by
 have:=c.toNat_lt
 grind [Wm]
theorem zcD(c:UInt8)(w):(Instr.index 9 (.string ⟨#[48,49,50,51,52,53,54,55,56,57,97,98,99,100,101,102]⟩) (.int .u8 (bits .and .u8 (c.toNat:Int) 15))).run prog w= .ok (.int .u8 ((AU (c.toNat % 16)).toNat:Int)) w:=by
 have:=c.toNat_lt;have e:=Wm ((c.toNat % 16:Nat):Int) w zj zj;have e2:=zdE ⟨c.toNat,this⟩
 grind
theorem oe(a b):nr (a++b)=nr a++nr b:=by simp [nr]
theorem KP{w}{l9}{v}{n}{l}(h:w.ownsRow l9 5 1 v n (nr l))(hl:l.length=n):
  Sem.run prog (convert 141 9 v) w= .ok (.string ⟨l.toArray⟩) w:=by
 rcases Nat.eq_zero_or_pos n with h0 | h0
 ·have cU:l= []:=Zi.1 zj;subst cU
  rcases h.2 with ⟨hv,_⟩ | ⟨g,cap,cur,hv,_⟩
  ·exact kl3
  grind [run_convert_bytes_back,underlying141,underlying5,underlying9]
 obtain ⟨g,cap,rfl,-,-⟩:=h.form h0;have hc:=h.cells (g:=g) rfl
 grind [run_convert_bytes_back,underlying141,underlying5,underlying9,nr,uL]
theorem Ur(s:qY)(k:Nat)(h:k<s.size)(done R:qU)(hd:done++Co (s.data.toList.drop k)=R):(done++ [AU (s[k].toNat / 16),AU (s[k].toNat % 16)])++Co (s.data.toList.drop (k+1))=R:=by
 grind [rk,Co]
theorem Ij(s)(w)(hs:s.size<=1000000):
  qC 230 #[.string s] w (qR (.string ⟨(Co s.data.toList).toArray⟩) w):=by
 obtain ⟨i0,hi,aD,aw,aJ⟩:=info_parts infoByte;generalize hR:Co s.data.toList=R;have HR:=Lib.hid hR;go_enter func230,ntmps230;go_wp2_with (at_make;refine wpList_make_own _ rfl _ _ 141 rfl w.heap.size 5 i0 (.int .u8 0) 1 underlying141 hi aD aw .i64 .i64 _ (2*s.size) rfl rfl zj (by rw [aJ];omega) yu zg ?_;intro w0 bF dZ);go_loopw [3,11] (fun v i wr=>∃(k n:Nat) (done:qU),k<=s.size/\n=2*k/\done.length=n/\i=qI (k:Nat)/\wr.ownsRow w.heap.size 5 1 v n (nr done)/\qL w wr/\Hid (done++Co (s.data.toList.drop k)=R)) (fun _ i _=>s.size - (intOf i).toNat)
 case atStart=>exact ⟨0,0,[],uW _,rfl,rfl,rfl,bF,(uO _ _).grown dZ zg (fun k hk=>by simp at hk),Lib.hid yY⟩
 case round=>
  obtain ⟨k,n,done,hk,rfl,bG,rfl,hown,hB,HD⟩:=hrel;by_cases hlt:k<s.size
  ·have hdt:qlt k s.size=true:=by simp;omega
   have HE:=Lib.hid (Ur s k hlt done R HD.o);have HL:=Lib.hid bG;have x1:=Xq s[k];have x2:=zcD s[k];have hzB:=hB.size;generalize hc1:AU (s[k].toNat / 16)=c1 at x1 HE;generalize hc2:AU (s[k].toNat % 16)=c2 at x2 HE;go_wp2_with fail
   go_region_held3 (fun _=>True) (trivial)
    ((refine step_append_lies _ zt _ _ _ zt w.heap.size 5 i0 _ 1 1 underlying141 hi aD aw aJ rfl zj _ (2*k) (nr done) zt ((hown.alloc _).drew) (qB wr.heap.size) 2 2 [.int .u8 (c1.toNat:Int),.int .u8 (c2.toNat:Int)] zt zt (YJ (cs:= #[.int .u8 (c1.toNat:Int),.int .u8 (c2.toNat:Int)]) (t:=5) (fr:=(0,0)) (heap_alloc_new wr _)) xj zj yu zj zl (wr.heap.size+1) zq ?_;intro gg cap w1 aQ ag aI hlt1))
   all_goals go_wp2
   all_goals
    refine ⟨⟨k+1,2*(k+1),done++ [c1,c2],zj,rfl,by have:=HL.o;simp;omega,zJ,by rw [oe];exact aQ,(hB.alloc hB.size _).drew.grown ag zl (fun k hk=>(hown.lt k hk).1),HE⟩,?_⟩;simp [intOf];omega
  have hdl':qlt k s.size=false:=zl;have HE:=Lib.hid (by have:=HD.o;rw [show k=s.size by omega,CC] at this;simpa [Co] using this.symm);have i7:=KP hown bG;go_wp2;go_ret;exact ⟨by rw [HE.o];rfl,hB⟩
def Nq(c:UInt8):Int:=match Nr c with
 | none=> -1
 | some x=>(x:Int)
theorem WP:∀c:Fin 256,Lib.indexByte [48,49,50,51,52,53,54,55,56,57,97,98,99,100,101,102] (UInt8.ofNat c.1)=Nq (UInt8.ofNat c.1):=qb
theorem zbj(c)(w):qC 382 #[.string ⟨#[48,49,50,51,52,53,54,55,56,57,97,98,99,100,101,102]⟩,.int .u8 (c.toNat:Int)] w fun e w'=>e= .returned (qI (Nq c))/\w'=w:=by
 have h:=Tryz.strings_IndexByte ⟨#[48,49,50,51,52,53,54,55,56,57,97,98,99,100,101,102]⟩ (c.toNat:Int) w;have e:=WP ⟨c.toNat,c.toNat_lt⟩;simp only [UInt8.ofNat_toNat] at e;have e2:((c.toNat:Int).toNat).toUInt8=c:=zq;rw [e2] at h;have e3:(⟨#[48,49,50,51,52,53,54,55,56,57,97,98,99,100,101,102]⟩:qY).data.toList= [48,49,50,51,52,53,54,55,56,57,97,98,99,100,101,102]:=rfl;rw [e3,e] at h;exact h
theorem Kx(c)(z)(w)(hz:Nq c=z):qC 382 #[.string ⟨#[48,49,50,51,52,53,54,55,56,57,97,98,99,100,101,102]⟩,.int .u8 (c.toNat:Int)] w fun e w'=>e= .returned (qI z)/\w'=w:=by rw [<-hz];exact zbj c w
theorem VL(s:qY)(k:Nat)(h:k+1<s.size):s.data.toList.drop k=s[k]::s[k+1]::s.data.toList.drop (k+2):=by
 grind [rk]
theorem zaV(x y:Nat)(hx:x<16)(hy:y<16):bits .or .i64 ((x:Int)*16) (y:Int)=((16*x+y:Nat):Int):=by
 have:=zez ⟨x,hx⟩ ⟨y,hy⟩
 grind
theorem Cm{B}{w v}(h:Below B w v)(n):Below B w (v.drewN n):=h.trans ⟨rfl,rfl,rfl,uM _,fun _ _=>rfl⟩
theorem Ga(s)(w)(hs:s.size<=1000000)(h2:s.size % 2=0):
  qC 372 #[.string s] w (qR (.tuple #[.string ⟨((nV s.data.toList).getD []).toArray⟩,.bool (nV s.data.toList).isSome]) w):=by
 obtain ⟨i0,hi,aD,aw,aJ⟩:=info_parts infoByte;generalize hR:nV s.data.toList=R;have HR:=Lib.hid hR;clear hR;have e2:((s.size:Int) % 2 !=0)=false:=zl;go_enter func372,ntmps372;go_wp2_with (at_make;refine wpList_make_own _ rfl _ _ 141 rfl w.heap.size 5 i0 (.int .u8 0) 1 underlying141 hi aD aw .i64 .i64 _ (s.size / 2) rfl rfl zj (by rw [aJ];omega) yu zg ?_;intro w0 bF dZ);clear e2;go_loopw [4,5] (fun v i wr=>∃(k n:Nat) (done:qU),k<=s.size/\k=2*n/\done.length=n/\i=qI (k:Nat)/\wr.ownsRow w.heap.size 5 1 v n (nr done)/\qL w wr/\Hid ((nV (s.data.toList.drop k)).map (done++ ·)=R)) (fun _ i _=>s.size - (intOf i).toNat)
 case atStart=>exact ⟨0,0,[],uW _,rfl,rfl,rfl,bF,(uO _ _).grown dZ zg (fun k hk=>by simp at hk),Lib.hid (by rw [<-HR.o];simp)⟩
 case round=>
  obtain ⟨k,n,done,hk,cC,bG,rfl,hown,hB,HD⟩:=hrel;have HK:=Lib.hid cC;have HL:=Lib.hid bG;clear bF dZ HR bG;by_cases hlt:k<s.size
  ·have hlt1:k+1<s.size:=by omega
   clear cC;have hdt:qlt k s.size=true:=zl;have ea:IntKind.i64.wrap ((k:Int)+1)=(k:Int)+1:=zw;have eb:(0:Int)<=(k:Int)+1:=zj;have ec:(k:Int)+1<(s.size:Int):=zj;have ed:((k:Int)+1).toNat=k+1:=zj;have HU:Hid ((nV (s[k]::s[k+1]::s.data.toList.drop (k+2))).map (done++ ·)=R):=Lib.hid (by rw [<-VL s k hlt1];exact HD.o);clear HD
   cases hx:Nr s[k] with
   | none=>
    have HE:=Lib.hid (by have:=HU.o;simp only [nV,hx,Option.map_none] at this;exact this.symm)
    have z1:Nq s[k]= -1:=by unfold Nq;rw [hx]
    obtain ⟨y,hy⟩:∃y,Nq s[k+1]=y:=⟨_,rfl⟩
    have HZ:=Lib.hid (And.intro z1 hy);clear hx z1 hy;exact kf3
   | some x=>
    have hx16:=Cv _ _ hx
    have z1:Nq s[k]=(x:Int):=by unfold Nq;rw [hx]
    cases hy:Nr s[k+1] with
    | none=>
     have HE:=Lib.hid (by have:=HU.o;simp only [nV,hx,hy,Option.map_none] at this;exact this.symm)
     have z2:Nq s[k+1]= -1:=by unfold Nq;rw [hy]
     have HZ:=Lib.hid (And.intro z1 z2);clear hx hy z1 z2;exact kf3
    | some y=>
     have hy16:=Cv _ _ hy
     have z2:Nq s[k+1]=(y:Int):=by unfold Nq;rw [hy]
     have HE:Hid ((nV (s.data.toList.drop (k+2))).map ((done++ [UInt8.ofNat (16*x+y)])++ ·)=R):=Lib.hid (by
      have:=HU.o
      simp only [nV,hx,hy,Option.map_map] at this
      rw [<-this]
      congr 1
      funext l
      simp)
     have HZ:=Lib.hid (And.intro z1 z2);have hor:=zaV x y hx16 hy16
     obtain ⟨c,hc⟩:∃c:UInt8,UInt8.ofNat (16*x+y)=c:=⟨_,rfl⟩
     have hcn:((16*x+y:Nat):Int)=(c.toNat:Int):=by rw [<-hc];simp;omega
     rw [hcn] at hor;rw [hc] at HE;have hc256:=c.toNat_lt;clear hx hy z1 z2 HU hc hcn;go_wp2_with fail;go_quiet (first | (go_at_call 382;first | exact Calls.quiet_of_same (Kx _ _ _ HZ.o.1) | exact Calls.quiet_of_same (Kx _ _ _ HZ.o.2)));have ib:(wr.drewN nq).ownsRow w.heap.size 5 1 _ n (nr done):=hown;have hBq:=Cm hB nq
     generalize wr.drewN nq=wq at ib hBq |-
     clear hown hB;have hzB:=hBq.size;have hn5:n<=500000:=xW;go_wp2_with (at_builtin;refine wpList_append_own _ rfl _ _ 141 rfl w.heap.size 5 i0 (.int .u8 0) 1 1 underlying141 hi aD aw aJ rfl zo _ _ _ rfl (ib.alloc _) _ 1 1 [.int .u8 (c.toNat:Int)] rfl rfl (cell_one_new _ _ _) (by intro u hu;simp at hu;subst hu;rfl) yu zj zl ?_;intro v' w5 hown5 hgrow5 _);refine ⟨⟨k+2,n+1,done++ [c],zj,xW,by have:=HL.o;simp;omega,zJ,by rw [oe];exact hown5,(hBq.alloc hzB _).grown hgrow5 zl (fun k hk=>(ib.lt k hk).1),HE⟩,?_⟩;simp [intOf];omega
  have hdt:qlt k s.size=false:=zl;have HE:=Lib.hid (by have:=HD.o;rw [show k=s.size by omega,CC] at this;simpa [nV] using this.symm);have i7:=KP hown HL.o;go_wp2;go_ret2;exact ⟨by rw [HE.o];rfl,hB⟩
theorem Cb(s)(w)(hs:s.size<=1000000):
  qC 372 #[.string s] w (qR (.tuple #[.string ⟨((nV s.data.toList).getD []).toArray⟩,.bool (nV s.data.toList).isSome]) w):=by
 by_cases h2:s.size % 2=0
 ·exact Ga s w hs h2
 have e2:((s.size:Int) % 2 !=0)=true:=zl;rw [Sg s.data.toList.length s.data.toList rfl zl];go_enter func372,ntmps372;go_wp2;go_ret2;exact ⟨rfl,uO _ _⟩
theorem zcl(D:Nat)(hD:D<=18)(s:qY)(w:qW)(h1:1<=s.size)(h4:s.size<=D)(hz:¬(s[0].toNat=48/\1<s.size)):
  qC 150 #[.string s,qN D] w fun e w'=>e=qT #[qI ((mI 0 s.data.toList).getD 0:Nat),.bool (mI 0 s.data.toList).isSome]/\w'=w:=by
 have fP:0<s.size:=h1;have d1:decide ((s.size:Int)<1)=false:=zl
 have hc:(((s[0].toNat:Int)==48)=true/\decide (1<(s.size:Int))=false)\/(((s[0].toNat:Int)==48)=false/\True):=by
  by_cases e:s[0].toNat=48
  ·refine .inl ⟨by simp [e],?_⟩;simp;omega
  refine .inr ⟨?_,trivial⟩;simp;omega
 have H4:=Lib.hid h4;generalize hR:mI 0 s.data.toList=R;have HR:=Lib.hid hR
 rcases hc with ⟨e0,d5⟩ | ⟨e0,d5⟩
 ·go_enter func150,ntmps150;go_wp2;go_loop [6,30] (fun n i=>∃k v:Nat,k<=s.size/\i=qI k/\n=qI v/\Hid (mI v (s.data.toList.drop k)=R)/\v<10^k) (fun _ i=>s.size - (intOf i).toNat)
  case atStart=>exact ⟨0,0,uW _,rfl,rfl,Lib.hid yY,zq⟩
  case round=>
   obtain ⟨k,v,hk,rfl,rfl,HD,hv⟩:=hrel;by_cases hlt:k<s.size
   ·have hd:qlt k s.size=true:=by simp;omega
    by_cases hdig:48<=s[k].toNat/\s[k].toNat<=57
    ·obtain ⟨g1,g2⟩:=hdig;have l1:decide ((s[k].toNat:Int)<48)=false:=zl;have l2:decide (57<(s[k].toNat:Int))=false:=zl
     have hk3:k<18:=by have:=H4.o;omega
     have hv3:=Wc k v hv hk3
     have HE:=Lib.hid (by
      have:=HD.o
      rw [rk s k hlt,mI,if_neg zj] at this
      exact this)
     have HV:=Lib.hid (LO k v (s[k].toNat - 48) hv zj);go_wp2;go_round
     case rel=>exact ⟨k+1,10*v+(s[k].toNat - 48),zj,zJ,zJ,HE,HV.o⟩
     case measure=>simp [intOf];omega
    have HN:=Lib.hid (by
     have:=HD.o
     rw [rk s k hlt,mI,if_pos zj] at this
     exact this.symm)
    by_cases bu:s[k].toNat<48
    ·have l1:decide ((s[k].toNat:Int)<48)=true:=by simp;omega
     exact kf9
    have l1:decide ((s[k].toNat:Int)<48)=false:=zl;have l2:decide (57<(s[k].toNat:Int))=true:=zl;exact kf9
   have hd:qlt k s.size=false:=zl
   have HN:=Lib.hid (by
    have:=HD.o
    rw [show k=s.size by omega,CC,mI] at this
    exact this.symm)
   exact kf9
 go_enter func150,ntmps150;go_wp2;go_loop [6,30] (fun n i=>∃k v:Nat,k<=s.size/\i=qI k/\n=qI v/\Hid (mI v (s.data.toList.drop k)=R)/\v<10^k) (fun _ i=>s.size - (intOf i).toNat)
 case atStart=>exact ⟨0,0,uW _,rfl,rfl,Lib.hid yY,zq⟩
 case round=>
  obtain ⟨k,v,hk,rfl,rfl,HD,hv⟩:=hrel;by_cases hlt:k<s.size
  ·have hd:qlt k s.size=true:=by simp;omega
   by_cases hdig:48<=s[k].toNat/\s[k].toNat<=57
   ·obtain ⟨g1,g2⟩:=hdig;have l1:decide ((s[k].toNat:Int)<48)=false:=zl;have l2:decide (57<(s[k].toNat:Int))=false:=zl
    have hk3:k<18:=by have:=H4.o;omega
    have hv3:=Wc k v hv hk3
    have HE:=Lib.hid (by
     have:=HD.o
     rw [rk s k hlt,mI,if_neg zj] at this
     exact this)
    have HV:=Lib.hid (LO k v (s[k].toNat - 48) hv zj);go_wp2;go_round
    case rel=>exact ⟨k+1,10*v+(s[k].toNat - 48),zj,zJ,zJ,HE,HV.o⟩
    case measure=>simp [intOf];omega
   have HN:=Lib.hid (by
    have:=HD.o
    rw [rk s k hlt,mI,if_pos zj] at this
    exact this.symm)
   by_cases bu:s[k].toNat<48
   ·have l1:decide ((s[k].toNat:Int)<48)=true:=by simp;omega
    exact kf9
   have l1:decide ((s[k].toNat:Int)<48)=false:=zl;have l2:decide (57<(s[k].toNat:Int))=true:=zl;exact kf9
  have hd:qlt k s.size=false:=zl
  have HN:=Lib.hid (by
   have:=HD.o
   rw [show k=s.size by omega,CC,mI] at this
   exact this.symm)
  exact kf9
theorem Tl(D)(hD:D<=18)(s:qY)(w)(h:s.size<1\/D<s.size):
  qC 150 #[.string s,qN D] w fun e w'=>e=qT #[qI 0,.bool false]/\w'=w:=by
 rcases h with h | h
 ·have d1:decide ((s.size:Int)<1)=true:=by simp;omega
  go_enter func150,ntmps150;go_wp2;go_ret2;exact kh6
 have d1:decide ((s.size:Int)<1)=false:=zl;go_enter func150,ntmps150;go_wp2;go_ret2;exact kh6
theorem zaF(D:Nat)(s:qY)(w:qW)(h1:1<s.size)(h4:s.size<=D)(hz:s[0].toNat=48):
  qC 150 #[.string s,qN D] w fun e w'=>e=qT #[qI 0,.bool false]/\w'=w:=by
 have fP:0<s.size:=zj;have d1:decide ((s.size:Int)<1)=false:=zl;have d5:decide (1<(s.size:Int))=true:=zl;go_enter func150,ntmps150;go_wp2;go_ret2;exact kh6
theorem zak{D:Nat}{s:qY}(h1:1<=s.size)(h4:s.size<=D)(hz:¬(s[0].toNat=48/\1<s.size)):pq D s.data.toList=mI 0 s.data.toList:=by
 have h0:s.data.toList.getD 0 0=s[0]:=by
  have:=rk s 0 h1;rw [List.drop_zero] at this;rw [this];rfl
 have hl:s.data.toList.length=s.size:=zq;unfold pq
 grind
theorem TQ{D}{s:qY}(h:s.size<1\/D<s.size):pq D s.data.toList=none:=by
 have hl:s.data.toList.length=s.size:=zq;unfold pq
 grind
theorem PL{D:Nat}{s:qY}(h1:1<s.size)(hz:s[0].toNat=48):pq D s.data.toList=none:=by
 have h0:s.data.toList.getD 0 0=s[0]:=by
  have:=rk s 0 zj;rw [List.drop_zero] at this;rw [this];rfl
 simp_all [pq,if_pos]
theorem Ce(D:Nat)(hD:D<=18)(s)(w):
  qC 150 #[.string s,qN D] w fun e w'=>e=qT #[qI ((pq D s.data.toList).getD 0:Nat),.bool (pq D s.data.toList).isSome]/\w'=w:=by
 by_cases h:s.size<1\/D<s.size
 ·rw [TQ h];exact Tl D hD s w h
 by_cases hz:(s[0]'zj).toNat=48
 ·by_cases h1:1<s.size
  ·rw [PL h1 hz];exact zaF D s w h1 zj hz
  exact km2
 exact km2
end
section
abbrev CLt(a b:Int×Int):Prop:=a.1<b.1\/(a.1=b.1/\a.2<b.2)
theorem Az{a} :¬CLt a a:=by unfold CLt;omega
theorem rt{a b c}(h:CLt a b)(k:CLt b c):CLt a c:=zj
theorem zeq{a b}(h:¬CLt a b):b=a\/CLt b a:=by
 grind
abbrev DB:=Int×ByteArray
abbrev pl:=ByteArray×(Int×Int)
abbrev ER:=DB->Option pl
def noC:ER:=fun _=>none
def tz(f:ER)(k:DB)(c:pl):Bool:=match f k with
 | none=>true
 | some o=>decide (CLt o.2 c.2)
def Ft(f:ER)(m:DB×pl):ER:=if tz f m.1 m.2 then fun k=>if k=m.1 then some m.2 else f k else f
def DH(l:List (DB×pl))(f:ER):ER:=l.foldl Ft f
theorem Dh(l)(m)(f):DH (l++ [m]) f=Ft (DH l f) m:=by simp [DH]
theorem Mj{f}{m}{k}(h:k≠m.1):Ft f m k=f k:=by
 unfold Ft;split
 ·exact if_neg h
 rfl
theorem OQ{f}{m}(h:f m.1=none):Ft f m m.1=some m.2:=by
 unfold Ft tz;rw [h];simp
theorem SQ{f}{m}{o}(h:f m.1=some o):Ft f m m.1=if CLt o.2 m.2.2 then some m.2 else some o:=by
 unfold Ft tz;rw [h];by_cases k:CLt o.2 m.2.2
 ·simp [k]
 simp [k,h]
def Tj(l:List (DB×pl))(k:DB)(r:Option pl):Prop:=match r with
 | none=>∀c,(k,c)∉l
 | some c=>(k,c)∈l/\∀d,(k,d)∈l->¬CLt c.2 d.2
theorem AQ(l)(k):Tj l k (DH l noC k):=by
 have T9:∀(n:Nat) (l:List (DB×pl)),l.length=n->Tj l k (DH l noC k):=by
  intro n
  induction n with
  | zero=>
   intro l hn;obtain rfl:=Zi.1 hn
   exact fun c hc=>by simp at hc
  | succ n ih=>
   intro l hn
   obtain ⟨s,m,rfl⟩:∃s m,l=s++ [m]:=by
    refine ⟨l.dropLast,l.getLast zN,(List.dropLast_concat_getLast _).symm⟩
   have h:=ih s vp;rw [Dh];by_cases hk:k=m.1
   ·subst hk
    cases hf:DH s noC m.1 with
    | none=>
     rw [hf] at h;rw [OQ hf];refine ⟨zq,fun d hd=> ?_⟩
     rcases uU.1 hd with hd | hd
     ·exact absurd hd (h d)
     grind
    | some o=>
     rw [hf] at h;rw [SQ hf];by_cases hlt:CLt o.2 m.2.2
     ·rw [if_pos hlt];refine ⟨zq,fun d hd=> ?_⟩
      rcases uU.1 hd with hd | hd
      ·exact fun hc=>h.2 d hd (rt hlt hc)
      grind
     rw [if_neg hlt];refine ⟨Zo _ h.1,fun d hd=> ?_⟩
     rcases uU.1 hd with hd | hd
     ·exact h.2 d hd
     grind
   rw [Mj hk]
   cases hf:DH s noC k with
   | none=>
    rw [hf] at h;intro c hc
    rcases uU.1 hc with hc | hc
    ·exact h c hc
    grind
   | some o=>
    rw [hf] at h;refine ⟨Zo _ h.1,fun d hd=> ?_⟩
    rcases uU.1 hd with hd | hd
    ·exact h.2 d hd
    grind
 exact T9 _ l rfl
def zdF(l:List (DB×pl)):Prop:=∀k c d,(k,c)∈l->(k,d)∈l->c.2=d.2->c=d
theorem SZ{l r}{k}{x y}(hm:∀m,m∈l↔m∈r)(h1:zdF l)(hx:Tj l k x)(hy:Tj r k y):x=y:=by
 cases x with
 | none=>
  cases y with
  | none=>rfl
  | some d=>exact absurd ((hm _).2 hy.1) (hx d)
 | some c=>
  cases y with
  | none=>exact absurd ((hm _).1 hx.1) (hy c)
  | some d=>
   have a1:=hx.2 d ((hm _).2 hy.1);have a2:=hy.2 c ((hm _).1 hx.1)
   rcases zeq a1 with e | e
   ·rw [h1 k c d hx.1 ((hm _).2 hy.1) e.symm]
   exact absurd e a2
theorem Gf{l r}(hm:∀m,m∈l↔m∈r)(h1:zdF l):DH l noC=DH r noC:=by
 funext k
 grind [SZ,AQ]
abbrev KLt(a b:DB):Prop:=a.1<b.1\/(a.1=b.1/\a.2.data.toList<b.2.data.toList)
theorem Vf{a b:qY}(h:a.data.toList=b.data.toList):a=b:=by
 rcases a with ⟨⟨a⟩⟩
 simp_all
theorem Ap{a b:qU}(h:a≠b):a<b\/b<a:=by
 grind
theorem Nx{a} :¬KLt a a:=by
 simp_all
theorem RO{a b c}(h:KLt a b)(k:KLt b c):KLt a c:=by
 grind
theorem Rv{a b}(h:a≠b):KLt a b\/KLt b a:=by
 grind [Prod.ext,Vf,Ap]
theorem rM{α:Type}{R}(irr:∀a,¬R a a)(tr:∀a b c,R a b->R b c->R a c):∀ {L M:List α},L.Pairwise R->M.Pairwise R->(∀p,p∈L↔p∈M)->L=M
 | [],[],_,_,_=>rfl
 | [],b::r,_,_,h=>xg
 | a::r,[],_,_,h=>xf
 | a::r,b::s,hl,hm,h=>by
  obtain ⟨h1,h2⟩:=Zw.1 hl;obtain ⟨k1,k2⟩:=Zw.1 hm
  have e:a=b:=by
   rcases uZ.1 ((h a).1 zq) with e | ha
   ·exact e
   rcases uZ.1 ((h b).2 zq) with e | hb
   ·exact e.symm
   exact absurd (tr _ _ _ (h1 b hb) (k1 a ha)) (irr a)
  subst e;rw [rM irr tr h2 k2 (fun p=> ?_)]
  grind
theorem Fl{f}{m}(h:tz f m.1 m.2=true):Ft f m=fun k=>if k=m.1 then some m.2 else f k:=by unfold Ft;rw [if_pos h]
theorem NB{f}{m}(h:tz f m.1 m.2=false):Ft f m=f:=by unfold Ft;simp_all
abbrev Mrk:=Int×ByteArray×ByteArray
abbrev Aa(m:Mrk):DB:=(m.1,m.2.1)
structure P8 (f:ER) (L:List Mrk):Prop where
 K7:L.Pairwise (fun a b=>KLt (Aa a) (Aa b))
 U7:∀p:Mrk,p∈L↔p.2.2.size≠0/\∃s,f (Aa p)=some (p.2.2,s)
theorem P8.q{f}{L M}(h:P8 f L)(k:P8 f M):L=M:=
 rM (R:=fun a b=>KLt (Aa a) (Aa b)) (fun _=>Nx) (fun _ _ _=>RO) h.K7 k.K7 (fun p=>(h.U7 p).trans (k.U7 p).symm)
structure zev (f:ER) (L:List (DB×pl)):Prop where
 K7:L.Pairwise (fun a b=>KLt a.1 b.1)
 U7:∀k c,(k,c)∈L↔f k=some c
def zcm(m:DB×pl):Mrk:=(m.1.1,m.1.2,m.2.1)
def zdW(m:DB×pl):Bool:=decide (m.2.1.size≠0)
def V9(L:List (DB×pl)):List Mrk:=(L.filter zdW).map zcm
end
section
open Maps
def Fs(k:DB):Value:=.agg #[qI k.1,.string k.2]
theorem Kh{p q}(h:Fs p=Fs q):p=q:=by
 grind [Fs]
def Jw(c:pl):Value:=.agg #[.string c.1,qI c.2.1,qI c.2.2]
theorem VK{p q}(h:Jw p=Jw q):p=q:=by
 grind [Jw]
def Lv:pl:=(⟨#[]⟩,0,0)
def Kn(c:pl):DataW Unit:=.agg [.lit (.string c.1.data.toList),.lit (.int .i64 c.2.1),.lit (.int .i64 c.2.2)]
theorem KD{p q}(h:Kn p=Kn q):p=q:=by
 obtain ⟨⟨⟨s⟩⟩,a,b⟩:=p
 simp_all [Kn]
def zef(l:List Value):Option (DataW Unit×List MemPlace):=match l with
 | [.string s,.int .i64 a,.int .i64 b]=>some (Kn (s,a,b),[])
 | _=>none
def Nw(v:Value):Option (DataW Unit×List MemPlace):=match v with
 | .agg cs=>zef cs.toList
 | _=>none
theorem Sv(c):Nw (Jw c)=some (Kn c,[]):=rfl
theorem Uy{l}{z}(h:zef l=some z):∃c:pl,l= [.string c.1,qI c.2.1,qI c.2.2]/\z=(Kn c,[]):=by
 unfold zef at h
 grind
theorem Ev{v}{z}(h:Nw v=some z):∃c,v=Jw c/\z=(Kn c,[]):=by
 unfold Nw at h;split at h
 ·rename_i cs;obtain ⟨c,e,rfl⟩:=Uy h;refine ⟨c,?_,rfl⟩;unfold Jw;rw [<-e]
 cases h
theorem GW:∀(x y:qU),Op.bytesLess x y=decide (x<y)
 | [],[]=>uA
 | _::_,[]=>uA
 | [],_::_=>uA
 | a::x,b::y=>by
  rw [Op.bytesLess,GW x y]
  grind [List.cons_lt_cons_iff]
theorem Dx(a b:qY):Op.bytesLess a.toList b.toList=decide (a.data.toList<b.data.toList):=by
 grind [GW,ZB]
def WfK(k:DB):Prop:=(Lit.int .i64 k.1).wf=true/\k.2.size<=maxLen
def rp(k:DB):Lit:=.string (keyBytes [.int .i64 k.1,.string k.2.data.toList])
section
variable {P:Program} {K I S:TypeId} {f g:Field}
theorem pw{fs}(hu:P.underlying K=some (.struct fs))(d)(cs):P.keyLits (d+1) K cs=if cs.length=P.cellsOf K/\fs.all (·.name != "_")=true then (fs.toList.mapM fun f=>P.keyLits d f.type ((cs.drop f.offset).take (P.cellsOf f.type))).map List.flatten else none:=by
 conv=>lhs;unfold Program.keyLits
 simp only [hu]
theorem tG(hI:P.underlying I=some (.int .i64))(d:Nat)(v:Value):P.keyLits (d+1) I [v]=match v with | .int .i64 n=>if (Lit.int .i64 n).wf=true then some [.int .i64 n] else none | _=>none:=by
 conv=>lhs;unfold Program.keyLits
 grind
theorem DP(hS:P.underlying S=some .string)(d:Nat)(v:Value):P.keyLits (d+1) S [v]=match v with | .string s=>if s.size<=maxLen then some [.string s.data.toList] else none | _=>none:=by
 conv=>lhs;unfold Program.keyLits
 grind
theorem zaP(hu:P.underlying K=some (.struct #[f,g]))(f1:f.type=I)(f2:f.offset=0)(f3:(f.name != "_")=true)(g1:g.type=S)(g2:g.offset=1)(g3:(g.name != "_")=true)(hI:P.underlying I=some (.int .i64))(hS:P.underlying S=some .string)(cK:P.cellsOf K=2)(cI:P.cellsOf I=1)(cS:P.cellsOf S=1)(hT:P.keyType K=true)(e)(he:P.types.size=e+1){k}(h:WfK k):keyOf P K (Fs k)=some (rp k):=by
 obtain ⟨h1,h2⟩:=h
 have hf:(Fs k).formed P K=true:=by simp [Value.formed,Fs,hu,cK]
 unfold keyOf;rw [hu];dsimp only;rw [hT,hf];simp only [Bool.and_self,if_true];rw [pw hu,he];simp [Fs,Value.cells,cK,cI,cS,f1,f2,f3,g1,g2,g3,tG hI,DP hS,h1,h2,rp]
theorem Vw(hw:(match P.underlying K with | some (.array _ _) | some (.struct _)=>true | _=>false)=true)(hu:P.underlying K=some (.struct #[f,g]))(f1:f.type=I)(f2:f.offset=0)(g1:g.type=S)(g2:g.offset=1)(hI:P.underlying I=some (.int .i64))(hS:P.underlying S=some .string)(cK:P.cellsOf K=2)(cI:P.cellsOf I=1)(cS:P.cellsOf S=1)(e:Nat)(he:P.types.size=e+1){v:Value}{l:Lit}(h:keyOf P K v=some l):∃k,WfK k/\v=Fs k/\l=rp k:=by
 obtain ⟨xs,L,rfl,h1,rfl⟩:=keyOf_top hw h;rw [pw hu,he] at h1;split at h1
 ·rename_i hc
  obtain ⟨a,b,hx⟩:∃a b,xs.toList= [a,b]:=by
   rw [cK] at hc;have h2:=hc.1
   match hl:xs.toList,h2 with
   | [a,b],_=>exact ⟨a,b,rfl⟩
  rw [hx] at h1;simp only [List.mapM_cons,List.mapM_nil,f1,f2,g1,g2,cI,cS,List.drop_zero,List.take,List.drop,YP,tG hI,DP hS] at h1
  cases a<;>simp at h1
  rename_i q n
  cases q<;>simp at h1
  cases b<;>simp at h1
  rename_i s;by_cases bE:(Lit.int .i64 n).wf=true
  ·by_cases hsz:s.size<=maxLen
   ·simp [bE,hsz] at h1;subst h1;refine ⟨(n,s),⟨bE,hsz⟩,?_,rfl⟩;unfold Fs;congr 1;rw [<-Qb,hx]
   simp_all
  simp [bE] at h1
 cases h1
end
theorem Wx:274<prog.types.size:=of_decide_eq_true zk
theorem Ra:(match prog.underlying 274 with | some (.array _ _) | some (.struct _)=>true | _=>false)=true:=zk
theorem Wa:laidOutB prog=true:=zk
theorem lawK:Keyed prog 274:=Keyed.of_law (deep_law_laid Wa (m:=2) zj Wx zk Ra)
theorem zed:prog.keyType 274=true:=zk
theorem Kd:prog.cellsOf 274=2:=zk
theorem Cr:prog.cellsOf 3=1:=zk
theorem GQ:prog.cellsOf 9=1:=zk
theorem II:∃e,prog.types.size=e+1:=Nat.exists_eq_succ_of_ne_zero (by have:=Wx;omega)
theorem Kk{k}(h:WfK k):keyOf prog 274 (Fs k)=some (rp k):=by
 obtain ⟨e,he⟩:=II;exact zaP underlying274 rfl rfl zo rfl rfl zo underlying3 underlying9 Kd Cr GQ zed e he h
theorem Nb{v}{l}(h:keyOf prog 274 v=some l):∃k,WfK k/\v=Fs k/\l=rp k:=by
 obtain ⟨e,he⟩:=II;exact Vw Ra underlying274 rfl rfl rfl rfl underlying3 underlying9 Kd Cr GQ e he h
theorem Jz{a b}(ha:WfK a)(hb:WfK b)(h:a≠b):rp a≠rp b:=fun e=>h (Kh (lawK.inj (Kk ha) (by rw [e];exact Kk hb)))
theorem Ps{k} :WideAt.IsKeyLit (rp k):=trivial
theorem Gn{a b}(ha:WfK a)(hb:WfK b):Lit.sameKey (rp a) (rp b)=decide (a=b):=by
 grind [WideAt.sameKey_self,Ps,sameKey_ne,Jz]
theorem QD{k}(h0: -2^63<=k)(h1:k<2^63):(Lit.int .i64 k).wf=true:=by
 exact ki5
theorem zc7{k}(h0: -2^63<=k.1)(h1:k.1<2^63)(h2:k.2.size<=1000000):WfK k:=⟨QD h0 h1,zB⟩
def M6(D:DataW Unit)(f:ER):Prop:=∀k,WfK k->match f k with
 | none=>has D (rp k)=false
 | some c=>∀z,D.atKey (rp k) z=Kn c
theorem M6.Y3{D}{f}(h:M6 D f){k}(hk:WfK k)(hf:f k=none):has D (rp k)=false:=by
 exact kk3
theorem M6.held{D}{f}(h:M6 D f){k}(hk:WfK k){c}(hf:f k=some c)(z):D.atKey (rp k) z=Kn c:=by
 exact kk3
theorem M6.has{D}{f}(h:M6 D f){k}(hk:WfK k):Maps.has D (rp k)=(f k).isSome:=by
 cases hf:f k with
 | none=>rw [h.Y3 hk hf];rfl
 | some p=>rw [has_true_of_atKey (h.held hk hf)];rfl
theorem M6.at{D}{f}(h:M6 D f){k}(hk:WfK k):D.atKey (rp k) (Kn Lv)=Kn ((f k).getD Lv):=by
 cases hf:f k with
 | none=>rw [atKey_of_not_has (h.Y3 hk hf)];rfl
 | some p=>rw [h.held hk hf];rfl
theorem M6.got{D}{f}(h:M6 D f){k}{c}(hk:WfK k)(aI:∀z,D.atKey (rp k) z=Kn c):f k=some c:=by
 have hh:=h.has hk;rw [has_true_of_atKey aI] at hh
 cases hf:f k with
 | none=>rw [hf] at hh;cases hh
 | some p=>
  have:=h.held hk hf .nil;rw [aI] at this;rw [KD this]
theorem Mo{D}{f}(h:M6 D f)(hD:IsMap D){k}(hk:WfK k)(c):M6 (D.put (rp k) (Kn c)) (fun x=>if x=k then some c else f x):=by
 intro x hx;dsimp only;by_cases e:x=k
 ·subst e;rw [if_pos rfl]
  exact fun z=>atKey_put_same hD Ps _ _
 rw [if_neg e]
 cases hf:f x with
 | none=>rw [has_put_other (Jz hx hk e)];exact h.Y3 hx hf
 | some q=>intro z;rw [atKey_put_other (Jz hx hk e)];exact h.held hx hf z
def aaj(f:ER):Prop:=∀k c,f k=some c->WfK k
theorem My:aaj noC:=fun k c h=>qd
theorem aaj.put{f}(h:aaj f){k}(hk:WfK k)(c):aaj (fun x=>if x=k then some c else f x):=by
 intro x d hx;dsimp only at hx;split at hx
 ·rename_i e;rw [e];exact hk
 exact h x d hx
structure L9 (w:qW) (b n:Nat) (f:ER):Prop where
 reads:∃D,w.ownsMap prog 274 Nw b n D/\M6 D f
 aaa:aaj f
theorem L9.lt{w}{b n}{f}(h:L9 w b n f):b<w.heap.size:=by
 obtain ⟨D,h,_⟩:=h.reads;exact h.lt
theorem L9.mono{w}{b n n'}{f}(h:L9 w b n f)(hn:n<=n'):L9 w b n' f:=by
 obtain ⟨⟨D,h,r⟩,g⟩:=h;exact ⟨⟨D,h.mono hn,r⟩,g⟩
theorem L9.same{w w'}{b n}{f}(h:L9 w b n f)(e:w'.heap[b]? =w.heap[b]?):L9 w' b n f:=by
 exact kh7
theorem JM(w:qW):L9 (w.alloc (.map #[] 0)) w.heap.size 0 noC:=
 ⟨⟨_,YY w prog 274 Nw,fun _ _=>rfl⟩,My⟩
theorem Tc(w):(zeroValue 276).run prog w= .ok (Jw Lv) w:=zeroValue276 w
theorem L9.A{w}{b n}{f}(h:L9 w b n f){k}(hk:WfK k):
  (Instr.lookup 189 (.map (some b)) (Fs k) true).run prog w= .ok (.tuple #[Jw ((f k).getD Lv),.bool (f k).isSome]) w:=by
 obtain ⟨⟨D,h,r⟩,_⟩:=h;obtain ⟨v,ps,ae,hv⟩:=h.look_ok lawK underlying189 (Tc w) (Sv Lv) (Kk hk);obtain ⟨p,rfl,hp⟩:=Ev hv;rw [r.at hk,Prod.mk.injEq] at hp;rw [ae,r.has hk,KD hp.1]
theorem L9.store{w}{b n}{f}(h:L9 w b n f)(hn:n<maxLen){k}(hk:WfK k)(c):
  ∃w',(Instr.mapUpdate 189 (.map (some b)) (Fs k) (Jw c)).run prog w= .ok () w'/\L9 w' b (n+1) (fun x=>if x=k then some c else f x)/\w.mapTurned w' b:=by
 obtain ⟨⟨D,h,r⟩,g⟩:=h;obtain ⟨w',ae,h',ht⟩:=h.store lawK underlying189 hn (Kk hk) (Sv c);exact ⟨w',ae,⟨⟨_,h',Mo r h.isMap hk c⟩,g.put hk c⟩,ht⟩
def abX(f:ER)(ps:List Mrk):Prop:=(ps.map Aa).Nodup/\∀p:Mrk,p∈ps↔p.2.2.size≠0/\∃s,f (Aa p)=some (p.2.2,s)
theorem abX.P5{f}{ps qs}(h:abX f ps)(hp:qs.Perm ps)(hs:qs.Pairwise (fun a b=>¬KLt (Aa b) (Aa a))):P8 f qs:=by
 refine ⟨?_,fun p=>(hp.mem_iff).trans (h.2 p)⟩;have hn:=(hp.map _).nodup_iff.2 h.1;have hn':=YE.1 hn
 exact (hs.and hn').imp (fun {a b} h=>by
  rcases Rv h.2 with q | q
  ·exact q
  ·exact absurd q h.1)
def V7(f:ER)(left:Lit->Bool)(ps:List Mrk):Prop:=
 (ps.map Aa).Nodup/\(∀p∈ps,(p.2.2.size≠0/\∃s,f (Aa p)=some (p.2.2,s))/\left (rp (Aa p))=false)/\∀k c,f k=some c->left (rp k)=false->c.1.size≠0->(k.1,k.2,c.1)∈ps
theorem JP{D}{f}(hr:M6 D f)(hg:aaj f):V7 f (has D) []:=
 ⟨YZ,fun p hp=>by simp at hp,fun k c hf hl _=>by rw [hr.has (hg k c hf),hf] at hl;cases hl⟩
theorem V7.skip{f}{left}{ps}(h:V7 f left ps)(hg:aaj f){x}{c}(hx:WfK x)(hf:f x=some c)(hc:c.1.size=0):V7 f (fun z=>left z && !z.sameKey (rp x)) ps:=by
 obtain ⟨h1,h2,h3⟩:=h;refine ⟨h1,fun p hp=>⟨(h2 p hp).1,?_⟩,fun k d hk hl hd=> ?_⟩
 ·simp_all
 exact kk7
theorem V7.K8{f}{left}{ps}(h:V7 f left ps)(hg:aaj f){x}{c}(hx:WfK x)(hlx:left (rp x)=true)(hf:f x=some c)(hc:c.1.size≠0):V7 f (fun z=>left z && !z.sameKey (rp x)) (ps++ [(x.1,x.2,c.1)]):=by
 obtain ⟨h1,h2,h3⟩:=h;refine ⟨?_,fun p hp=> ?_,fun k d hk hl hd=> ?_⟩
 ·grind
 ·rcases uU.1 hp with hp | hp
  ·refine ⟨(h2 p hp).1,?_⟩
   show (left (rp (Aa p)) &&_)=false
   rw [(h2 p hp).2];rfl
  grind [Zc,rp,Gn]
 exact kk7
theorem V7.all{f}{left}{ps}(h:V7 f left ps)(hl:∀kl,left kl=false):abX f ps:=by
 refine ⟨h.1,fun p=>⟨fun hp=>(h.2.1 p hp).1,fun hp=> ?_⟩⟩;obtain ⟨h0,s,hf⟩:=hp;exact h.2.2 (Aa p) _ hf (hl _) h0
end
section
open RowKit
theorem Tx{W w1}(hb:qL W w1):(∀b o,b<W.heap.size->w1.cell? (qA b o)=W.cell? (qA b o))/\(∀b o,b<W.heap.size->w1.frozen? (qA b o)=W.frozen? (qA b o)):=
 ⟨fun b o h=>hb.cell (p:=(qA b o)) h,fun b o h=>hb.frozen (p:=(qA b o)) h⟩
theorem BC(t b)(w)(h1:1<=t)(h2:t<=1073741824)(h3:0<=b)(h4:b<4):
  qC 153 #[.agg #[qI t,qI b]] w (qR .nilIface w):=by
 exact kc9
theorem FF(t b)(w)(eb)(hg:w.cell? (qB 0)=some eb)(hz:0<w.heap.size)(h:¬(1<=t/\t<=1073741824/\0<=b/\b<4)):
  qC 153 #[.agg #[qI t,qI b]] w (qR eb w):=by
 by_cases h1:1<=t
 ·by_cases h2:t<=1073741824
  ·by_cases h3:0<=b
   ·have h4:4<=b:=by omega
    have d4:decide (b<4)=false:=zl;exact kc9
   have h4:b<0:=zj;exact kc9
  have h4:1073741824<t:=zj;exact kc9
 have h4:t<1:=zj;exact kc9
theorem MD(t b)(w)(h1:1<=t)(h2:t<=1073741824)(h3:0<=b)(h4:b<4):
  qC 114 #[.agg #[qI t,qI b]] w (qR (.tuple #[qI (t*4+b),.nilIface]) w):=by
 go_enter func114,ntmps114;go_wp2_with (go_at_call 153;refine (BC _ _ _ h1 h2 h3 h4).mono ?_;rintro e w1 ⟨rfl,hb⟩;obtain ⟨hc,hf⟩:=Tx hb);exact km8
theorem zd5(t b)(w)(u)(x)(hg:w.cell? (qB 0)=some (.iface u x))(hz:0<w.heap.size)(h:¬(1<=t/\t<=1073741824/\0<=b/\b<4)):
  qC 114 #[.agg #[qI t,qI b]] w (qR (.tuple #[qI 0,.iface u x]) w):=by
 have H:Hid (¬(1<=t/\t<=1073741824/\0<=b/\b<4)):=h;go_enter func114,ntmps114;go_wp2_with fail;refine (FF t b _ (.iface u x) (by rw [YT _ _ _ hz];exact hg) yZ H.o).mono ?_;rintro e w1 ⟨rfl,hb⟩;obtain ⟨hc,hf⟩:=Tx hb;go_wp2;exact km8
end
section
open RowKit Lib Go.Sort
abbrev OpX:=Int×Int×Int×Nat×Int×Int×ByteArray×ByteArray
def nD(x:OpX):List Value:=(qVl x)
theorem oY(x):∀v∈nD x,v.oneCell'=true:=by
 intro v hv;simp [nD] at hv;exact kh5
theorem mZ{w w'}{b o}{v}(hb:qL w w')(h:w.cell? (qA b o)=some v):w'.cell? (qA b o)=some v:=by
 exact kg9
def cellsOf(xs:qX):List Value:=xs.flatMap nD
theorem sQ(x)(xs):cellsOf (x::xs)=nD x++cellsOf xs:=rfl
theorem nL(x):(nD x).length=8:=rfl
theorem mo:∀xs:List OpX,(cellsOf xs).length=xs.length*8
 | []=>rfl
 | x::xs=>by rw [sQ,uS,mo xs,nL,Zd];omega
theorem Jm(xs):∀u∈cellsOf xs,u.oneCell'=true:=by
 intro u hu;obtain ⟨x,_,hx⟩:=List.mem_flatMap.1 hu;exact oY x u hx
theorem nZ:∀(xs:qX) (i c:Nat),i<xs.length->c<8->(cellsOf xs)[i*8+c]? =some ((nD xs[i]!)[c]!)
 | [],i,_,hi,_=>absurd hi zq
 | x::xs,0,c,_,hc=>by
  grind [sQ,Yh,nL,uL]
 | x::xs,i+1,c,hi,hc=>by
  rw [sQ,List.getElem?_append_right (by rw [nL];omega),nL,show (i+1)*8+c - 8=i*8+c by omega,nZ xs i c xM hc];simp
theorem oL(a b):cellsOf (a++b)=cellsOf a++cellsOf b:=List.flatMap_append
def N5(w:qW)(v:Value)(xs:qX):Prop:=
 (v=qE/\xs= [])\/∃blk off cap,v= .slice (some (qA blk off)) xs.length cap/\∀j u,(cellsOf xs)[j]? =some u->w.cell? (qA blk (off+j))=some u
theorem N5.later{w w'}{v}{xs}(h:N5 w v xs)(hb:qL w w'):N5 w' v xs:=by
 rcases h with h | ⟨g,o,c,h1,h2⟩
 ·exact .inl h
 exact .inr ⟨g,o,c,h1,fun j u hj=>mZ hb (h2 j u hj)⟩
theorem rD:(prog.info? 88).map (fun i=>(i.zero,i.size,i.bytes))=some (some (.agg qZa),8,80):=zk
theorem Vh{w:qW}{b off}{xs}(hc:∀j u,(cellsOf xs)[j]? =some u->w.cell? (qA b (off+j))=some u)(i c)(hi:i<xs.length)(h8:c<8):w.cell? (qA b (off+i*8+c))=some ((nD xs[i]!)[c]!):=by
 simp_all [Yx,nZ]
theorem Cx{w}{l9}{v}{xs}(h:w.ownsRow l9 88 8 v xs.length (cellsOf xs)):N5 w v xs:=by
 rcases h.2 with ⟨h1,h2⟩ | ⟨g,cap,cur,rfl,_⟩
 ·exact .inl ⟨h1,Zi.1 h2⟩
 refine .inr ⟨g,0,cap,rfl,fun j u hj=> ?_⟩;have hl:=(uK.1 hj).1;rw [mo] at hl;rw [Ze,h.cellAt j hl,hj]
structure zcH (w:qW) (g p:Nat) (t b m:Int) (kd:Nat) (l8 other:Int) (name value:qY):Prop where
 c0:w.cell? (qA g p)=some (qI t)
 c1:w.cell? (qA g (p+1))=some (qI b)
 c2:w.cell? (qA g (p+2))=some (qI m)
 c3:w.cell? (qA g (p+3))=some (.int .u8 (kd:Int))
 c4:w.cell? (qA g (p+4))=some (qI l8)
 c5:w.cell? (qA g (p+5))=some (qI other)
 c6:w.cell? (qA g (p+6))=some (.string name)
 c7:w.cell? (qA g (p+7))=some (.string value)
theorem VG{w}{g o}{xs}(hc:∀j u,(cellsOf xs)[j]? =some u->w.cell? (qA g (o+j))=some u)(i)(hi:i<xs.length){t b m}{kd}{l8 other}{name value}(hx:xs[i]! =(t,b,m,kd,l8,other,name,value)):zcH w g (o+i*8) t b m kd l8 other name value:=by
 have h:=fun c h8=>Vh hc i c hi h8
 rw [hx] at h;exact ⟨h 0 zj,h 1 zj,h 2 zj,h 3 zj,h 4 zj,h 5 zj,h 6 zj,h 7 zj⟩
def F2(w:qW)(ao:qO)(xs:qX):Prop:=xs= []\/∃blk off,ao=some (qA blk off)/\∀j u,(cellsOf xs)[j]? =some u->w.cell? (qA blk (off+j))=some u
theorem F2.later{w w'}{ao}{xs}(h:F2 w ao xs)(hb:qL w w'):F2 w' ao xs:=by
 rcases h with h | ⟨g,o,h1,h2⟩
 ·exact .inl h
 exact kk8
end
section
def mz(x:OpX):Nat:=opE x.1 x.2.1 x.2.2.1 x.2.2.2.1 x.2.2.2.2.1 x.2.2.2.2.2.1 x.2.2.2.2.2.2.1.data.toList x.2.2.2.2.2.2.2.data.toList
def zca(x:OpX):DB:=(x.2.2.2.2.1,x.2.2.2.2.2.2.1)
def SH(x:OpX):pl:=(x.2.2.2.2.2.2.2,(x.1,x.2.1))
def Lz(x:OpX):Option (DB×pl):=if mz x=0/\x.2.2.2.1=115 then some (zca x,SH x) else none
def rQ(xs:qX):List (DB×pl):=xs.filterMap Lz
theorem MQ(xs ys):rQ (xs++ys)=rQ xs++rQ ys:=List.filterMap_append
def rj(xs:qX):ER:=DH (rQ xs) noC
def Gw(f:ER)(x:OpX):ER:=if mz x=0/\x.2.2.2.1=115 then Ft f (zca x,SH x) else f
theorem Dc(xs)(x):rj (xs++ [x])=Gw (rj xs) x:=by
 unfold rj Gw;rw [MQ];by_cases h:mz x=0/\x.2.2.2.1=115
 ·simp_all [rQ,zca,SH,Lz,Dh,if_pos]
 have e:rQ [x]= []:=by simp [rQ,Lz,h]
 simp_all
def abe(xs:qX):Prop:=∀x∈xs,∀y∈xs,x.1=y.1->x.2.1=y.2.1->x=y
theorem AM{x}{m}(h:Lz x=some m):m=(zca x,SH x):=by
 grind [Lz,Option.some.inj]
theorem abe.P5{xs}(h:abe xs):zdF (rQ xs):=by
 intro k c d hc hd e;obtain ⟨x,hx,ex⟩:=Yr.1 hc;obtain ⟨y,hy,ey⟩:=Yr.1 hd;have e1:=AM ex;have e2:=AM ey;have c1:=(Prod.mk.inj e1).2;have d1:=(Prod.mk.inj e2).2;subst c1;subst d1;have e3:(x.1,x.2.1)=(y.1,y.2.1):=e;rw [h x hx y hy (Prod.mk.inj e3).1 (Prod.mk.inj e3).2]
abbrev byO(x:OpX):Int:=x.2.1
abbrev mB(x:OpX):Int:=x.2.2.1
abbrev kdO(x:OpX):Nat:=x.2.2.2.1
abbrev mU(x:OpX):Int:=x.2.2.2.2.1
abbrev mT(x:OpX):Int:=x.2.2.2.2.2.1
def idO(x:OpX):Int:=x.1*4+x.2.1
def stO(x:OpX):Int×Int:=(x.1,x.2.1)
def m9(S:qX)(nd:Int):Prop:=∃x∈S,kdO x=109/\mU x=nd/\idO x=nd
def I8(S:qX)(nd id:Int):Prop:=∃x∈S,kdO x=105/\mU x=nd/\idO x=id
def M0(S:qX)(x:OpX):Prop:=((kdO x=109/\idO x=mU x)\/m9 S (mU x))/\(kdO x=109->mT x=0\/mT x=1\/m9 S (mT x))/\((kdO x=105/\0<mT x)\/kdO x=100->I8 S (mU x) (mT x))
theorem m9.mono{S T}(h:∀x,x∈S->x∈T){nd}(k:m9 S nd):m9 T nd:=by
 obtain ⟨x,hx,k⟩:=k;exact ⟨x,h x hx,k⟩
theorem I8.mono{S T}(h:∀x,x∈S->x∈T){nd id}(k:I8 S nd id):I8 T nd id:=by
 obtain ⟨x,hx,k⟩:=k;exact ⟨x,h x hx,k⟩
theorem M0.mono{S T}(h:∀x,x∈S->x∈T){x}(k:M0 S x):M0 T x:=
 ⟨k.1.imp (fun e=>e) (m9.mono h),fun e=>(k.2.1 e).imp (fun e=>e) (fun e=>e.imp (fun e=>e) (m9.mono h)),fun e=>(k.2.2 e).mono h⟩
structure D5 (S:qX):Prop where
 ok:∀x∈S,mz x=0
 one:∀x∈S,∀y∈S,byO x=byO y->mB x=mB y->x=y
 gap:∀x∈S,mB x=1\/∃y∈S,byO y=byO x/\mB y+1=mB x
 K7:∀x∈S,∀y∈S,byO x=byO y->mB x+1=mB y->CLt (stO x) (stO y)
 Q6:∀x∈S,M0 S x
theorem Cu:D5 []:=⟨fun x h=>qo,fun x h=>qo,fun x h=>qo,fun x h=>qo,fun x h=>qo⟩
theorem D5.congr{S T}(h:D5 S)(e:∀x,x∈S↔x∈T):D5 T:=
 ⟨fun x hx=>h.ok x ((e x).2 hx),fun x hx y hy=>h.one x ((e x).2 hx) y ((e y).2 hy),fun x hx=>(h.gap x ((e x).2 hx)).imp (fun q=>q) (fun ⟨y,hy,q⟩=>⟨y,(e y).1 hy,q⟩),fun x hx y hy=>h.K7 x ((e x).2 hx) y ((e y).2 hy),fun x hx=>(h.Q6 x ((e x).2 hx)).mono (fun y hy=>(e y).1 hy)⟩
def R5(S T:qX):Prop:=∀x∈S,∀y∈T,byO x=byO y->mB x=mB y->x=y
theorem R5.symm{S T}(h:R5 S T):R5 T S:=fun x hx y hy e1 e2=>(h y hy x hx e1.symm e2.symm).symm
theorem EA{x}(h:mz x=0):1<=mB x:=(mP h).2.2.2.2.1
theorem D5.ac3{S T}(hS:D5 S)(hT:D5 T)(hc:R5 S T):D5 (S++T):=by
 have across:∀ {A B:qX},D5 A->D5 B->R5 A B->∀x∈A,∀y∈B,byO x=byO y->mB x+1=mB y->CLt (stO x) (stO y):=fun {A B} hA hB hAB x hx y hy e1 e2=>by
  rcases hB.gap y hy with q | ⟨z,hz,z1,z2⟩
  ·have:=EA (hA.ok x hx);omega
  obtain rfl:=hAB x hx z hz zj zj;exact hB.K7 x hz y hy e1 e2
 refine ⟨fun x hx=> ?_,fun x hx y hy e1 e2=> ?_,fun x hx=> ?_,fun x hx y hy e1 e2=> ?_,fun x hx=> ?_⟩
 ·rcases uU.1 hx with h | h
  ·exact hS.ok x h
  exact hT.ok x h
 ·rcases uU.1 hx with h | h<;>rcases uU.1 hy with k | k
  ·exact hS.one x h y k e1 e2
  ·exact hc x h y k e1 e2
  ·exact hc.symm x h y k e1 e2
  exact hT.one x h y k e1 e2
 ·rcases uU.1 hx with h | h
  ·exact (hS.gap x h).imp (fun q=>q) (fun ⟨y,hy,q⟩=>⟨y,Zo _ hy,q⟩)
  exact (hT.gap x h).imp (fun q=>q) (fun ⟨y,hy,q⟩=>⟨y,ZD _ hy,q⟩)
 ·rcases uU.1 hx with h | h<;>rcases uU.1 hy with k | k
  ·exact hS.K7 x h y k e1 e2
  ·grind
  ·exact across hT hS hc.symm x h y k e1 e2
  exact hT.K7 x h y k e1 e2
 rcases uU.1 hx with h | h
 ·exact (hS.Q6 x h).mono (fun y hy=>Zo _ hy)
 exact (hT.Q6 x h).mono (fun y hy=>ZD _ hy)
theorem D5.X2{S}(h:D5 S){x}(hx:x∈S):∀(d:Nat) {y:OpX},y∈S->byO x=byO y->mB x+(d+1)=mB y->CLt (stO x) (stO y)
 | 0,y,hy,e1,e2=>h.K7 x hx y hy e1 zj
 | d+1,y,hy,e1,e2=>by
  rcases h.gap y hy with q | ⟨z,hz,z1,z2⟩
  ·have:=EA (h.ok x hx);omega
  exact rt (h.X2 hx d hz zj zj) (h.K7 z hz y hy z1 z2)
theorem D5.J{S}(h:D5 S){x y}(hx:x∈S)(hy:y∈S)(e:stO x=stO y):x=y:=by
 have e1:byO x=byO y:=(Prod.mk.inj e).2
 rcases Int.lt_trichotomy (mB x) (mB y) with q | q | q
 ·have:=h.X2 hx (mB y - mB x - 1).toNat hy e1 zj
  grind
 ·exact h.one x hx y hy e1 q
 exact kp5
theorem D5.add{S}(h:D5 S){x}(dC:mz x=0)(hn:mB x=1\/∃y∈S,byO y=byO x/\mB y+1=mB x)(hnew:∀y∈S,byO y=byO x->mB y<mB x)(hst:∀y∈S,CLt (stO y) (stO x))(hr:M0 (x::S) x):D5 (x::S):=by
 have sub:∀y,y∈S->y∈x::S:=fun y hy=>Za _ hy
 refine ⟨fun y hy=> ?_,fun y hy z hz e1 e2=> ?_,fun y hy=> ?_,fun y hy z hz e1 e2=> ?_,fun y hy=> ?_⟩
 ·rcases uZ.1 hy with rfl | hy
  ·exact dC
  exact h.ok y hy
 ·rcases uZ.1 hy with e | ky<;>rcases uZ.1 hz with e' | kz
  ·rw [e,e']
  ·grind
  ·grind
  exact h.one y ky z kz e1 e2
 ·rcases uZ.1 hy with e | hy
  ·grind
  exact (h.gap y hy).imp (fun q=>q) (fun ⟨z,hz,q⟩=>⟨z,sub z hz,q⟩)
 ·rcases uZ.1 hy with e | ky<;>rcases uZ.1 hz with e' | kz
  ·grind
  ·grind
  ·grind
  exact h.K7 y ky z kz e1 e2
 rcases uZ.1 hy with e | hy
 ·rw [e];exact hr
 exact (h.Q6 y hy).mono sub
theorem Gu{L M:qX}(hL:L.Pairwise (fun a b=>CLt (stO a) (stO b)))(hM:M.Pairwise (fun a b=>CLt (stO a) (stO b)))(e:∀x,x∈L↔x∈M):L=M:=
 rM (R:=fun a b=>CLt (stO a) (stO b)) (fun _=>Az) (fun _ _ _=>rt) hL hM e
structure zeF (n:Nat) (K:Nat->List OpX):Prop where
 G5:∀r,r<n->D5 (K r)
 aa1:∀r,r<n->∀s,s<n->R5 (K r) (K s)
 L4:∀r,r<n->∀s,s<n->∀x∈K r,byO x=(s:Int)->x∈K s
end
section
open RowKit
theorem Pv(n)(w)(h1:4<=n)(h2:n<4294967300):
  qC 278 #[qI n] w (qR (.tuple #[.agg #[qI (n / 4),qI (n % 4)],.nilIface]) w):=by
 go_enter func278,ntmps278;go_wp2_with (go_at_call 153;refine (BC _ _ _ zj zj zj zj).mono ?_;rintro e w1 ⟨rfl,hb⟩;obtain ⟨hc,hf⟩:=Tx hb);have c0:w1.cell? (qB w.heap.size)=some (qI 0):=uk;have c1:w1.cell? (qA w.heap.size 1)=some (qI 0):=uk;refine bodyPost_ret (v:=.tuple #[.agg #[qI (n / 4),qI (n % 4)],.nilIface]) uJ rfl ⟨rfl,?_⟩;exact ((((zh _ _).alloc zq _).trans (hb.mono zl)).setCell zq _).setCell zq _
theorem JO(n:Int)(h:n<0):n.tdiv 4<=0:=by
 grind
theorem QQ(n)(w)(u)(x)(hg:w.cell? (qB 0)=some (.iface u x))(hz:0<w.heap.size)(h:n<0)(h2: -9223372036854775808<=n):
  qC 278 #[qI n] w (qR (.tuple #[.agg #[qI 0,qI 0],.iface u x]) w):=by
 have hq:=JO n h;go_enter func278,ntmps278;go_wp2_with fail;refine (FF _ _ _ (.iface u x) (by rw [YT _ _ _ yZ,YT _ _ _ hz];exact hg) yZ zj).mono ?_;exact kc2
theorem Qg(n)(w)(u)(x)(hg:w.cell? (qB 0)=some (.iface u x))(hz:0<w.heap.size)(h:0<=n)(h2:n<4\/4294967300<=n)(h3:n<=9223372036854775807):
  qC 278 #[qI n] w (qR (.tuple #[.agg #[qI 0,qI 0],.iface u x]) w):=by
 have hq:¬(1<=n / 4/\n / 4<=1073741824/\0<=n % 4/\n % 4<4):=zj;have H:Hid (¬(1<=n / 4/\n / 4<=1073741824/\0<=n % 4/\n % 4<4)):=hq;go_enter func278,ntmps278;go_wp2_with fail;refine (FF _ _ _ (.iface u x) (by rw [YT _ _ _ yZ,YT _ _ _ hz];exact hg) yZ H.o).mono ?_;exact kc2
theorem zb3(n)(w)(u)(x)(hg:w.cell? (qB 0)=some (.iface u x))(hz:0<w.heap.size)(h:n<4\/4294967300<=n)(h2: -9223372036854775808<=n)(h3:n<=9223372036854775807):
  qC 278 #[qI n] w (qR (.tuple #[.agg #[qI 0,qI 0],.iface u x]) w):=by
 by_cases hn:n<0
 ·exact QQ n w u x hg hz hn h2
 exact Qg n w u x hg hz zj h h3
end
section
section
variable {P:Program} {ops:Array Oper} {Q:Exit→Act→World→Prop} {md:Region.Mode} {S:World→Prop}
theorem an{i}{o}{fuel}{listed}{a}{w}(hr:Region.ready md ops listed= [i])(ho:ops[i]? =some o)
  (h:∀K:Act->World->Prop,(∀a' w',S w'->wpAnyH P md ops Q S fuel (listed.setIfInBounds i true) a' w'->K a' w')->if Region.wanted o (yielded ops a.tmps)=true then Oper.wp P o a w K Q else K (a.put o.dst undef) w):wpAnyH P md ops Q S (fuel+1) listed a w:=by
 refine ⟨fun h0=>vm,fun j hj=> ?_⟩;rw [hr] at hj;simp only [Zc] at hj;subst hj;have:=h (fun a' w'=>S w'/\wpAnyH P md ops Q S fuel (listed.setIfInBounds j true) a' w') (fun a' w' h1 h2=>⟨h1,h2⟩);unfold wpOp
 grind
end
theorem lV{P}{ops}{Q}{S}{id}{a}{w}(hm:P.follows .mixedOrders=true)(hS:S w.drew)
  (h:S w.drew->wpAnyH P .any ops Q S ops.size (Array.replicate ops.size false) a w.drew):(Code.region id ops true).wp P Q a w:=
 wp_region_any hm (wpAny_of_held _ _ _ _ (h hS))

end