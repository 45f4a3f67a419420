import Derived.Test.YtebpcnkdhgnghaaGreatDoorMacB
import Derived.Lib.Split
import Derived.Lib.Join
import Derived.Lib.ItoaNum
import Derived.Test.YtebpcnkdhgnghaaGreatDoorProg
import Derived.WalkSpells
import Derived.Lib.Hide
import Derived.LaidEql
import Derived.LaidMore
import Derived.SevenTiedAt
import Derived.Lib.SmallJoins
import Derived.Lib.LaidU8
set_option linter.unusedSimpArgs false
set_option linter.unusedVariables false
set_option maxRecDepth 100000
set_option maxHeartbeats 64000000
namespace Go.Proofs.YtebpcnkdhgnghaaGreatDoor
open Go.Proofs.Tryz
variable {s:ByteArray} {n other t:Int} {a b:Int×Int} {hx l name nm p1 p2 p3 p4 p5 value:List UInt8} {D k:Nat}
section
open Go
def hd (cur:List UInt8):List (List UInt8)->List (List UInt8)
 | []=>[cur]
 | p::ps=>(cur++p)::ps
theorem gy (a:List UInt8) (x:List (List UInt8)) (hx:x≠ []):(hd a x).length=x.length:=by
 cases x with
 | nil=>exact absurd rfl hx
 | cons p ps=>simp [hd]
def av:Nat->List UInt8->Option Nat
 | n,[]=>some n
 | n,c::r=>if c.toNat<48\/57<c.toNat then none else av (10*n+(c.toNat - 48)) r
def kY (D:Nat) (l:List UInt8):Option Nat:=if l.length<1\/D<l.length\/(l.getD 0 0).toNat=48/\1<l.length then none else av 0 l
abbrev RV:=Option (Nat⊕(Nat×Nat×Nat×Nat))
end
section
open Go
def dh (p:UInt8):List UInt8->List (List UInt8)
 | []=>[[]]
 | c::r=>if c=p then []::dh p r else hd [c] (dh p r)
theorem gB (p:UInt8) (l:List UInt8):dh p l≠ []:=by
 cases l with
 | nil=>simp [dh]
 | cons c r=>
  unfold dh
  split
  ·simp
  cases dh p r<;>simp [hd]
theorem iR (p:UInt8) (r:List UInt8):dh p (p::r)= []::dh p r:=by simp [dh]
theorem dL (p c:UInt8) (r:List UInt8) (h:c≠p):dh p (c::r)=hd [c] (dh p r):=by simp [dh,h]
theorem me (p:UInt8) (l:List UInt8):(dh p l).length<=l.length+1:=by
 induction l with
 | nil=>simp [dh]
 | cons c r ih=>
  by_cases h:c=p
  ·subst h;rw [iR];simp;omega
  rw [dL p c r h,gy _ _ (gB p r)];simp;omega
theorem lD (p:UInt8) (l:List UInt8):Lib.splitK [p] 0 0 l= [l]:=rfl
theorem no (p:UInt8) (k:Nat):Lib.splitK [p] 0 k []= [[]]:=by
 cases k with
 | zero=>rfl
 | succ k=>unfold Lib.splitK;rfl
theorem Fx (p:UInt8) (k:Nat) (l:List UInt8):Lib.splitK [p] 0 k l≠ []:=by
 cases k with
 | zero=>simp [Lib.splitK]
 | succ k=>unfold Lib.splitK;split<;>simp
theorem nt (p:UInt8) (k:Nat) (r:List UInt8):Lib.splitK [p] 0 (k+1) (p::r)= []::Lib.splitK [p] 0 k r:=by
 have h:Lib.index (p::r) [p]=0:=by rw [Lib.index_one];simp [Lib.indexByte]
 rw [Lib.splitK,if_neg (by rw [h];simp),h]
 simp
theorem kO (p:UInt8) (k:Nat) (c:UInt8) (r:List UInt8) (hc:c≠p):Lib.splitK [p] 0 (k+1) (c::r)=hd [c] (Lib.splitK [p] 0 (k+1) r):=by
 have h:Lib.index (c::r) [p]=if Lib.index r [p]== -1 then -1 else Lib.index r [p]+1:=by
  rw [Lib.index_one,Lib.index_one];simp [Lib.indexByte,hc]
 have g:=Lib.index_ge r [p]
 by_cases h1:Lib.index r [p]= -1
 ·rw [if_pos (by simp [h1])] at h
  have e1:Lib.splitK [p] 0 (k+1) (c::r)= [c::r]:=by unfold Lib.splitK;simp [h]
  have e2:Lib.splitK [p] 0 (k+1) r= [r]:=by unfold Lib.splitK;simp [h1]
  rw [e1,e2];simp [hd]
 rw [if_neg (by simp [h1])] at h
 obtain ⟨n,hn⟩:∃n:Nat,Lib.index r [p]=n:=⟨(Lib.index r [p]).toNat,zj⟩
 rw [hn] at h
 have e1:Lib.splitK [p] 0 (k+1) (c::r)=(c::r.take n)::Lib.splitK [p] 0 k (r.drop (n+1)):=by
  rw [Lib.splitK,if_neg (by rw [h];simp;omega),h]
  have:((n:Int)+1).toNat=n+1:=zj
  simp [this]
 have e2:Lib.splitK [p] 0 (k+1) r=r.take n::Lib.splitK [p] 0 k (r.drop (n+1)):=by
  rw [Lib.splitK,if_neg ya,hn]
  simp
 rw [e1,e2];simp [hd]
theorem od (p:UInt8) (l:List UInt8):∀k,(Lib.splitK [p] 0 k l).length=min (k+1) (dh p l).length:=by
 induction l with
 | nil=>intro k;rw [no];simp [dh]
 | cons c r ih=>
  intro k
  cases k with
  | zero=>
   have:=gB p (c::r)
   have:0<(dh p (c::r)).length:=uF.2 this
   rw [lD];simp;omega
  | succ k=>
   by_cases h:c=p
   ·subst h
    rw [nt,iR]
    simp [ih k]
   rw [kO p k c r h,dL p c r h,gy _ _ (Fx _ _ _),gy _ _ (gB _ _),ih (k+1)]
theorem FP (p:UInt8) (l:List UInt8):∀k,(dh p l).length<=k+1->Lib.splitK [p] 0 k l=dh p l:=by
 induction l with
 | nil=>intro k _;rw [no];rfl
 | cons c r ih=>
  intro k hk
  by_cases h:c=p
  ·subst h
   rw [iR] at hk |-
   have h0:0<(dh c r).length:=uF.2 (gB c r)
   cases k with
   | zero=>rw [jY] at hk;omega
   | succ k=>rw [nt,ih k (by simpa using hk)]
  rw [dL p c r h] at hk |-
  rw [gy _ _ (gB p r)] at hk
  cases k with
  | zero=>
   have:=ih 0 hk
   rw [lD] at this |-
   rw [<-this];simp [hd]
  | succ k=>rw [kO p k c r h,ih (k+1) hk]
theorem cU (p:UInt8) (a b:List UInt8) (h:p∉a):dh p (a++p::b)=a::dh p b:=by
 induction a with
 | nil=>simp [dh]
 | cons c r ih=>
  exact kj4
theorem Cu (p:UInt8) (a:List UInt8) (h:p∉a):dh p a= [a]:=by
 induction a with
 | nil=>simp [dh]
 | cons c r ih=>
  exact kj4
def eY (p:UInt8):List (List UInt8)->List UInt8
 | []=>[]
 | [a]=>a
 | a::b::r=>a++p::eY p (b::r)
theorem Dh (p:UInt8) (a:List UInt8) (x:List (List UInt8)) (h:x≠ []):eY p (a::x)=a++p::eY p x:=by
 cases x with
 | nil=>exact absurd rfl h
 | cons b r=>rfl
theorem Ia (p:UInt8) (c:UInt8) (x:List (List UInt8)) (h:x≠ []):eY p (hd [c] x)=c::eY p x:=by
 cases x with
 | nil=>exact absurd rfl h
 | cons b r=>
  cases r with
  | nil=>simp [hd,eY]
  | cons d r=>simp [hd,eY]
theorem Fs (p:UInt8) (l:List UInt8):eY p (dh p l)=l:=by
 induction l with
 | nil=>simp [dh,eY]
 | cons c r ih=>
  by_cases h:c=p
  ·subst h;rw [iR,Dh _ _ _ (gB c r),ih];rfl
  rw [dL p c r h,Ia p c _ (gB p r),ih]
theorem CK (p:UInt8) (a0 a1 a2 a3 a4 a5 a6 a7:List UInt8):Lib.join [a0,a1,a2,a3,a4,a5,a6,a7] [p]=eY p [a0,a1,a2,a3,a4,a5,a6,a7]:=by
 simp [Lib.join_cons,Lib.joinTail,eY]
theorem mq (x:List UInt8) (c:UInt8):∀a,av a (x++ [c])=(av a x).bind fun v=>if c.toNat<48\/57<c.toNat then none else some (10*v+(c.toNat - 48)):=by
 induction x with
 | nil=>intro a;simp [av]
 | cons d r ih=>
  intro a
  simp only [vX,av]
  split
  ·rfl
  exact ih _
theorem DL (x:List UInt8):∀a v,av a x=some v->a<=v:=by
 induction x with
 | nil=>intro a v h;simp [av] at h;omega
 | cons d r ih=>
  intro a v h
  simp only [av] at h
  split at h
  ·cases h
  have:=ih _ _ h;omega
theorem BM (n:Nat):av 0 (Lib.decDigits n)=some n:=by
 induction n using Nat.strongRecOn with
 | _ n ih=>
  rw [Lib.decDigits]
  split
  ·rename_i h
   have e:(UInt8.ofNat (48+n)).toNat=48+n:=zl
   simp only [av]
   rw [e,if_neg zj]
   simp
  rename_i h
  have e:(UInt8.ofNat (48+n % 10)).toNat=48+n % 10:=zl
  rw [mq,ih (n / 10) zj]
  simp only [Option.bind_some]
  rw [e,if_neg zj]
  congr 1
  omega
theorem pq (n:Nat):∀c∈Lib.decDigits n,48<=c.toNat/\c.toNat<=57:=by
 induction n using Nat.strongRecOn with
 | _ n ih=>
  intro c hc
  rw [Lib.decDigits] at hc
  split at hc
  ·have e:(UInt8.ofNat (48+n)).toNat=48+n:=by simp;omega
   rw [jS] at hc
   subst hc
   rw [e];omega
  have e:(UInt8.ofNat (48+n % 10)).toNat=48+n % 10:=zl
  rcases jO.1 hc with h | h
  ·exact ih (n / 10) zj c h
  rw [jS] at h
  subst h
  rw [e];omega
theorem Jg (n:Nat):Lib.decDigits n≠ []:=by
 rw [Lib.decDigits]
 split<;>simp
theorem Gi (n:Nat) (h:10<=n):((Lib.decDigits n).getD 0 0).toNat≠48:=by
 induction n using Nat.strongRecOn with
 | _ n ih=>
  rw [Lib.decDigits,dif_neg zj]
  have hne:=Jg (n / 10)
  have e:(Lib.decDigits (n / 10)++ [UInt8.ofNat (48+n % 10)]).getD 0 0=(Lib.decDigits (n / 10)).getD 0 0:=by
   cases hd:Lib.decDigits (n / 10) with
   | nil=>exact absurd hd hne
   | cons c r=>rfl
  rw [e]
  by_cases h2:n / 10<10
  ·rw [Lib.decDigits,dif_pos h2]
   have e:(UInt8.ofNat (48+n / 10)).toNat=48+n / 10:=zl
   show (UInt8.ofNat (48+n / 10)).toNat≠48
   rw [e];omega
  exact ih (n / 10) zj zj
theorem Lj (D:Nat):∀n,n<10^(D+1)->(Lib.decDigits n).length<=D+1:=by
 induction D with
 | zero=>intro n h;rw [Lib.decDigits,dif_pos zj];simp
 | succ D ih=>
  intro n h
  rw [Lib.decDigits]
  split
  ·simp
  have:n / 10<10^(D+1):=by rw [uP] at h;omega
  have:=ih _ this
  simp;omega
theorem Ik (D n:Nat) (h:n<10^(D+1)):kY (D+1) (Lib.decDigits n)=some n:=by
 unfold kY
 have h1:=uF.2 (Jg n)
 have h2:=Lj D n h
 rw [if_neg,BM]
 rintro (h3 | h3 | ⟨h3,h4⟩)
 ·omega
 ·omega
 by_cases h10:10<=n
 ·exact Gi n h10 h3
 rw [Lib.decDigits,dif_pos zj] at h4
 simp at h4
theorem fB (D:Nat) (a:Int) (h0:0<=a) (h:a.toNat<10^(D+1)):kY (D+1) (Lib.itoa a)=some a.toNat:=by
 rw [Lib.itoa,if_neg zj];exact Ik D _ h
theorem iG (a:Int) (p:UInt8) (hp:57<p.toNat) (h0:0<=a):p∉Lib.itoa a:=by
 rw [Lib.itoa,if_neg zj]
 intro hm
 have:=pq _ _ hm
 omega
theorem Nu (x:List UInt8):∀n v,x.length=n->av 0 x=some v->x≠ []->(x.getD 0 0).toNat≠48->Lib.decDigits v=x:=by
 intro n
 induction n generalizing x with
 | zero=>intro v hl _ hne;exact absurd (ve.1 hl) hne
 | succ n ih=>
  intro v hl hd hne hz
  obtain ⟨y,c,rfl⟩:∃y c,x=y++ [c]:=⟨x.dropLast,x.getLast hne,(List.dropLast_concat_getLast hne).symm⟩
  rw [mq] at hd
  cases hv:av 0 y with
  | none=>rw [hv] at hd;cases hd
  | some u=>
   rw [hv] at hd
   simp only [Option.bind_some] at hd
   by_cases hc:c.toNat<48\/57<c.toNat
   ·rw [if_pos hc] at hd;cases hd
   rw [if_neg hc] at hd
   have hd:=Option.some.inj hd
   by_cases hy:y= []
   ·subst hy
    simp [av] at hv
    subst hv
    rw [Lib.decDigits,dif_pos zj]
    have:48+v=c.toNat:=zj
    rw [this];simp
   have hy0:((y++ [c]).getD 0 0)=y.getD 0 0:=by
    cases y with
    | nil=>exact absurd rfl hy
    | cons b r=>rfl
   rw [hy0] at hz
   have hu:1<=u:=by
    cases y with
    | nil=>exact absurd rfl hy
    | cons b r=>
     simp only [av] at hv
     split at hv
     ·cases hv
     have:=DL _ _ _ hv
     have hz:b.toNat≠48:=hz
     omega
   have:=ih y u yJ hv hy hz
   rw [Lib.decDigits,dif_neg zj,show v / 10=u by omega,this,show 48+v % 10=c.toNat by omega]
   simp
theorem gx (D:Nat) (l:List UInt8) (v:Nat) (h:kY D l=some v):Lib.decDigits v=l:=by
 unfold kY at h
 split at h
 ·cases h
 rename_i hc
 have hne:l≠ []:=fun e=>hc (.inl (by rw [e];exact Nat.zero_lt_one))
 by_cases hz:(l.getD 0 0).toNat=48
 ·have hl:¬1<l.length:=fun e=>hc (.inr (.inr ⟨hz,e⟩))
  match l,hne with
  | [c],_=>
   have hz:c.toNat=48:=hz
   simp [av,hz] at h
   subst h
   rw [Lib.decDigits,dif_pos zj]
   have:c=48:=UInt8.toNat_inj.1 hz
   subst this;rfl
  | _::_::_,_=>simp at hl
 exact Nu l _ v rfl h hne hz
theorem MW (l:List UInt8):∀a v,av a l=some v->v<(a+1)*10^l.length:=by
 induction l with
 | nil=>intro a v h;simp [av] at h;simp;omega
 | cons c r ih=>
  intro a v h
  simp only [av] at h
  split at h
  ·cases h
  have:=ih _ _ h
  have h2:(10*a+(c.toNat - 48)+1)*10^r.length<=(10*(a+1))*10^r.length:=vK _ zj
  rw [jY,uP]
  have h3:(a+1)*(10^r.length*10)=(10*(a+1))*10^r.length:=by rw [uY (10^r.length) 10,<-Nat.mul_assoc,uY (a+1) 10]
  omega
theorem eE (D:Nat) (l:List UInt8) (v:Nat) (h:kY D l=some v):v<10^D:=by
 unfold kY at h
 split at h
 ·cases h
 rename_i hc
 have h1:=MW l 0 v h
 have h2:10^l.length<=10^D:=Nat.pow_le_pow_right zo zj
 omega
def iF (n:Nat):UInt8:=UInt8.ofNat (if n<10 then 48+n else 87+n)
def lW:List UInt8->List UInt8
 | []=>[]
 | c::r=>iF (c.toNat / 16)::iF (c.toNat % 16)::lW r
def Ch (c:UInt8):Option Nat:=if 48<=c.toNat/\c.toNat<=57 then some (c.toNat - 48) else if 97<=c.toNat/\c.toNat<=102 then some (c.toNat - 87) else none
def bK:List UInt8->Option (List UInt8)
 | []=>some []
 | [_]=>none
 | a::b::r=>
  match Ch a with
  | none=>none
  | some x=>match Ch b with
   | none=>none
   | some y=>(bK r).map fun l=>UInt8.ofNat (16*x+y)::l
theorem iB:∀n:Fin 16,Ch (iF n)=some n.1/\iF n≠124:=yI
theorem GT:∀c:Fin 256,∀x:Fin 16,Ch (UInt8.ofNat c)=some x.1->iF x=UInt8.ofNat c:=yI
theorem lm (c:UInt8) (x:Nat) (h:Ch c=some x):x<16:=by
 unfold Ch at h
 split at h
 ·simp at h;omega
 split at h
 ·simp at h;omega
 cases h
theorem FE (c:UInt8) (x:Nat) (h:Ch c=some x):iF x=c:=by
 have:=GT ⟨c.toNat,c.toNat_lt⟩ ⟨x,lm c x h⟩
 simp only [UInt8.ofNat_toNat] at this
 exact this h
theorem Dx (l:List UInt8):bK (lW l)=some l:=by
 induction l with
 | nil=>rfl
 | cons c r ih=>
  have hc:=c.toNat_lt
  have h1:=(iB ⟨c.toNat / 16,zj⟩).1
  have h2:=(iB ⟨c.toNat % 16,zj⟩).1
  simp only at h1 h2
  simp only [lW,bK,h1,h2,ih,uo]
  congr 2
  rw [show 16*(c.toNat / 16)+c.toNat % 16=c.toNat by omega]
  simp
theorem GD (l:List UInt8):(124:UInt8)∉lW l:=by
 induction l with
 | nil=>simp [lW]
 | cons c r ih=>
  have hc:=c.toNat_lt
  have h1:=(iB ⟨c.toNat / 16,zj⟩).2
  have h2:=(iB ⟨c.toNat % 16,zj⟩).2
  simp only at h1 h2
  simp only [lW,jQ,not_or]
  exact ⟨fun e=>h1 e.symm,fun e=>h2 e.symm,ih⟩
theorem gN (l:List UInt8):(lW l).length=2*l.length:=by
 induction l with
 | nil=>rfl
 | cons c r ih=>simp [lW,ih];omega
theorem Fl (n:Nat):∀l:List UInt8,l.length=n->n % 2=1->bK l=none:=by
 induction n using Nat.strongRecOn with
 | _ n ih=>
  intro l hl hn
  match l,hl with
  | [],hl=>simp at hl;omega
  | [_],_=>rfl
  | a::b::r,hl=>
   simp only [jY] at hl
   simp only [bK]
   rw [ih (n - 2) zj r zj zj]
   split
   ·rfl
   split<;>rfl
theorem EL (n:Nat):∀l v:List UInt8,l.length=n->bK l=some v->lW v=l:=by
 induction n using Nat.strongRecOn with
 | _ n ih=>
  intro l v hl h
  match l,hl,h with
  | [],_,h=>simp [bK] at h;subst h;rfl
  | [_],_,h=>simp [bK] at h
  | a::b::r,hl,h=>
   simp only [jY] at hl
   simp only [bK] at h
   cases ha:Ch a with
   | none=>rw [ha] at h;cases h
   | some x=>
    rw [ha] at h
    simp only at h
    cases hb:Ch b with
    | none=>rw [hb] at h;cases h
    | some y=>
     rw [hb] at h
     simp only at h
     cases hr:bK r with
     | none=>rw [hr] at h;cases h
     | some u=>
      rw [hr] at h
      have h:=Option.some.inj h
      subst h
      have h1:=lm _ _ ha
      have h2:=lm _ _ hb
      have e:(UInt8.ofNat (16*x+y)).toNat=16*x+y:=zl
      show lW (UInt8.ofNat (16*x+y)::u)=a::b::r
      rw [lW,e,show (16*x+y) / 16=x by omega,show (16*x+y) % 16=y by omega,FE _ _ ha,FE _ _ hb,ih (n - 2) zj r u zj hr]
def lz (c:UInt8):Bool:=decide (97<=c.toNat/\c.toNat<=122\/48<=c.toNat/\c.toNat<=57\/c.toNat=45\/c.toNat=46)
def pM (c:UInt8):Bool:=decide (32<=c.toNat/\c.toNat<=126)
def cO (l:List UInt8):Bool:=decide (1<=l.length) &&decide (l.length<=12) &&l.all lz
def mY (l:List UInt8):Bool:=l.all pM
def cR (id node other:Int) (name value:List UInt8):Nat:=if node<2\/id<node\/other<0\/id<=other then 3 else if cO name=false then 4 else if value≠ [] then 3 else 0
def nH (id node other:Int) (name value:List UInt8):Nat:=if node<0\/id<=node\/other<0\/id<=other then 3 else if name≠ [] then 4 else if value.length≠1\/mY value=false then 3 else 0
def oM (id node other:Int) (name value:List UInt8):Nat:=if node<0\/id<=node\/other<0\/id<=other\/other=0 then 3 else if name≠ [] then 4 else if value≠ [] then 3 else 0
def oQ (id node other:Int) (name value:List UInt8):Nat:=if node<0\/id<=node\/other≠0 then 3 else if cO name=false then 4 else if 12<value.length\/mY value=false then 3 else 0
def kB (id:Int) (k:Nat) (node other:Int) (name value:List UInt8):Nat:=
 if k=109 then cR id node other name value else if k=105 then nH id node other name value else if k=100 then oM id node other name value else if k=115 then oQ id node other name value else 5
def opE (t b n:Int) (k:Nat) (node other:Int) (name value:List UInt8):Nat:=
 if 1<=t/\t<=1073741824/\0<=b/\b<4/\1<=n/\n<=400 then kB (t*4+b) k node other name value else 2
theorem ax {b:Int} {node:Int} (h:opE t b n k node other name value=0):
  1<=t/\t<=1073741824/\0<=b/\b<4/\1<=n/\n<=400/\(k=109\/k=105\/k=100\/k=115)/\0<=node/\node<=t*4+b/\0<=other/\other<=t*4+b/\(124:UInt8)∉name/\name.length<=12/\value.length<=12:=by
 have nm:cO name=true->(124:UInt8)∉name/\name.length<=12:=fun hn=>by
  unfold cO at hn
  simp only [uk,decide_eq_true_eq] at hn
  refine ⟨fun hm=> ?_,hn.1.2⟩
  have:=List.all_eq_true.1 hn.2 _ hm
  revert this;decide
 unfold opE at h
 split at h
 ·rename_i hc
  obtain ⟨h1,h2,h3,h4,h5,h6⟩:=hc
  unfold kB at h
  split at h
  ·rename_i hk
   unfold cR at h
   split at h
   ·cases h
   split at h
   ·cases h
   rename_i hn
   split at h
   ·cases h
   rename_i hv
   have hv:value= []:=Decidable.not_not.1 hv
   have:=nm yV
   exact ⟨h1,h2,h3,h4,h5,h6,.inl hk,zj,zj,zj,zj,this.1,this.2,xY⟩
  split at h
  ·rename_i hk
   unfold nH at h
   split at h
   ·cases h
   split at h
   ·cases h
   rename_i hn
   split at h
   ·cases h
   rename_i hv
   have hn:name= []:=Decidable.not_not.1 hn
   subst hn
   exact ⟨h1,h2,h3,h4,h5,h6,.inr (.inl hk),zj,zj,zj,zj,zq,zq,zj⟩
  split at h
  ·rename_i hk
   unfold oM at h
   split at h
   ·cases h
   split at h
   ·cases h
   rename_i hn
   split at h
   ·cases h
   rename_i hv
   have hn:name= []:=Decidable.not_not.1 hn
   have hv:value= []:=Decidable.not_not.1 hv
   subst hn hv
   exact ⟨h1,h2,h3,h4,h5,h6,.inr (.inr (.inl hk)),zj,zj,zj,zj,zq,zq,zq⟩
  split at h
  ·rename_i hk
   unfold oQ at h
   split at h
   ·cases h
   split at h
   ·cases h
   rename_i hn
   split at h
   ·cases h
   have:=nm yV
   exact ⟨h1,h2,h3,h4,h5,h6,.inr (.inr (.inr hk)),zj,zj,zj,zj,this.1,this.2,zj⟩
  cases h
 cases h
def dX (t b n:Int) (k:Nat) (node other:Int) (name value:List UInt8):List UInt8:=
 eY 124 [[UInt8.ofNat k],Lib.itoa t,Lib.itoa b,Lib.itoa n,Lib.itoa node,Lib.itoa other,name,lW value]
abbrev LL:=UInt8×Nat×Nat×Nat×Nat×Nat×List UInt8×List UInt8
def ml (c:UInt8) (p1 p2 p3 p4 p5 nm hx:List UInt8):Option LL:=
 match kY 10 p1 with
 | none=>none
 | some n1=>match kY 10 p2 with
  | none=>none
  | some n2=>match kY 10 p3 with
   | none=>none
   | some n3=>match kY 10 p4 with
    | none=>none
    | some n4=>match kY 10 p5 with
     | none=>none
     | some n5=>match bK hx with
      | none=>none
      | some v=>some (c,n1,n2,n3,n4,n5,nm,v)
def bH (l:List UInt8):Option LL:=
 match dh 124 l with
 | [[c],p1,p2,p3,p4,p5,nm,hx]=>ml c p1 p2 p3 p4 p5 nm hx
 | _=>none
theorem kN {c:UInt8} (h:dh 124 l= [[c],p1,p2,p3,p4,p5,nm,hx]):bH l=ml c p1 p2 p3 p4 p5 nm hx:=by simp [bH,h]
theorem Co (h:(dh 124 l).length≠8):bH l=none:=by
 unfold bH
 split
 ·rename_i e;simp [e] at h
 rfl
theorem tZ {p0:List UInt8} (h:dh 124 l= [p0,p1,p2,p3,p4,p5,nm,hx]) (h0:p0.length≠1):bH l=none:=by
 unfold bH
 split
 ·rename_i e;rw [e] at h;simp at h;rw [<-h.1] at h0;simp at h0
 rfl
theorem Bw {b:Int} {node:Int} (h:opE t b n k node other name value=0):
  bH (dX t b n k node other name value)=some (UInt8.ofNat k,t.toNat,b.toNat,n.toNat,node.toNat,other.toNat,name,value):=by
 obtain ⟨h1,h2,h3,h4,h5,h6,hk,h7,h8,h9,h10,hn,-,-⟩:=ax h
 have hp:(57:Nat)<(124:UInt8).toNat:=zo
 have hk0:(124:UInt8)∉ [UInt8.ofNat k]:=by
  rcases hk with rfl | rfl | rfl | rfl<;>decide
 have hc:dh 124 (dX t b n k node other name value)= [[UInt8.ofNat k],Lib.itoa t,Lib.itoa b,Lib.itoa n,Lib.itoa node,Lib.itoa other,name,lW value]:=by
  unfold dX
  simp only [eY]
  rw [cU _ _ _ hk0,cU _ _ _ (iG t _ hp zj),cU _ _ _ (iG b _ hp zj),cU _ _ _ (iG n _ hp zj),cU _ _ _ (iG node _ hp zj),cU _ _ _ (iG other _ hp zj),cU _ _ _ hn,Cu _ _ (GD value)]
 rw [kN hc]
 unfold ml
 rw [fB 9 t zj zj,fB 9 b zj zj,fB 9 n zj zj,fB 9 node zj zj,fB 9 other zj zj,Dx]
theorem nC {v:List UInt8} {c:UInt8} {n1 n2 n3 n4 n5:Nat} (h:bH l=some (c,n1,n2,n3,n4,n5,nm,v)):dX n1 n2 n3 c.toNat n4 n5 nm v=l:=by
 have it:∀m:Nat,Lib.itoa (m:Int)=Lib.decDigits m:=fun m=>by rw [Lib.itoa,if_neg zj];rfl
 unfold bH at h
 split at h
 ·rename_i c' p1 p2 p3 p4 p5 nm' hx hc
  unfold ml at h
  split at h
  ·cases h
  rename_i m1 e1
  split at h
  ·cases h
  rename_i m2 e2
  split at h
  ·cases h
  rename_i m3 e3
  split at h
  ·cases h
  rename_i m4 e4
  split at h
  ·cases h
  rename_i m5 e5
  split at h
  ·cases h
  rename_i v' ev
  simp only [Option.some.injEq,Prod.mk.injEq] at h
  obtain ⟨rfl,rfl,rfl,rfl,rfl,rfl,rfl,rfl⟩:=h
  unfold dX
  rw [it,it,it,it,it,gx _ _ _ e1,gx _ _ _ e2,gx _ _ _ e3,gx _ _ _ e4,gx _ _ _ e5,EL _ _ _ rfl ev]
  rw [UInt8.ofNat_toNat,<-hc,Fs]
 cases h
end
section
open Go.RowKit
theorem fI (s:ByteArray) (k:Nat) (h:k<s.size):s.data.toList.drop k=s[k]::s.data.toList.drop (k+1):=by
 have hl:k<s.data.toList.length:=qy
 rw [un hl]
 simp
 rfl
theorem mP (s:ByteArray):s.data.toList.drop s.size= []:=by
 rw [List.drop_eq_nil_iff];simp
theorem JA (k v:Nat) (h:v<10^k) (hk:k<18):v<100000000000000000:=by
 have:10^k<=10^17:=Nat.pow_le_pow_right zo zj
 omega
theorem wA (k v d:Nat) (h:v<10^k) (hd:d<10):10*v+d<10^(k+1):=by
 rw [uP];omega
end
section
open Go.RowKit
theorem oW (n id:Int) (w:World) (h0:0<=n) (h1:n<id):
  Calls prog 250 #[.int .i64 n,.int .i64 id] w fun e w'=>e= .returned (.bool true)/\w'=w:=by
 go_enter func250,ntmps250
 exact ka9
theorem wX (n id:Int) (w:World) (h:n<0\/id<=n):
  Calls prog 250 #[.int .i64 n,.int .i64 id] w fun e w'=>e= .returned (.bool false)/\w'=w:=by
 by_cases h0:n<0
 ·clear h
  go_enter func250,ntmps250
  exact ka9
 have h1:id<=n:=zj
 have h2:0<=n:=zj
 have d:decide (n<id)=false:=zl
 clear h h0
 go_enter func250,ntmps250
 exact ka9
theorem NK (c:UInt8) (w:World):
  Calls prog 297 #[.int .u8 (c.toNat:Int)] w fun e w'=>e= .returned (.bool (lz c))/\w'=w:=by
 have hb:lz c=decide (97<=(c.toNat:Int)/\(c.toNat:Int)<=122\/48<=(c.toNat:Int)/\(c.toNat:Int)<=57\/(c.toNat:Int)=45\/(c.toNat:Int)=46):=by
  unfold lz
  rw [decide_eq_decide]
  omega
 rw [hb]
 clear hb
 generalize (c.toNat:Int)=x
 rcases (by omega:122<x\/(97<=x/\x<=122)\/(57<x/\x<97)\/(48<=x/\x<=57)\/x=46\/x=45\/(x<48/\x≠46/\x≠45)) with h | ⟨h,h'⟩ | ⟨h,h'⟩ | ⟨h,h'⟩ | h | h | ⟨h,h',h''⟩
 ·rw [decide_eq_false zj]
  have d1:decide (x<=122)=false:=zl
  have d2:decide (x<=57)=false:=zl
  have e1:(x==45)=false:=zl
  have e2:(x==46)=false:=zl
  go_enter func297,ntmps297
  exact ka9
 ·rw [decide_eq_true zj]
  go_enter func297,ntmps297
  exact ka9
 ·rw [decide_eq_false zj]
  have d1:decide (97<=x)=false:=zl
  have d2:decide (x<=57)=false:=zl
  have e1:(x==45)=false:=zl
  have e2:(x==46)=false:=zl
  go_enter func297,ntmps297
  exact ka9
 ·rw [decide_eq_true zj]
  have d1:decide (97<=x)=false:=zl
  go_enter func297,ntmps297
  exact ka9
 ·subst h
  go_enter func297,ntmps297
  exact ka9
 ·subst h
  go_enter func297,ntmps297
  exact ka9
 rw [decide_eq_false zj]
 have d1:decide (97<=x)=false:=zl
 have d2:decide (48<=x)=false:=zl
 have e1:(x==45)=false:=zl
 have e2:(x==46)=false:=zl
 go_enter func297,ntmps297
 exact ka9
theorem Jk (s:ByteArray) (f:UInt8->Bool) (k:Nat) (h:k<s.size):(s.data.toList.drop k).all f=(f s[k] &&(s.data.toList.drop (k+1)).all f):=by
 rw [fI s k h,List.all_cons]
theorem Gt (s:ByteArray) (w:World) (hs:s.size<=1000000):
  Calls prog 251 #[.string s] w fun e w'=>e= .returned (.bool (cO s.data.toList))/\w'=w:=by
 have hl:s.data.toList.length=s.size:=zq
 by_cases h1:s.size<1
 ·have d1:decide ((s.size:Int)<1)=true:=by simp;omega
  have hr:cO s.data.toList=false:=by unfold cO;rw [hl,decide_eq_false zj];rfl
  rw [hr]
  go_enter func251,ntmps251
  exact ka9
 by_cases h2:12<s.size
 ·have d1:decide ((s.size:Int)<1)=false:=by simp;omega
  have d2:decide (12<(s.size:Int))=true:=zl
  have hr:cO s.data.toList=false:=by unfold cO;rw [hl,decide_eq_false (show ¬s.size<=12 by omega)];simp
  rw [hr]
  go_enter func251,ntmps251
  exact ka9
 have d1:decide ((s.size:Int)<1)=false:=zl
 have d2:decide (12<(s.size:Int))=false:=zl
 have hr:cO s.data.toList=s.data.toList.all lz:=by unfold cO;rw [hl,decide_eq_true (show s.size<=12 by omega),decide_eq_true (show 1<=s.size by omega)];rfl
 rw [hr]
 generalize hR:s.data.toList.all lz=R
 have HR:=Lib.hid hR
 clear hR hr hl
 go_enter func251,ntmps251
 go_wp2
 go_loop [14] (fun i=>∃k:Nat,k<=s.size/\i= .int .i64 k/\Hid ((s.data.toList.drop k).all lz=R)) (fun i=>s.size - (intOf i).toNat)
 case atStart=>exact ⟨0,jX _,rfl,Lib.hid yT⟩
 case round=>
  obtain ⟨k,hk,rfl,HD⟩:=hrel
  by_cases hlt:k<s.size
  ·have hd:decide ((k:Int)<(s.size:Int))=true:=by simp;omega
   have HA:=Lib.hid ((Jk s lz k hlt).symm.trans HD.o)
   clear HD
   go_wp2_with fail
   refine (NK _ _).mono ?_
   rintro e w' ⟨rfl,rfl⟩
   cases hb:lz s[k] with
   | true=>
    have HE:Hid ((s.data.toList.drop (k+1)).all lz=R):=Lib.hid (by have:=HA.o;rw [hb,Bool.true_and] at this;exact this)
    go_wp2
    go_round
    case rel=>exact ⟨k+1,zj,zI,HE⟩
    case measure=>simp [intOf];omega
   | false=>
    have HE:Hid (R=false):=Lib.hid (by have:=HA.o;rw [hb,Bool.false_and] at this;exact this.symm)
    go_wp2
    go_ret
    exact ⟨by rw [HE.o];rfl,rfl⟩
  exact kf7
theorem IQ (s:ByteArray) (w:World) (hs:s.size<=1000000):
  Calls prog 252 #[.string s] w fun e w'=>e= .returned (.bool (mY s.data.toList))/\w'=w:=by
 unfold mY
 generalize hR:s.data.toList.all pM=R
 have HR:=Lib.hid hR
 clear hR
 go_enter func252,ntmps252
 go_wp2
 go_loop [6] (fun i=>∃k:Nat,k<=s.size/\i= .int .i64 k/\Hid ((s.data.toList.drop k).all pM=R)) (fun i=>s.size - (intOf i).toNat)
 case atStart=>exact ⟨0,jX _,rfl,Lib.hid yT⟩
 case round=>
  obtain ⟨k,hk,rfl,HD⟩:=hrel
  by_cases hlt:k<s.size
  ·have hd:decide ((k:Int)<(s.size:Int))=true:=by simp;omega
   have HA:=Lib.hid ((Jk s pM k hlt).symm.trans HD.o)
   clear HD
   by_cases g1:s[k].toNat<32
   ·have l1:decide ((s[k].toNat:Int)<32)=true:=by simp;omega
    exact ke7
   have l1:decide ((s[k].toNat:Int)<32)=false:=zl
   by_cases g2:126<s[k].toNat
   ·have l2:decide (126<(s[k].toNat:Int))=true:=by simp;omega
    exact ke7
   have l2:decide (126<(s[k].toNat:Int))=false:=zl
   have HE:Hid ((s.data.toList.drop (k+1)).all pM=R):=Lib.hid (by
    have:=HA.o
    rw [show pM s[k]=true by unfold pM;rw [decide_eq_true zj],Bool.true_and] at this
    exact this)
   go_wp2
   go_round
   case rel=>exact ⟨k+1,zj,zI,HE⟩
   case measure=>simp [intOf];omega
  exact kf7
end
section
open Go.RowKit
theorem MB (D:Nat) (hD:D<=18) (s:ByteArray) (w:World) (h1:1<=s.size) (h4:s.size<=D) (hz:¬(s[0].toNat=48/\1<s.size)):
  Calls prog 362 #[.string s,.int .i64 (D:Int)] w fun e w'=>e= .returned (.tuple #[.int .i64 ((av 0 s.data.toList).getD 0:Nat),.bool (av 0 s.data.toList).isSome])/\w'=w:=by
 have hs0:0<s.size:=h1
 have d1:decide ((s.size:Int)<1)=false:=zl
 have d4:decide ((D:Int)<(s.size:Int))=false:=zl
 have hc:(((s[0].toNat:Int)==48)=true/\decide (1<(s.size:Int))=false)\/(((s[0].toNat:Int)==48)=false/\True):=by
  by_cases e:s[0].toNat=48
  ·refine .inl ⟨by simp [e],?_⟩
   simp;omega
  refine .inr ⟨?_,trivial⟩
  simp;omega
 have H4:=Lib.hid h4
 clear hz h1 h4
 generalize hR:av 0 s.data.toList=R
 have HR:=Lib.hid hR
 clear hR
 rcases hc with ⟨e0,d5⟩ | ⟨e0,d5⟩
 ·go_enter func362,ntmps362
  go_wp2
  go_loop [6,30] (fun n i=>∃k v:Nat,k<=s.size/\i= .int .i64 k/\n= .int .i64 v/\Hid (av v (s.data.toList.drop k)=R)/\v<10^k) (fun _ i=>s.size - (intOf i).toNat)
  case atStart=>exact ⟨0,0,jX _,rfl,rfl,Lib.hid yT,zq⟩
  case round=>
   obtain ⟨k,v,hk,rfl,rfl,HD,hv⟩:=hrel
   by_cases hlt:k<s.size
   ·have hd:decide ((k:Int)<(s.size:Int))=true:=by simp;omega
    by_cases hdig:48<=s[k].toNat/\s[k].toNat<=57
    ·obtain ⟨g1,g2⟩:=hdig
     have l1:decide ((s[k].toNat:Int)<48)=false:=zl
     have l2:decide (57<(s[k].toNat:Int))=false:=zl
     have hk3:k<18:=by have:=H4.o;omega
     have hv3:=JA k v hv hk3
     have HE:Hid (av (10*v+(s[k].toNat - 48)) (s.data.toList.drop (k+1))=R):=Lib.hid (by
      have:=HD.o
      rw [fI s k hlt,av,if_neg zj] at this
      exact this)
     have HV:=Lib.hid (wA k v (s[k].toNat - 48) hv zj)
     clear HD hv
     go_wp2
     go_round
     case rel=>exact ⟨k+1,10*v+(s[k].toNat - 48),zj,zI,zI,HE,HV.o⟩
     case measure=>simp [intOf];omega
    have HN:Hid (R=none):=Lib.hid (by
     have:=HD.o
     rw [fI s k hlt,av,if_pos zj] at this
     exact this.symm)
    clear HD
    by_cases hlo:s[k].toNat<48
    ·have l1:decide ((s[k].toNat:Int)<48)=true:=by simp;omega
     clear hdig
     exact kf5
    have l1:decide ((s[k].toNat:Int)<48)=false:=zl
    have l2:decide (57<(s[k].toNat:Int))=true:=zl
    clear hdig
    exact kf5
   have hd:decide ((k:Int)<(s.size:Int))=false:=zl
   have HN:Hid (R=some v):=Lib.hid (by
    have:=HD.o
    rw [show k=s.size by omega,mP,av] at this
    exact this.symm)
   clear HD
   exact kf5
 go_enter func362,ntmps362
 go_wp2
 go_loop [6,30] (fun n i=>∃k v:Nat,k<=s.size/\i= .int .i64 k/\n= .int .i64 v/\Hid (av v (s.data.toList.drop k)=R)/\v<10^k) (fun _ i=>s.size - (intOf i).toNat)
 case atStart=>exact ⟨0,0,jX _,rfl,rfl,Lib.hid yT,zq⟩
 case round=>
  obtain ⟨k,v,hk,rfl,rfl,HD,hv⟩:=hrel
  by_cases hlt:k<s.size
  ·have hd:decide ((k:Int)<(s.size:Int))=true:=by simp;omega
   by_cases hdig:48<=s[k].toNat/\s[k].toNat<=57
   ·obtain ⟨g1,g2⟩:=hdig
    have l1:decide ((s[k].toNat:Int)<48)=false:=zl
    have l2:decide (57<(s[k].toNat:Int))=false:=zl
    have hk3:k<18:=by have:=H4.o;omega
    have hv3:=JA k v hv hk3
    have HE:Hid (av (10*v+(s[k].toNat - 48)) (s.data.toList.drop (k+1))=R):=Lib.hid (by
     have:=HD.o
     rw [fI s k hlt,av,if_neg zj] at this
     exact this)
    have HV:=Lib.hid (wA k v (s[k].toNat - 48) hv zj)
    clear HD hv
    go_wp2
    go_round
    case rel=>exact ⟨k+1,10*v+(s[k].toNat - 48),zj,zI,zI,HE,HV.o⟩
    case measure=>simp [intOf];omega
   have HN:Hid (R=none):=Lib.hid (by
    have:=HD.o
    rw [fI s k hlt,av,if_pos zj] at this
    exact this.symm)
   clear HD
   by_cases hlo:s[k].toNat<48
   ·have l1:decide ((s[k].toNat:Int)<48)=true:=by simp;omega
    clear hdig
    exact kf5
   have l1:decide ((s[k].toNat:Int)<48)=false:=zl
   have l2:decide (57<(s[k].toNat:Int))=true:=zl
   clear hdig
   exact kf5
  have hd:decide ((k:Int)<(s.size:Int))=false:=zl
  have HN:Hid (R=some v):=Lib.hid (by
   have:=HD.o
   rw [show k=s.size by omega,mP,av] at this
   exact this.symm)
  clear HD
  exact kf5
theorem Gn (D:Nat) (hD:D<=18) (s:ByteArray) (w:World) (h:s.size<1\/D<s.size):
  Calls prog 362 #[.string s,.int .i64 (D:Int)] w fun e w'=>e= .returned (.tuple #[.int .i64 0,.bool false])/\w'=w:=by
 rcases h with h | h
 ·have d1:decide ((s.size:Int)<1)=true:=by simp;omega
  go_enter func362,ntmps362
  go_wp2
  go_ret2
  exact ki0
 have d1:decide ((s.size:Int)<1)=false:=zl
 have d4:decide ((D:Int)<(s.size:Int))=true:=zl
 go_enter func362,ntmps362
 go_wp2
 go_ret2
 exact ki0
theorem Kf (D:Nat) (s:ByteArray) (w:World) (h1:1<s.size) (h4:s.size<=D) (hz:s[0].toNat=48):
  Calls prog 362 #[.string s,.int .i64 (D:Int)] w fun e w'=>e= .returned (.tuple #[.int .i64 0,.bool false])/\w'=w:=by
 have hs0:0<s.size:=zj
 have d1:decide ((s.size:Int)<1)=false:=zl
 have d4:decide ((D:Int)<(s.size:Int))=false:=zl
 have d5:decide (1<(s.size:Int))=true:=zl
 have e0:((s[0].toNat:Int)==48)=true:=jd
 clear hz
 go_enter func362,ntmps362
 go_wp2
 go_ret2
 exact ki0
theorem LB (h1:1<=s.size) (h4:s.size<=D) (hz:¬(s[0].toNat=48/\1<s.size)):kY D s.data.toList=av 0 s.data.toList:=by
 have h0:s.data.toList.getD 0 0=s[0]:=by
  have:=fI s 0 h1
  rw [List.drop_zero] at this
  rw [this];rfl
 have hl:s.data.toList.length=s.size:=zq
 unfold kY
 rw [if_neg (by rw [h0,hl];omega)]
theorem Hv (h:s.size<1\/D<s.size):kY D s.data.toList=none:=by
 have hl:s.data.toList.length=s.size:=zq
 unfold kY
 rw [if_pos (by rw [hl];omega)]
theorem Er (h1:1<s.size) (hz:s[0].toNat=48):kY D s.data.toList=none:=by
 have h0:s.data.toList.getD 0 0=s[0]:=by
  have:=fI s 0 zj
  rw [List.drop_zero] at this
  rw [this];rfl
 have hl:s.data.toList.length=s.size:=zq
 unfold kY
 rw [if_pos (by rw [h0,hl];omega)]
theorem rt (D:Nat) (hD:D<=18) (s:ByteArray) (w:World):
  Calls prog 362 #[.string s,.int .i64 (D:Int)] w fun e w'=>e= .returned (.tuple #[.int .i64 ((kY D s.data.toList).getD 0:Nat),.bool (kY D s.data.toList).isSome])/\w'=w:=by
 by_cases h:s.size<1\/D<s.size
 ·rw [Hv h];exact Gn D hD s w h
 by_cases hz:(s[0]'zj).toNat=48
 ·by_cases h1:1<s.size
  ·rw [Er h1 hz];exact Kf D s w h1 zj hz
  exact kk9
 exact kk9
end
section
abbrev CLt (a b:Int×Int):Prop:=a.1<b.1\/(a.1=b.1/\a.2<b.2)
theorem dJ :¬CLt a a:=by unfold CLt;omega
theorem fC {c:Int×Int} (h:CLt a b) (k:CLt b c):CLt a c:=by unfold CLt at*;omega
theorem DS (h:a≠b):CLt a b\/CLt b a:=by
 unfold CLt
 have:a.1≠b.1\/a.2≠b.2:=by
  rcases a with ⟨x,y⟩
  rcases b with ⟨z,t⟩
  simp only [ne_eq,Prod.mk.injEq] at h
  simp only
  omega
 omega
theorem PY (h:¬CLt a b):b=a\/CLt b a:=by
 by_cases e:a=b
 ·exact .inl e.symm
 rcases DS e with h' | h'
 ·exact absurd h' h
 exact .inr h'
abbrev dw:=Int×ByteArray
abbrev bQ:=ByteArray×(Int×Int)
abbrev eD:=dw->Option bQ
def noC:eD:=fun _=>none
def gH (f:eD) (k:dw) (c:bQ):Bool:=match f k with
 | none=>true
 | some o=>decide (CLt o.2 c.2)
def pJ (f:eD) (m:dw×bQ):eD:=if gH f m.1 m.2 then fun k=>if k=m.1 then some m.2 else f k else f
def nZ (l:List (dw×bQ)) (f:eD):eD:=l.foldl pJ f
theorem nI (l:List (dw×bQ)) (m:dw×bQ) (f:eD):nZ (l++ [m]) f=pJ (nZ l f) m:=by simp [nZ]
theorem Bq {f:eD} {m:dw×bQ} {k:dw} (h:k≠m.1):pJ f m k=f k:=by
 unfold pJ
 split
 ·exact if_neg h
 rfl
theorem Dk {f:eD} {m:dw×bQ} (h:f m.1=none):pJ f m m.1=some m.2:=by
 unfold pJ gH
 rw [h]
 simp
theorem GN {f:eD} {m:dw×bQ} {o:bQ} (h:f m.1=some o):pJ f m m.1=if CLt o.2 m.2.2 then some m.2 else some o:=by
 unfold pJ gH
 rw [h]
 by_cases k:CLt o.2 m.2.2
 ·simp [k]
 simp [k,h]
def Il (l:List (dw×bQ)) (k:dw) (r:Option bQ):Prop:=match r with
 | none=>∀c,(k,c)∉l
 | some c=>(k,c)∈l/\∀d,(k,d)∈l->¬CLt c.2 d.2
theorem ir (l:List (dw×bQ)) (k:dw):Il l k (nZ l noC k):=by
 have key:∀(n:Nat) (l:List (dw×bQ)),l.length=n->Il l k (nZ l noC k):=by
  intro n
  induction n with
  | zero=>
   intro l hn
   obtain rfl:=ve.1 hn
   exact fun c hc=>by simp at hc
  | succ n ih=>
   intro l hn
   obtain ⟨s,m,rfl⟩:∃s m,l=s++ [m]:=by
    refine ⟨l.dropLast,l.getLast (by intro e;rw [e] at hn;cases hn),(List.dropLast_concat_getLast _).symm⟩
   have h:=ih s yV
   rw [nI]
   by_cases hk:k=m.1
   ·subst hk
    cases hf:nZ s noC m.1 with
    | none=>
     rw [hf] at h
     rw [Dk hf]
     refine ⟨zq,fun d hd=> ?_⟩
     rcases jO.1 hd with hd | hd
     ·exact absurd hd (h d)
     exact kj2
    | some o=>
     rw [hf] at h
     rw [GN hf]
     by_cases hlt:CLt o.2 m.2.2
     ·rw [if_pos hlt]
      refine ⟨zq,fun d hd=> ?_⟩
      rcases jO.1 hd with hd | hd
      ·exact fun hc=>h.2 d hd (fC hlt hc)
      exact kj2
     rw [if_neg hlt]
     refine ⟨vg _ h.1,fun d hd=> ?_⟩
     rcases jO.1 hd with hd | hd
     ·exact h.2 d hd
     have e:(m.1,d)=m:=by simpa using hd
     have e2:d=m.2:=by rw [<-e]
     rw [e2]
     exact hlt
   rw [Bq hk]
   cases hf:nZ s noC k with
   | none=>
    rw [hf] at h
    intro c hc
    rcases jO.1 hc with hc | hc
    ·exact h c hc
    have e:(k,c)=m:=by simpa using hc
    exact hk (by rw [<-e])
   | some o=>
    rw [hf] at h
    refine ⟨vg _ h.1,fun d hd=> ?_⟩
    rcases jO.1 hd with hd | hd
    ·exact h.2 d hd
    have e:(k,d)=m:=by simpa using hd
    exact absurd (by rw [<-e]) hk
 exact key _ l rfl
def OI (l:List (dw×bQ)):Prop:=∀k c d,(k,c)∈l->(k,d)∈l->c.2=d.2->c=d
theorem FS {l r:List (dw×bQ)} {k:dw} {x y:Option bQ} (hm:∀m,m∈l↔m∈r) (h1:OI l) (hx:Il l k x) (hy:Il r k y):x=y:=by
 cases x with
 | none=>
  cases y with
  | none=>rfl
  | some d=>exact absurd ((hm _).2 hy.1) (hx d)
 | some c=>
  cases y with
  | none=>exact absurd ((hm _).1 hx.1) (hy c)
  | some d=>
   have a1:=hx.2 d ((hm _).2 hy.1)
   have a2:=hy.2 c ((hm _).1 hx.1)
   rcases PY a1 with e | e
   ·rw [h1 k c d hx.1 ((hm _).2 hy.1) e.symm]
   exact absurd e a2
theorem pm {l r:List (dw×bQ)} (hm:∀m,m∈l↔m∈r) (h1:OI l):nZ l noC=nZ r noC:=by
 funext k
 exact FS hm h1 (ir l k) (ir r k)
end
section
abbrev KLt (a b:dw):Prop:=a.1<b.1\/(a.1=b.1/\a.2.data.toList<b.2.data.toList)
theorem Ix {a b:ByteArray} (h:a.data.toList=b.data.toList):a=b:=by
 rcases a with ⟨⟨a⟩⟩
 rcases b with ⟨⟨b⟩⟩
 simp only at h
 rw [h]
theorem np {a b:List UInt8} (h:a≠b):a<b\/b<a:=by
 by_cases h1:a<b
 ·exact .inl h1
 by_cases h2:b<a
 ·exact .inr h2
 exact absurd (List.le_antisymm (List.not_lt.1 h2) (List.not_lt.1 h1)) h
theorem ny {a:dw} :¬KLt a a:=by
 rintro (h | ⟨_,h⟩)
 ·omega
 exact List.lt_irrefl _ h
theorem mW {a b c:dw} (h:KLt a b) (k:KLt b c):KLt a c:=by
 rcases h with h | ⟨h1,h2⟩
 ·rcases k with k | ⟨k1,_⟩
  ·exact .inl zj
  exact .inl zj
 rcases k with k | ⟨k1,k2⟩
 ·exact .inl zj
 exact .inr ⟨zj,List.lt_trans h2 k2⟩
theorem pF {a b:dw} (h:a≠b):KLt a b\/KLt b a:=by
 by_cases h1:a.1=b.1
 ·have h2:a.2.data.toList≠b.2.data.toList:=fun e=>h (Prod.ext h1 (Ix e))
  rcases np h2 with k | k
  ·exact .inl (.inr ⟨h1,k⟩)
  exact .inr (.inr ⟨h1.symm,k⟩)
 by_cases h2:a.1<b.1
 ·exact .inl (.inl h2)
 exact .inr (.inl zj)
theorem ew {α:Type} {R:α->α->Prop} (irr:∀a,¬R a a) (tr:∀a b c,R a b->R b c->R a c):∀ {L M:List α},L.Pairwise R->M.Pairwise R->(∀p,p∈L↔p∈M)->L=M
 | [],[],_,_,_=>rfl
 | [],b::r,_,_,h=>by have:=(h b).2 zq;simp at this
 | a::r,[],_,_,h=>by have:=(h a).1 zq;simp at this
 | a::r,b::s,hl,hm,h=>by
  obtain ⟨h1,h2⟩:=vF.1 hl
  obtain ⟨k1,k2⟩:=vF.1 hm
  have e:a=b:=by
   rcases jQ.1 ((h a).1 zq) with e | ha
   ·exact e
   rcases jQ.1 ((h b).2 zq) with e | hb
   ·exact e.symm
   exact absurd (tr _ _ _ (h1 b hb) (k1 a ha)) (irr a)
  subst e
  rw [ew irr tr h2 k2 (fun p=> ?_)]
  constructor
  ·intro hp
   rcases jQ.1 ((h p).1 (by simp [hp])) with e | hp'
   ·subst e;exact absurd (h1 p hp) (irr p)
   exact hp'
  intro hp
  rcases jQ.1 ((h p).2 (by simp [hp])) with e | hp'
  ·subst e;exact absurd (k1 p hp) (irr p)
  exact hp'
theorem rh {f:eD} {m:dw×bQ} (h:gH f m.1 m.2=true):pJ f m=fun k=>if k=m.1 then some m.2 else f k:=by unfold pJ;rw [if_pos h]
theorem BN {f:eD} {m:dw×bQ} (h:gH f m.1 m.2=false):pJ f m=f:=by unfold pJ;rw [if_neg (by rw [h];simp)]
abbrev Mrk:=Int×ByteArray×ByteArray
abbrev ia (m:Mrk):dw:=(m.1,m.2.1)
structure IsMarks (f:eD) (L:List Mrk):Prop where
 rise:L.Pairwise (fun a b=>KLt (ia a) (ia b))
 mem:∀p:Mrk,p∈L↔p.2.2.size≠0/\∃s,f (ia p)=some (p.2.2,s)
theorem IsMarks.unique {f:eD} {L M:List Mrk} (h:IsMarks f L) (k:IsMarks f M):L=M:=
 ew (R:=fun a b=>KLt (ia a) (ia b)) (fun _=>ny) (fun _ _ _=>mW) h.rise k.rise (fun p=>(h.mem p).trans (k.mem p).symm)
structure OE (f:eD) (L:List (dw×bQ)):Prop where
 rise:L.Pairwise (fun a b=>KLt a.1 b.1)
 mem:∀k c,(k,c)∈L↔f k=some c
end
section
open Go.RowKit
theorem Gr {W w1:World} (hb:Below W.heap.size W w1):(∀b o,b<W.heap.size->w1.cell? ⟨b,o,none⟩=W.cell? ⟨b,o,none⟩)/\(∀b o,b<W.heap.size->w1.frozen? ⟨b,o,none⟩=W.frozen? ⟨b,o,none⟩):=
 ⟨fun b o h=>hb.cell (p:=⟨b,o,none⟩) h,fun b o h=>hb.frozen (p:=⟨b,o,none⟩) h⟩
theorem kq (t b:Int) (w:World) (h1:1<=t) (h2:t<=1073741824) (h3:0<=b) (h4:b<4):
  Calls prog 249 #[.agg #[.int .i64 t,.int .i64 b]] w fun e w'=>e= .returned .nilIface/\Below w.heap.size w w':=by
 exact kc9
theorem pW (t b:Int) (w:World) (eb:Value) (hg:w.cell? ⟨0,0,none⟩=some eb) (hz:0<w.heap.size) (h:¬(1<=t/\t<=1073741824/\0<=b/\b<4)):
  Calls prog 249 #[.agg #[.int .i64 t,.int .i64 b]] w fun e w'=>e= .returned eb/\Below w.heap.size w w':=by
 by_cases h1:1<=t
 ·by_cases h2:t<=1073741824
  ·by_cases h3:0<=b
   ·have h4:4<=b:=by omega
    have d4:decide (b<4)=false:=zl
    clear h
    exact kc9
   have h4:b<0:=zj
   clear h h3
   exact kc9
  have h4:1073741824<t:=zj
  clear h h2
  exact kc9
 have h4:t<1:=zj
 clear h h1
 exact kc9
end
section
open Go.RowKit
theorem CN (t b:Int) (w:World) (h1:1<=t) (h2:t<=1073741824) (h3:0<=b) (h4:b<4):
  Calls prog 185 #[.agg #[.int .i64 t,.int .i64 b]] w fun e w'=>e= .returned (.tuple #[.int .i64 (t*4+b),.nilIface])/\Below w.heap.size w w':=by
 go_enter func185,ntmps185
 go_wp2_with (go_at_call 249;refine (kq _ _ _ h1 h2 h3 h4).mono ?_;rintro e w1 ⟨rfl,hb⟩;obtain ⟨hc,hf⟩:=Gr hb)
 exact kl3
theorem On (t b:Int) (w:World) (u:TypeId) (x:Value) (hg:w.cell? ⟨0,0,none⟩=some (.iface u x)) (hz:0<w.heap.size) (h:¬(1<=t/\t<=1073741824/\0<=b/\b<4)):
  Calls prog 185 #[.agg #[.int .i64 t,.int .i64 b]] w fun e w'=>e= .returned (.tuple #[.int .i64 0,.iface u x])/\Below w.heap.size w w':=by
 have H:Hid (¬(1<=t/\t<=1073741824/\0<=b/\b<4)):=h
 clear h
 go_enter func185,ntmps185
 go_wp2_with fail
 refine (pW t b _ (.iface u x) (by rw [uq _ _ _ hz];exact hg) yG H.o).mono ?_
 rintro e w1 ⟨rfl,hb⟩
 obtain ⟨hc,hf⟩:=Gr hb
 go_wp2
 exact kl3
end
section
open Go.RowKit
end
section
open Go.RowKit
end
section
open Go.ChangeShapes Go.WideShapes Go.RowKit Go.Deep
theorem Dn:prog.cellsOf 3=1:=zk
