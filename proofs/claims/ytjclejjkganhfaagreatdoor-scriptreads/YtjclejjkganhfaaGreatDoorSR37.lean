import Derived.Test.YtjclejjkganhfaaGreatDoorSR09
import Derived.Test.YtjclejjkganhfaaGreatDoorSR36
set_option linter.unusedSimpArgs false
set_option linter.unusedVariables false
set_option maxRecDepth 100000
namespace Go.Proofs.YtjclejjkganhfaaGreatDoor
open Go.Proofs.Tryz
section
open RowKit Lib Go.Sort Maps
open scoped Classical
def Xp(A:qX)(ms:List Mov)(qs:List Plc):Prop:=ms.Perm (pz A)/\mn ms/\C3 (lM ms) qs
def Sq(A:qX)(i:Int)(es:List Enx):Prop:=∃ms qs,Xp A ms qs/\Sl qs i es
def Ph(A:qX)(path:qU)(b:Int)(is:Bool):Prop:=
 (Lib.hasPrefix path [47]=false/\b=0/\is=false)\/(path= [47]/\b=0/\is=true)\/
 ∃nm,path=47::nm/\nm≠ []/\∃ms qs,Xp A ms qs/\((is=true/\M7 qs 0 (nF 47 nm) b)\/(is=false/\b=0/\∃pre n1 rest b1,pre++n1::rest=nF 47 nm/\M7 qs 0 pre b1/\GM qs b1 n1))
def TP(A:qX)(l8:Int)(s:qU)(is:Bool):Prop:=
 (l8=0/\s= [47]/\is=true)\/(l8≠0/\∃ms qs,Xp A ms qs/\((¬Ins (lM ms) l8 0/\s= []/\is=false)\/(Ins (lM ms) l8 0/\∃L,UpL (lM ms) l8 L/\s=Pn qs L/\is=true)))
def Ex:qU:=[110,111,116,104,105,110,103]
def okE(cd:Nat):qU:=if cd=0 then [111,107] else oh cd
def DoS(K:qH)(st:qD)(N:qJ)(r:Nat)(y:OpX)(K':qH)(st':qD)(N':qJ)(a:qU):Prop:=N'=N/\∃T y0 cd0 yy cd,oE (lX (K r)) T/\FN (lX (K r)) T r (K r r).length y (y0,cd0)/\DoX K K' st st' r y0 cd0 yy cd/\a=(if cd=0 then Lib.itoa (idO yy) else oh cd)
def zaM(g:Nat)(x:Lr)(K:qH)(st:qD)(N:qJ)(K':qH)(st':qD)(N':qJ)(a:qU):Prop:=match g with
 | 31=>∃(r:Nat) (n0:Int) (x0:qY),x=([(r:Int)],[n0],[x0])/\DoS K st N r (0,0,0,109,0,n0,x0,⟨#[]⟩) K' st' N' a
 | 33=>∃(r:Nat) (n0 n1:Int) (x0:qY),x=([(r:Int)],[n0,n1],[x0])/\((n0=0/\K'=K/\st'=st/\N'=N/\a=oh 6)\/(n0≠0/\DoS K st N r (0,0,0,109,n0,n1,x0,⟨#[]⟩) K' st' N' a))
 | 34=>∃(r:Nat) (n0 n1:Int) (x0:qY),x=([(r:Int)],[n0,n1],[x0])/\DoS K st N r (0,0,0,105,n0,n1,⟨#[]⟩,x0) K' st' N' a
 | 35=>∃(r:Nat) (n0 n1:Int),x=([(r:Int)],[n0,n1],[])/\DoS K st N r (0,0,0,100,n0,n1,⟨#[]⟩,⟨#[]⟩) K' st' N' a
 | 36=>∃(r:Nat) (n0:Int) (x0 x1:qY),x=([(r:Int)],[n0],[x0,x1])/\DoS K st N r (0,0,0,115,n0,0,x0,x1) K' st' N' a
 | 38=>∃(r q cd:Nat),x=([(r:Int),(q:Int)],[],[])/\a=okE cd/\((r=q/\cd=2/\K'=K/\st'=st/\N'=N)\/(r≠q/\zdf K st N r q K' st' N' cd))
 | 40=>∃(m cd:Nat),x=([],[(m:Int)],[])/\a=okE cd/\zaQ K st N m K' st' N' cd
 | 42=>∃(m cd:Nat),x=([],[(m:Int)],[])/\a=okE cd/\zdk K st N m K' st' N' cd
 | 44=>∃(m cd:Nat),x=([],[(m:Int)],[])/\a=okE cd/\zdj K st N m K' st' N' cd
 | 46=>∃(r:Nat) (n0:Int),x=([(r:Int)],[n0],[])/\a=okE (IA (st r).2.1 n0)/\K'=K/\N'=N/\st'=lR st r (BZ (st r) n0)
 | 48=>∃(r:Nat),x=([(r:Int)],[],[])/\a=okE 0/\N'=N/\Rm K K' st st' r
 | 50=>x=([],[],[])/\a= [121,101,115]/\N'= []/\Tf K st K' st'
 | 53=>x=([],[],[])/\a=Lib.itoa (N.length:Int)/\K'=K/\st'=st/\N'=N
 | 57=>∃(r:Nat) (s:qU),x=([(r:Int)],[],[])/\a=Qo s/\GB (lX (K r)) s/\K'=K/\st'=st/\N'=N
 | 59=>∃(r:Nat) (n0:Int) (es:List Enx),x=([(r:Int)],[n0],[])/\a=Uv es/\Sq (lX (K r)) n0 es/\K'=K/\st'=st/\N'=N
 | 61=>∃(r:Nat) (x0:qY) (b:Int) (is:Bool),x=([(r:Int)],[],[x0])/\a=(if is=true then Lib.itoa b else Ex)/\Ph (lX (K r)) x0.data.toList b is/\K'=K/\st'=st/\N'=N
 | 63=>∃(r:Nat) (n0:Int) (s:qU) (is:Bool),x=([(r:Int)],[n0],[])/\a=(if is=true then s else Ex)/\TP (lX (K r)) n0 s is/\K'=K/\st'=st/\N'=N
 | _=>∃(r:Nat),x=([(r:Int)],[],[])/\a=Ge (oV (K r) 0) (oV (K r) 1) (oV (K r) 2) (oV (K r) 3)/\K'=K/\st'=st/\N'=N
def LX(E5:qY)(K:qH)(st:qD)(N:qJ)(K':qH)(st':qD)(N':qJ)(a:qU):Prop:=match ox E5 with
 | []=>False
 | p::ps=>match tblAll.lookup p.data.toList with
  | none=>K'=K/\st'=st/\N'=N/\a=oh 1
  | some sp=>match oQ sp.2.1.data.toList ps with
   | none=>K'=K/\st'=st/\N'=N/\a=oh 1
   | some x=>zaM sp.2.2 x K st N K' st' N' a
def LsX:List ByteArray->(Nat->Rws)->(Nat->DSt)->List nO->(Nat->Rws)->(Nat->DSt)->List nO->List qU->Prop
 | [],K,st,N,K',st',N',tl=>K'=K/\st'=st/\N'=N/\tl= []
 | l::ls,K,st,N,K',st',N',tl=>∃K1 st1 N1 a bs,LX l K st N K1 st1 N1 a/\LsX ls K1 st1 N1 K' st' N' bs/\tl=a::bs
theorem LsX.aa2:∀ {ls:List ByteArray} {l:qY} {K K1 K':qH} {st st1 st':qD} {N N1 N':qJ} {tl:List qU} {a:qU},LsX ls K st N K1 st1 N1 tl->LX l K1 st1 N1 K' st' N' a->LsX (ls++ [l]) K st N K' st' N' (tl++ [a])
 | [],l,K,K1,K',st,st1,st',N,N1,N',tl,a,h,k=>by
  obtain ⟨rfl,rfl,rfl,rfl⟩:=h;exact ⟨_,_,_,a,[],k,⟨rfl,rfl,rfl,rfl⟩,rfl⟩
 | x::ls,l,K,K1,K',st,st1,st',N,N1,N',tl,a,h,k=>by
  obtain ⟨K2,st2,N2,b,bs,h1,h2,rfl⟩:=h;exact ⟨K2,st2,N2,b,bs++ [a],h1,LsX.aa2 h2 k,rfl⟩
structure aaw (m:Int) (w:qW):Prop where
 tab:Lib.TabIs prog w "internal/strconv.uint64pow10" .u64 Lib.pow10Tab
 max:w.cell? (qB 14)=some (qI m)
theorem aaw.later{m}{w w'}(h:aaw m w)(hb:qL w w'):aaw m w':=⟨Lib.tabBelow_of_tabIs h.tab w' hb,lO hb h.max⟩
theorem SQ{qs}{p}(h:Bu p):(nmB qs p).size<=1000:=by
 have hIL:=Lib.itoa_length_le p.1 (by have:=h.1;omega) (by have:=h.2.1;omega);have e:(nmB qs p).size=(nmB qs p).data.toList.length:=zr;have e2:p.2.2.data.toList.length=p.2.2.size:=zr;have h2:=h.2.2
 grind [Pp,uQ,Za]
theorem zdd{qs}(hf:∀p∈qs,Bu p){a}{nm}{b}(h:Ec qs a nm b):0<=b/\b<2^62:=by
 obtain ⟨es,k,e,⟨R,h1,_,rfl⟩,h2,h3,h4,h5⟩:=h;rw [ZM] at h2;obtain ⟨q,hq,rfl⟩:=ZT.1 h2;have hm:=(Ye.1 (h1.mem_iff.1 (uP hq))).1;have:=hf q hm;rw [<-h5];exact ⟨this.1,this.2.1⟩
theorem zbx{qs}(hf:∀p∈qs,Bu p):∀ {nms:List qU} {a b:Int},(0<=a/\a<2^62)->M7 qs a nms b->0<=b/\b<2^62
 | [],a,b,h0,h=>(show a=b from h)▸h0
 | nm::r,a,b,h0,⟨c,h1,h2⟩=>zbx hf (zdd hf h1) h2
section
variable {W:qW} {c:Nat→Nat} {br:Nat} {o9:Int} {R:Rws} {m:Int}
theorem Vg(hE:aaw m W)(b)(h0:0<=b)(h1:b<2^62)(W')(hb:qL W W'):qC 54 #[qI b] W' (qR (.string ⟨(Lib.itoa b).toArray⟩) W'):=
 pT b zj zj W' (hE.later hb).tab
def Qk(A:qX)(P:qU->Prop)(W:qW)(s:qY)(W':qW):Prop:=∃t,s=⟨t.toArray⟩/\P t/\qL W W'
theorem zcw(h:K7 W c br o9 R)(hK:u9 R)(hl:(lX R).length<=300)(hE:aaw m W):
  qC 58 #[qP br] W (me (Qk (lX R) (fun a=>∃s,a=Qo s/\GB (lX R) s) W)):=by
 refine (Ll W br m (GB (lX R)) hE.max ((Co W c br o9 R h hE.tab hl).mono ?_)).mono ?_
 ·rintro e w' ⟨s,rfl,hs,hb⟩;exact ⟨s,rfl,⟨hs,QG hK.G6 hl hs⟩,hb⟩
 rintro e w' ⟨s,rfl,H⟩;exact ⟨_,rfl,⟨_,rfl,⟨s,rfl,H.o.1⟩,H.o.2⟩⟩
theorem zcG(h:K7 W c br o9 R)(hl:(lX R).length<=300)(hE:aaw m W)(i):
  qC 60 #[qP br,qI i] W (me (Qk (lX R) (fun a=>∃es,a=Uv es/\Sq (lX R) i es) W)):=by
 obtain ⟨bt,bm,n,v,ms,qs,hA,hp,hq,hql,bJ⟩:=h.acT hl;have hf:=tg hA.U9 hq;refine (Pg W br i (Sq (lX R) i) ((Si W br bt bm n v _ hA qs hq hql i hE.tab).mono ?_) (fun b W' h0 h1 hb=>Vg hE b h0 h1 W' hb)).mono ?_
 ·rintro e w' ⟨v',es,rfl,H⟩;obtain ⟨h1,h2,h3⟩:=H.o;refine ⟨v',es,rfl,h1,⟨⟨ms,qs,⟨hp,bJ,hq⟩,h2⟩,?_,?_⟩,h3⟩
  ·obtain ⟨R',k1,_,rfl⟩:=h2;rw [Zh,k1.length_eq]
   grind
  obtain ⟨R',k1,_,rfl⟩:=h2;intro e he;obtain ⟨q,hq',rfl⟩:=Zj.1 he;have hm:=hf q (Ye.1 (k1.mem_iff.1 hq')).1;exact ⟨SQ hm,hm.1,hm.2.1⟩
 rintro e w' ⟨es,rfl,H⟩;exact ⟨_,rfl,⟨_,rfl,⟨es,rfl,H.o.1⟩,H.o.2⟩⟩
theorem zc3(h:K7 W c br o9 R)(hl:(lX R).length<=300)(hE:aaw m W)(path)(hs:path.size<=1000000):
  qC 62 #[qP br,.string path] W (me (Qk (lX R) (fun a=>∃b is,a=(if is=true then Lib.itoa b else Ex)/\Ph (lX R) path.data.toList b is) W)):=by
 have eY:∀Q:Int->Bool->Prop,(∀b is,Q b is->Ph (lX R) path.data.toList b is/\0<=b/\b<2^62)->(qC 105 #[qP br,.string path] W fun e w'=>∃b is,e=qT #[qI b,.bool is]/\Q b is/\qL W w')->
   qC 62 #[qP br,.string path] W (me (Qk (lX R) (fun a=>∃b is,a=(if is=true then Lib.itoa b else Ex)/\Ph (lX R) path.data.toList b is) W)):=fun Q hQ hc=>by
  refine (TE W br path Q hc (fun b W' hq hb=>Vg hE b (hQ b true hq).2.1 (hQ b true hq).2.2 W' hb)).mono ?_;rintro e w' ⟨b,is,rfl,H⟩;exact ⟨_,rfl,⟨_,rfl,⟨b,is,rfl,(hQ b is H.o.1).1⟩,H.o.2⟩⟩
 cases hp:Lib.hasPrefix path.data.toList [47] with
 | false=>
  refine eY (fun b is=>b=0/\is=false) (fun b is q=>⟨.inl ⟨hp,q.1,q.2⟩,zj,zj⟩) ((RZ W br path hp).mono ?_)
  simp_all
 | true=>
  obtain ⟨nm,dM⟩:∃nm,path.data.toList=47::nm:=by
   cases e:path.data.toList with
   | nil=>rw [e] at hp;cases hp
   | cons x r=>
    rw [e] at hp
    have:x=47:=by
     unfold Lib.hasPrefix at hp;simp at hp;exact hp.symm
    simp_all
  by_cases he:nm= []
  ·subst he;refine eY (fun b is=>b=0/\is=true) (fun b is q=>⟨.inr (.inl ⟨dM,q.1,q.2⟩),zj,zj⟩) ((Nw W br path dM).mono ?_)
   simp_all
  obtain ⟨bt,bm,n,v,ms,qs,hA,dE,hq,hql,bJ⟩:=h.acT hl;have hf:=tg hA.U9 hq;refine eY (fun b is=>(is=true/\M7 qs 0 (nF 47 nm) b)\/(is=false/\b=0/\∃pre n1 rest b1,pre++n1::rest=nF 47 nm/\M7 qs 0 pre b1/\GM qs b1 n1)) (fun b is q=>⟨.inr (.inr ⟨nm,dM,he,ms,qs,⟨dE,bJ,hq⟩,q⟩),?_⟩) ((XD W br bt bm n v _ hA qs hq hql path ⟨nm.toArray⟩ (by simpa using dM) (by simpa using he) hs hE.tab m hE.max).mono ?_)
  ·rcases q with ⟨_,q⟩ | ⟨_,q,_⟩
   ·exact zbx hf ⟨zj,zj⟩ q
   omega
  rintro e w' ⟨⟨b,rfl,hw⟩ | ⟨rfl,pre,n1,rest,b1,k1,k2,k3⟩,hb⟩
  ·exact ⟨b,true,rfl,.inl ⟨rfl,by simpa using hw⟩,hb⟩
  grind
theorem zcZ(h:K7 W c br o9 R)(hl:(lX R).length<=300)(hE:aaw m W)(l8)(hn:0<=l8/\l8<10000000):
  qC 64 #[qP br,qI l8] W (me (Qk (lX R) (fun a=>∃s is,a=(if is=true then s else Ex)/\TP (lX R) l8 s is) W)):=by
 obtain ⟨bt,bm,n,v,ms,qs,hA,dE,hq,hql,bJ⟩:=h.acT hl;have bG:Wf l8:=EL zj zj;refine (OD W br l8 (TP (lX R) l8) ?_).mono ?_
 ·by_cases h0:l8=0
  ·subst h0;refine (QS W br).mono ?_;rintro e w' ⟨rfl,rfl⟩;exact ⟨[47],true,rfl,.inl ⟨rfl,rfl,rfl⟩,uM _ _⟩
  by_cases hi:Ins (lM ms) l8 0
  ·obtain ⟨d,hd⟩:=hA.U9.aaa.ab8;obtain ⟨L,hL⟩:=Fh hd (d l8+1) l8 zj;refine (Xy W br bt bm n v _ hA qs hq hql l8 bG h0 hi L hL hE.tab).mono ?_;rintro e w' ⟨rfl,hb⟩;exact ⟨_,true,rfl,.inr ⟨h0,ms,qs,⟨dE,bJ,hq⟩,.inr ⟨hi,L,hL,rfl,rfl⟩⟩,hb⟩
  refine (SZ W br bt bm n v _ hA l8 bG h0 hi).mono ?_;rintro e w' ⟨rfl,hb⟩;exact ⟨[],false,rfl,.inr ⟨h0,ms,qs,⟨dE,bJ,hq⟩,.inl ⟨hi,rfl,rfl⟩⟩,hb⟩
 rintro e w' ⟨s,is,rfl,H⟩;exact ⟨_,rfl,⟨_,rfl,⟨s,is,rfl,H.o.1⟩,H.o.2⟩⟩
end
section
variable {K L K' L':qH} {s t s' t':qD} {N M N' M':qJ}
theorem zb7(h:WfM K N){m c}(hd:zaQ K s N m K' s' N' c):WfM K' N':=by
 rcases hd with ⟨_,_,rfl,_,rfl⟩ | ⟨x,hx,⟨_,_,rfl,_,F,_,hN⟩ | ⟨_,rfl,hY⟩⟩
 ·exact h
 ·have h2:=h.2 x (uP hx)
  rcases hN with ⟨_,rfl⟩ | ⟨_,_,ao,cap,rfl⟩
  ·exact ⟨h.1,fun y hy=>h.2 y (ZQ hy)⟩
  refine ⟨h.1,fun y hy=> ?_⟩
  rcases uV.1 hy with q | q
  ·exact h.2 y (ZQ q)
  simp_all
 refine ⟨?_,fun y hy=>h.2 y (ZQ hy)⟩
 rcases hY with ⟨_,_,rfl,_⟩ | ⟨_,R,_,_,rfl,hR,_⟩
 ·exact h.1
 exact AS h.1 hR
theorem II(h:WfM K N):∀ {m:Nat} {K':qH} {s':qD} {N':qJ},Vj K s N m K' s' N'->WfM K' N'
 | 0,_,_,_,⟨e1,_,e3⟩=>by rw [e1,e3];exact h
 | m+1,_,_,_,⟨K1,s1,N1,cd,h1,_,h3⟩=>zb7 (II h h1) h3
theorem OS(h:∀q,q<3->u9 (K q)):WfM K (mL K 3 3):=⟨h,fun x hx=>by
 obtain ⟨a,b,ha,hb,_,rfl⟩:=mem_asks.1 hx
 exact ⟨ha,hb⟩⟩
theorem Ej(h:∀q,q<3->u9 (K q)):∀ {k:Nat} {K':qH} {s':qD},Dd 3 K s k K' s'->∀q,q<3->u9 (K' q)
 | 0,_,_,⟨e,_⟩=>by rw [e];exact h
 | k+1,_,_,⟨K1,s1,m,h1,h2⟩=>(II (OS (Ej h h1)) h2).1
end
end
section
open RowKit
theorem zbl{p}{s}(h:(nr 68 p s).2=true):∃r:Nat,r<3/\(nr 68 p s).1=(s.1++ [(r:Int)],s.2.1,s.2.2):=by
 unfold nr at h |-
 grind
theorem zcc{p}{s}(h:(nr 78 p s).2=true):∃n:Nat,n<10000000/\(nr 78 p s).1=(s.1,s.2.1++ [(n:Int)],s.2.2):=by
 unfold nr at h |-
 rw [if_neg zj,if_pos rfl] at h |-
 obtain ⟨n,hn⟩:=Yu.1 h;refine ⟨_,?_,rfl⟩;rw [hn];have:=Lq 7 _ n hn
 simp_all
theorem za1{k}(h1:k≠68)(h2:k≠78){p}{s}(h:(nr k p s).2=true):(nr k p s).1=(s.1,s.2.1,s.2.2++ [p])/\pR k p.data.toList=true:=by
 simp_all [nr,if_neg]
theorem AV{k}{ks}{ps}{s x}(h:rT (k::ks) ps s=some x)(hl:ps.length=ks.length+1):∃p r,ps=p::r/\r.length=ks.length/\(nr k.toNat p s).2=true/\rT ks r (nr k.toNat p s).1=some x:=by
 cases ps with
 | nil=>simp at hl
 | cons p r=>
  grind [rT]
theorem oH{form}{ps}{x}(h:oQ form ps=some x):ps.length=form.length/\rT form ps ([],[],[])=some x:=by
 grind [oQ]
theorem Au{ks}{ps}{s x}(h:rT (68::ks) ps s=some x)(hl:ps.length=ks.length+1):∃(r:Nat) (gX:List ByteArray),r<3/\gX.length=ks.length/\(∀u∈gX,u∈ps)/\rT ks gX (s.1++ [(r:Int)],s.2.1,s.2.2)=some x:=by
 grind [AV,zbl,uY]
theorem EN{ks}{ps}{s x}(h:rT (78::ks) ps s=some x)(hl:ps.length=ks.length+1):∃(n:Nat) (gX:List ByteArray),n<10000000/\gX.length=ks.length/\(∀u∈gX,u∈ps)/\rT ks gX (s.1,s.2.1++ [(n:Int)],s.2.2)=some x:=by
 grind [AV,zcc,uY]
theorem Pj{k}(h1:k.toNat≠68)(h2:k.toNat≠78){ks}{ps}{s x}(h:rT (k::ks) ps s=some x)(hl:ps.length=ks.length+1):∃(p:qY) (gX:List ByteArray),p∈ps/\pR k.toNat p.data.toList=true/\gX.length=ks.length/\(∀u∈gX,u∈ps)/\rT ks gX (s.1,s.2.1,s.2.2++ [p])=some x:=by
 grind [AV,za1,Zn,uY]
theorem oG{ps}{s x}(h:rT [] ps s=some x):x=s:=by
 simp only [rT] at h
 cases h;rfl
section
variable {ps:List ByteArray} {x:Lr}
theorem VN(h:oQ [] ps=some x):x=([],[],[]):=oG (oH h).2
theorem RH(h:oQ [68] ps=some x):∃r:Nat,r<3/\x=([(r:Int)],[],[]):=by
 obtain ⟨hl,h⟩:=oH h
 grind [Au,oG]
theorem Xb(h:oQ [68,68] ps=some x):∃r q:Nat,r<3/\q<3/\x=([(r:Int),(q:Int)],[],[]):=by
 obtain ⟨hl,h⟩:=oH h
 grind [Au,oG]
theorem Qj(h:oQ [78] ps=some x):∃n:Nat,n<10000000/\x=([],[(n:Int)],[]):=by
 obtain ⟨hl,h⟩:=oH h
 grind [EN,oG]
theorem IB(h:oQ [68,78] ps=some x):∃r n:Nat,r<3/\n<10000000/\x=([(r:Int)],[(n:Int)],[]):=by
 obtain ⟨hl,h⟩:=oH h
 grind [Au,EN,oG]
theorem UH(h:oQ [68,78,78] ps=some x):∃r n m:Nat,r<3/\n<10000000/\m<10000000/\x=([(r:Int)],[(n:Int),(m:Int)],[]):=by
 obtain ⟨hl,h⟩:=oH h
 grind [Au,EN,oG]
theorem UI{k}(h1:k.toNat≠68)(h2:k.toNat≠78)(h:oQ [68,78,k] ps=some x):∃(r n:Nat) (u:qY),r<3/\n<10000000/\pR k.toNat u.data.toList=true/\x=([(r:Int)],[(n:Int)],[u]):=by
 exact ki9
theorem Fs{k}(h1:k.toNat≠68)(h2:k.toNat≠78)(h:oQ [68,78,78,k] ps=some x):∃(r n m:Nat) (u:qY),r<3/\n<10000000/\m<10000000/\pR k.toNat u.data.toList=true/\x=([(r:Int)],[(n:Int),(m:Int)],[u]):=by
 exact ki9
theorem Qs{k}(h1:k.toNat≠68)(h2:k.toNat≠78)(h:oQ [68,78,k,k] ps=some x):∃(r n:Nat) (u v:qY),r<3/\n<10000000/\pR k.toNat u.data.toList=true/\pR k.toNat v.data.toList=true/\x=([(r:Int)],[(n:Int)],[u,v]):=by
 exact ki9
theorem XL{k}(h1:k.toNat≠68)(h2:k.toNat≠78)(h:oQ [68,k] ps=some x):∃(r:Nat) (u:qY),r<3/\u∈ps/\x=([(r:Int)],[],[u]):=by
 obtain ⟨hl,h⟩:=oH h
 grind [Au,Pj,oG]
end
theorem Jt{l}(h:nY l=true):l.length<=60:=by
 unfold nY at h
 grind
theorem Jl{l}(h:pR 87 l=true):l.length<=60:=by
 simp_all [pR,if_pos,Jt]
theorem zbQ{l}(h:pR 76 l=true):l.length<=60:=by
 simp_all [pR,if_neg,if_pos,Yl,Jt]
theorem pK{u:qY}(h:u.data.toList.length<=60):u.size<=60:=by
 simp_all
end
section
open RowKit Lib Go.Sort Maps
open scoped Classical
section
variable {K L K' L':Nat→Rws} {s t s' t':Nat→DSt} {N M N' M':List nO}
end
def z8:OpX:=(2,0,2,105,4,0,⟨#[]⟩,⟨#[120]⟩)
def helloL:List ByteArray:=[⟨#[109,97,107,101,32,48,32,48,32,97]⟩,⟨#[119,114,105,116,101,32,48,32,52,32,48,32,120]⟩,⟨#[99,97,108,109]⟩,⟨#[115,116,97,116,101,32,50]⟩]
def helloA:List qU:=[[52],[56],[121,101,115],[52,32,105,110,32,48,32,97,59,32,52,32,116,101,120,116,32,120]]
theorem Vs:wt x4=0:=zo
theorem Vo:wt z8=0:=zo
theorem zcE:pN ([],false,false,0) x4=(0,(nB (mQ x4),false,false,0)):=by
 grind [nB,mQ,x4,sW,Vs,nD,BC,left]
theorem zdb:(pN (nB (mQ x4),false,false,0) z8).1=0:=by
 have hl:(nB (mQ x4)).length+(nB (mQ z8)).length<=65536:=by
  have:=sW Vs;have:=sW Vo;rw [nD,nD];omega
 rw [BC Vo hl]
theorem zds:FN [] 0 0 0 (0,0,0,109,0,0,⟨#[97]⟩,⟨#[]⟩) (x4,0):=by
 refine .inl ⟨.inl rfl,.inl ⟨rfl,rfl,?_⟩⟩;have e1:nQ 0 0 0 109 0 0 ⟨#[97]⟩ ⟨#[]⟩=x4:=rfl;have e2:od x4=0:=zo
 simp_all [Qc,BM,nQ,if_neg,if_pos]
theorem zbk:m9 [x4] 4:=⟨x4,zr,rfl,rfl,rfl⟩
theorem zdE:FN [x4] 1 0 1 (0,0,0,105,4,0,⟨#[]⟩,⟨#[120]⟩) (z8,0):=by
 refine .inl ⟨.inr (.inl rfl),.inr (.inr (.inl ⟨rfl,(0,true),.inl ⟨rfl,rfl,fun _=>zbk,fun _=>rfl⟩,?_⟩))⟩;have e1:nQ 1 0 1 105 4 0 ⟨#[]⟩ ⟨#[chO ⟨#[120]⟩]⟩=z8:=rfl;have e2:od z8=0:=zo
 show _=BM true (nQ 1 0 1 105 4 0 ⟨#[]⟩ ⟨#[chO ⟨#[120]⟩]⟩)
 simp_all [BM,if_neg,if_pos]
theorem zcQ(m)(hne:m.2.1≠m.2.2.1):lM [m]=upd tB m.2.1 (some m.2):=by
 show K6 tB m=_
 exact oZ (fun hi=>hi.elim hne (fun h=>BT rfl h))
theorem We(nd):m9 [x4,z8] nd↔nd=4:=by
 constructor
 ·rintro ⟨x,hx,h1,e,_⟩;simp only [uX,ZP,or_false] at hx
  rcases hx with rfl | rfl
  ·exact e.symm
  exact absurd h1 zo
 rintro rfl;exact ⟨x4,zr,rfl,rfl,rfl⟩
theorem ztext:Lib.join (CK [(4,0,⟨#[97]⟩)] [(4,[120])] []) [10]= [52,32,105,110,32,48,32,97,10,52,32,116,101,120,116,32,120]:=by
 have h4:Lib.itoa 4= [52]:=by unfold Lib.itoa;simp [Lib.decDigits]
 have h0:Lib.itoa 0= [48]:=by unfold Lib.itoa;simp [Lib.decDigits]
 unfold CK oU Ae AQ;simp [h4,h0,sr,Lib.join_cons,Lib.joinTail]
theorem zc8:u7 [x4,z8] 4 [(8,120,false)]:=by
 refine ⟨[(0,(8,120,false))],List.Perm.refl _,⟨zr,zr,fun u m v e=> ?_⟩,?_⟩
 ·have:m∈ [((0:Int),((8:Int),(120:Nat),false))]:=by rw [e];simp
  grind
 have hg:¬oB [x4,z8] 4 8:=by
  rintro ⟨x,hx,h1,_⟩;simp only [uX,ZP,or_false] at hx
  rcases hx with rfl | rfl<;>exact absurd h1 zo
 have e:rj [x4,z8] 4 (8,120,false)=(8,120,false):=by unfold rj;exact if_neg hg
 show _= [rj [x4,z8] 4 (8,120,false)]
 rw [e]
theorem zbC:GB [x4,z8] [52,32,105,110,32,48,32,97,10,52,32,116,101,120,116,32,120]:=by
 refine ⟨[((1,0),(4,0,⟨#[97]⟩))],[(4,0,⟨#[97]⟩)],[(4,[120])],[x4,z8],[],List.Perm.refl _,YM _ _,?_,⟨YM _ _,fun nd=> ?_,fun t ht=> ?_⟩,List.Perm.refl _,⟨List.Pairwise.nil,fun p=> ?_⟩,ztext.symm⟩
 ·rw [zcQ _ zo];refine ⟨YM _ _,fun p=> ?_⟩;obtain ⟨a,b,s⟩:=p;simp only [Zf,upd];constructor
  ·simp_all
  intro e;split at e
  ·cases e;rfl
  cases e
 ·rw [We];simp
 ·simp only [Zf] at ht;subst ht;exact ⟨[(8,120,false)],zc8,rfl⟩
 constructor
 ·intro h;simp at h
 rintro ⟨_,s,hs⟩;have:rm [x4,z8]=noC:=rfl;rw [this] at hs
 cases hs
theorem zcx:Qo [52,32,105,110,32,48,32,97,10,52,32,116,101,120,116,32,120]= [52,32,105,110,32,48,32,97,59,32,52,32,116,101,120,116,32,120]:=zk
section
variable {K K':qH} {s s':qD} {N N':qJ} {S:OpX→Prop}
def zcr(S:OpX->Prop)(K:qH)(N:qJ):Prop:=(∀r,r<3->∀x∈lX (K r),S x)/\∀n∈N,∀x∈Hf n,S x
theorem Wo{m c}(hW:WfM K N)(h:zcr S K N)(hd:zaQ K s N m K' s' N' c):zcr S K' N':=by
 rcases hd with ⟨_,_,rfl,_,rfl⟩ | ⟨x,hx,⟨_,_,rfl,_,F,hF,hN⟩ | ⟨_,rfl,hY⟩⟩
 ·exact h
 ·have hn:=(hW.2 x (uP hx)).2
  rcases hN with ⟨_,rfl⟩ | ⟨_,_,ao,cap,rfl⟩
  ·exact ⟨h.1,fun n hn=>h.2 n (ZQ hn)⟩
  refine ⟨h.1,fun n hm=> ?_⟩
  rcases uV.1 hm with q | q
  ·exact h.2 n (ZQ q)
  rw [Zf.1 q];intro y hy;obtain ⟨ys,h1,rfl⟩:=hF;exact h.1 _ hn y ((rY h1).1.mem_iff.1 (Ye.1 hy).1)
 have hm:∀n∈N.eraseIdx m,∀y∈Hf n,S y:=fun n hn=>h.2 n (ZQ hn)
 rcases hY with ⟨_,_,rfl,_⟩ | ⟨_,R',_,_,rfl,_,hmem,_⟩
 ·exact ⟨h.1,hm⟩
 refine ⟨fun r hr y hy=> ?_,hm⟩;by_cases e:r=x.2.1
 ·subst e;rw [lT] at hy
  rcases (hmem y).1 hy with q | q
  ·exact h.1 _ hr y q
  exact h.2 x (uP hx) y q
 rw [lP _ _ e] at hy;exact h.1 r hr y hy
theorem za5(hW:WfM K N)(h:zcr S K N):∀ {m:Nat} {K':qH} {s':qD} {N':qJ},Vj K s N m K' s' N'->zcr S K' N'
 | 0,_,_,_,⟨e1,_,e3⟩=>by rw [e1,e3];exact h
 | m+1,_,_,_,⟨K1,s1,N1,cd,h1,_,h3⟩=>Wo (II hW h1) (za5 hW h h1) h3
theorem Jc(hW:∀q,q<3->u9 (K q))(h:∀r,r<3->∀x∈lX (K r),S x):∀ {k:Nat} {K':qH} {s':qD},Dd 3 K s k K' s'->∀r,r<3->∀x∈lX (K' r),S x
 | 0,_,_,⟨e,_⟩=>by rw [e];exact h
 | k+1,_,_,⟨K1,s1,m,h1,h2⟩=>(za5 (OS (Ej hW h1)) ⟨Jc hW h h1,fun n hn x hx=>by
   obtain ⟨a,b,_,_,_,rfl⟩:=mem_asks.1 hn
   exact absurd hx (by show ¬x∈([]:qX);simp)⟩ h2).1
theorem Tq{l p}{ps}{sp}{x}{a}(hw:ox l=p::ps)(hl:tblAll.lookup p.data.toList=some sp)(hr:oQ sp.2.1.data.toList ps=some x)(h:LX l K s N K' s' N' a):zaM sp.2.2 x K s N K' s' N' a:=by
 grind [LX]
theorem zcX{a}(hK:K 0=fun _=>[])(hs:s 0=([],false,false,0))(h:DoS K s N 0 (0,0,0,109,0,0,⟨#[97]⟩,⟨#[]⟩) K' s' N' a):a= [52]/\s' 0=(nB (mQ x4),false,false,0)/\∃R,K'=lR K 0 R/\u9 R/\∀z,z∈lX R↔z=x4:=by
 obtain ⟨_,T,y0,cd0,yy,cd,hT,co,hdo,rfl⟩:=h;have hT0:=SM hK hT;subst hT0
 have hl:(K 0 0).length=0:=by rw [hK];rfl
 rw [BA hK,hl] at co;have e:=VO co zds
 cases e
 have ha:pN (s 0) x4=(0,(nB (mQ x4),false,false,0)):=by rw [hs];exact zcE
 rcases hdo with ⟨h,_⟩ | ⟨_,h,_⟩ | ⟨_,_,rfl,rfl,⟨R',rfl,hR,hm⟩,rfl⟩
 ·exact absurd rfl h
 ·simp_all
 refine ⟨?_,by rw [lT,ha],R',rfl,hR,fun z=> ?_⟩
 ·show Lib.itoa 4=_
  unfold Lib.itoa;simp [Lib.decDigits]
 rw [hm,BA hK];simp
theorem zbc{a}(hR:u9 (K 0))(hK:∀z,z∈lX (K 0)↔z=x4)(hs:s 0=(nB (mQ x4),false,false,0))(h:DoS K s N 0 (0,0,0,105,4,0,⟨#[]⟩,⟨#[120]⟩) K' s' N' a):a= [56]/\∃R,K'=lR K 0 R/\u9 R/\∀z,z∈lX R↔z=x4\/z=z8:=by
 have hp:=(List.perm_ext_iff_of_nodup hR.num.J2 (show [x4].Nodup from YM _ _)).2 (fun z=>by rw [hK];simp);have hall:=List.perm_singleton.1 hp
 have hlen:(K 0 0).length=1:=by
  obtain ⟨k,hk,hx⟩:=mem_allR.1 (show x4∈lX (K 0) by rw [hall];simp);obtain ⟨j,hj,q1,q2,_⟩:=hR.num.e hk hx
  have jc:k=0:=by
   have:(byO x4:Int)=0:=rfl;omega
  subst jc;have h1:=List.length_pos_of_mem hx
  have h2:(lX (K 0)).length=1:=by rw [hall];rfl
  unfold lX at h2;simp only [uQ] at h2;omega
 obtain ⟨_,T,y0,cd0,yy,cd,hT,co,hdo,rfl⟩:=h;rw [hall] at co hT
 have hT1:T=1:=by
  have h1:(1:Int)<=T:=hT.1 x4 zr
  rcases hT.2.1 with q | ⟨z,hz,q⟩
  ·omega
  rw [Zf.1 hz] at q;exact q.symm
 subst hT1;rw [hlen] at co;have e:=VO co zdE
 cases e
 have ha:(pN (s 0) z8).1=0:=by rw [hs];exact zdb
 rcases hdo with ⟨h,_⟩ | ⟨_,h,_⟩ | ⟨_,_,rfl,rfl,⟨R',rfl,hR',hm⟩,rfl⟩
 ·exact absurd rfl h
 ·exact absurd ha h
 refine ⟨?_,R',rfl,hR',fun z=> ?_⟩
 ·show Lib.itoa 8=_
  unfold Lib.itoa;simp [Lib.decDigits]
 grind
theorem Ls{tl}(hK:∀r,r<3->K r=fun _=>[])(hs:∀r,r<3->s r=([],false,false,0))(h:LsX helloL K s [] K' s' N' tl):tl=helloA:=by
 obtain ⟨K1,s1,N1,a1,b1,h1,⟨K2,s2,N2,a2,b2,h2,⟨K3,s3,N3,a3,b3,h3,⟨K4,s4,N4,a4,b4,h4,⟨_,_,_,rfl⟩,rfl⟩,rfl⟩,rfl⟩,rfl⟩:=h;have g1:=Tq (p:=⟨#[109,97,107,101]⟩) (ps:=[⟨#[48]⟩,⟨#[48]⟩,⟨#[97]⟩]) (x:=([0],[0],[⟨#[97]⟩])) zk rfl zk h1;have g2:=Tq (p:=⟨#[119,114,105,116,101]⟩) (ps:=[⟨#[48]⟩,⟨#[52]⟩,⟨#[48]⟩,⟨#[120]⟩]) (x:=([0],[4,0],[⟨#[120]⟩])) zk rfl zk h2;have g3:=Tq (p:=⟨#[99,97,108,109]⟩) (ps:=[]) (x:=([],[],[])) zk rfl zk h3;have g4:=Tq (p:=⟨#[115,116,97,116,101]⟩) (ps:=[⟨#[50]⟩]) (x:=([2],[],[])) zk rfl zk h4;obtain ⟨r,n0,x0,e,d1⟩:=g1;simp only [Prod.mk.injEq,List.cons.injEq,and_true] at e;obtain ⟨e1,rfl,rfl⟩:=e;obtain rfl:r=0:=zj;obtain ⟨rfl,q1,R1,rfl,w1,m1⟩:=zcX (hK 0 zj) (hs 0 zj) d1;obtain ⟨r,n0,n1,x0,e,d2⟩:=g2;simp only [Prod.mk.injEq,List.cons.injEq,and_true] at e;obtain ⟨e1,⟨rfl,rfl⟩,rfl⟩:=e;obtain rfl:r=0:=zj;obtain ⟨rfl,R2,rfl,w2,m2⟩:=zbc (by rw [lT];exact w1) (by rw [lT];exact m1) q1 d2;obtain ⟨_,rfl,_,hc⟩:=g3;obtain ⟨r,t,e,rfl,hst,_⟩:=g4;simp only [Prod.mk.injEq,List.cons.injEq,and_true] at e;obtain rfl:r=2:=zj;have hx:∀q,q<3->u9 (lR (lR K 0 R1) 0 R2 q):=AS (AS (fun q hq=>by rw [hK q hq];exact Cj) w1) w2
 have dy:=Jc (S:=fun z=>z=x4\/z=z8) hx (fun q hq z hz=>by
  grind [lT,lP,BA]) hc.1 2 zj
 have hsup:=hc.2 0 2 zj zj;rw [lT] at hsup;have hw3:=Ej hx hc.1 2 zj
 have hp:(lX (K3 2)).Perm [x4,z8]:=(List.perm_ext_iff_of_nodup hw3.num.J2 zo).2 (fun z=>by
  grind)
 rw [GB.same hw3.G6 hp hst zbC,zcx];rfl
end
theorem Rw(n):Lib.decDigits n≠ []:=by
 rw [Lib.decDigits];split<;>simp
theorem FW(n):Lib.itoa n≠ []:=by
 unfold Lib.itoa;split
 ·simp
 exact Rw _
theorem Bz(c):oh c≠ []:=by unfold oh;simp
theorem Ol(c):okE c≠ []:=by
 grind [okE,Bz]
theorem TW(a b c d):Ge a b c d≠ []:=by
 simp_all [Ge,Lib.join_cons,FW]
theorem zak{qs L}(h:L≠ []):Pn qs L≠ []:=by
 unfold Pn Uw;intro e;have h2:((List.range L.length).map fun x=>(⟨#[47]⟩:qY)++nmB qs (L.getD x mS)).reverse.map (·.data.toList)≠ []:=xl;obtain ⟨a,r,e2⟩:=YV h2;rw [e2,Lib.join_cons] at e
 have ha:a∈((List.range L.length).map fun x=>(⟨#[47]⟩:qY)++nmB qs (L.getD x mS)).reverse.map (·.data.toList):=by rw [e2];exact Zn
 obtain ⟨x,hx,rfl⟩:=Zj.1 ha;obtain ⟨k,_,rfl⟩:=Zj.1 (List.mem_reverse.1 hx);simp at e
theorem zbr{g}{x}{K}{st}{N}{K'}{st'}{N'}{a}(h:zaM g x K st N K' st' N' a):a≠ []:=by
 have dos:∀ {r y},DoS K st N r y K' st' N' a->a≠ []:=fun h=>by
  obtain ⟨_,_,_,_,_,_,_,_,_,rfl⟩:=h;split
  ·exact FW _
  exact Bz _
 unfold zaM at h;split at h
 ·obtain ⟨_,_,_,_,h⟩:=h;exact dos h
 ·obtain ⟨_,_,_,_,_,⟨_,_,_,_,rfl⟩ | ⟨_,h⟩⟩:=h
  ·exact Bz _
  exact dos h
 ·obtain ⟨_,_,_,_,_,h⟩:=h;exact dos h
 ·obtain ⟨_,_,_,_,h⟩:=h;exact dos h
 ·obtain ⟨_,_,_,_,_,h⟩:=h;exact dos h
 ·obtain ⟨_,_,_,_,rfl,_⟩:=h;exact Ol _
 ·exact kk3
 ·exact kk3
 ·exact kk3
 ·exact kk3
 ·obtain ⟨_,_,rfl,_⟩:=h;exact Ol _
 ·obtain ⟨_,rfl,_⟩:=h;simp
 ·obtain ⟨_,rfl,_⟩:=h;exact FW _
 ·obtain ⟨_,_,_,rfl,_⟩:=h;exact Vc _
 ·obtain ⟨_,_,_,_,rfl,_⟩:=h;exact Vc _
 ·obtain ⟨_,_,_,_,_,rfl,_⟩:=h;split
  ·exact FW _
  unfold Ex;simp
 ·obtain ⟨_,_,s,_,_,rfl,hp,_⟩:=h;split
  ·rename_i hi;subst hi
   rcases hp with ⟨_,rfl,_⟩ | ⟨hn,ms,qs,_,⟨_,_,q⟩ | ⟨hin,L,hu,rfl,_⟩⟩
   ·simp
   ·cases q
   refine zak ?_;rintro rfl;exact BT hu hin
  unfold Ex;simp
 grind [TW]
theorem zcP{l}{K}{st}{N}{K'}{st'}{N'}{a}(h:LX l K st N K' st' N' a):a≠ []/\∀p ps,ox l=p::ps->tblAll.lookup p.data.toList=none->a=oh 1:=by
 grind [LX,Bz,ox,oh,zbr]
theorem Vt:∀ {ls:List ByteArray} {K:qH} {st:qD} {N:qJ} {K':qH} {st':qD} {N':qJ} {tl:List qU},LsX ls K st N K' st' N' tl->∀(k:Nat) (l:qY) (a:qU),ls[k]? =some l->tl[k]? =some a->a≠ []/\∀p ps,ox l=p::ps->tblAll.lookup p.data.toList=none->a=oh 1
 | [],_,_,_,_,_,_,_,_,k,l,a,hl,_=>uh
 | x::ls,_,_,_,_,_,_,_,⟨_,_,_,b,bs,h1,h2,rfl⟩,0,l,a,hl,ha=>by
  grind [uZ,Option.some.injEq,zcP]
 | x::ls,_,_,_,_,_,_,_,⟨_,_,_,b,bs,h1,h2,rfl⟩,k+1,l,a,hl,ha=>by
  simp only [Zb] at hl ha;exact Vt h2 k l a hl ha
def gdN(gd:Nat->Option Obj)(S0:Nat)(W:qW):Nat->Option Obj:=fun k=>if S0<=k then W.heap[k]? else gd k
theorem q8.u{gd}{B n bm}{K}{st}{N}{w W}(h:q8 gd B n bm K st N w){S0}(hS:w.heap.size<=S0)(hb:qL w W):q8 (gdN gd S0 W) B n bm K st N W:=by
 obtain ⟨ow,pv,fv,bp,br,d,dv,c,hm⟩:=h;have h':=(hm.later hb).acY (fun k=>S0<=k/\k<W.heap.size) (fun k hk=>⟨hm.high k (uO hS hk.1),uO hm.l9 (uO hS hk.1),hk.2⟩);refine q8.X5 ⟨_,_,_,_,_,_,_,_,h'⟩ (fun k o e=> ?_);unfold gdN at e
 grind
theorem q8.acR{gd}{B n bm S0}{K K'}{st st'}{N N'}{W w'}(h:q8 (gdN gd S0 W) B n bm K st N W)(h':q8 (gdN gd S0 W) B n bm K' st' N' w')(hs:W.heap.size<=w'.heap.size):D6 (fun k=>S0<=k\/gd k≠none) W w':=by
 refine ⟨hs,fun k hK hk=> ?_⟩
 obtain ⟨o,ho⟩:∃o,gdN gd S0 W k=some o:=by
  unfold gdN;by_cases q:S0<=k
  ·simp_all
  rw [if_neg q]
  rcases hK with p | p
  ·exact absurd p q
  cases e:gd k with
  | none=>exact absurd e p
  | some o=>exact ⟨o,rfl⟩
 rw [h.held ho,h'.held ho]
theorem q8.ab0{gd}{B n bm S0}{K}{st}{N}{W w' w''}(h:q8 (gdN gd S0 W) B n bm K st N w')(bY:∀k o,gd k=some o->k<S0)(hk:m7 (fun k=>S0<=k/\k<W.heap.size) w' w''):q8 gd B n bm K st N w'':=by
 obtain ⟨ow,pv,fv,bp,br,d,dv,c,hm⟩:=h;refine ⟨ow,pv,fv,bp,br,d,dv,c,hm.adk (hk.mono (fun k _ q=> ?_)) (fun k _=>rfl) (fun k e=>.inl e) (fun k o e=> ?_)⟩
 ·refine (hm.guard k W.heap[k] ?_).1
  simp_all [gdN,if_pos,Yf]
 have hlt:=bY k o e;obtain ⟨e1,e2⟩:=hm.guard k o (by unfold gdN;grind);exact ⟨e1,(hk.block k (hm.H (by rw [e1];omega)) (fun q=>by have:=q.1;omega)).trans e2⟩
theorem q8.acX{gd}{B n bm S0}{K}{st}{N}{W w'}(h:q8 (gdN gd S0 W) B n bm K st N w')(bY:∀k o,gd k=some o->k<S0):q8 gd B n bm K st N w':=h.ab0 bY (m7.refl _ _)
structure E7 (gd:Nat->Option Obj) (B:Nat) (ad:qF) (bm i:Nat) (G:qX) (K:qH) (D:Nat->List OpX) (st:qD) (N:qJ) (w:qW):Prop where
 C9:q8 gd B 3 bm K st N w
 G5:r9 3 i G K D st N
 L5:N.length<=30
 G3:E6 B ad w
 W9:i<=150
theorem E7.gl{gd}{B}{ad}{bm i}{G}{K}{D}{st}{N}{w}(h:E7 gd B ad bm i G K D st N w):∀k o,gd k=some o->k<w.heap.size:=fun k o e=>(uK.1 (h.C9.held e)).1
def Got(gd:Nat->Option Obj)(B bm i:Nat)(w:qW)(K':qH)(st':qD)(N':qJ)(w':qW):Prop:=∃G' D',q8 gd B 3 bm K' st' N' w'/\Below B w w'/\r9 3 (i+1) G' K' D' st' N'/\N'.length<=30
theorem Got.later{gd}{B bm i}{w}{K'}{st'}{N'}{w' w''}(h:Got gd B bm i w K' st' N' w')(hb:qL w' w''):Got gd B bm i w K' st' N' w'':=by
 obtain ⟨G',D',h1,h2,h3,h4⟩:=h;refine ⟨G',D',h1.later hb,h2.trans (hb.mono ?_),h3,h4⟩;obtain ⟨_,_,_,_,_,_,_,_,hm⟩:=h1;exact hm.l9
theorem E7.same{gd}{B}{ad}{bm i}{G}{K}{D}{st}{N}{w w'}(h:E7 gd B ad bm i G K D st N w)(hb:qL w w'):Got gd B bm i w K st N w':=by
 refine ⟨G,D,h.C9.later hb,hb.mono ?_,h.G5.up zj,h.L5⟩;obtain ⟨_,_,_,_,_,_,_,_,hm⟩:=h.C9;exact hm.l9
section
variable {gd:Nat→Option Obj} {B:Nat} {ad:Nat→Addr} {bm i:Nat} {G:List OpX} {K:Nat→Rws} {D:Nat→List OpX} {st:Nat→DSt} {N:List nO} {w:World}
def DoP(gd:Nat->Option Obj)(B bm i:Nat)(K:qH)(st:qD)(N:qJ)(w:qW)(r:Nat)(x:OpX)(y:OpX)(cd:Nat)(W:qW):Prop:=∃K' st',Got gd B bm i w K' st' N W/\DoS K st N r x K' st' N (if cd=0 then Lib.itoa (idO y) else oh cd)/\cd<=11/\(cd=0->mv y=0/\y.1<=1000)
theorem DoP.later{r}{x y}{cd}{W W'}(h:DoP gd B bm i K st N w r x y cd W)(hb:qL W W'):DoP gd B bm i K st N w r x y cd W':=by
 obtain ⟨K',st',h1,h2⟩:=h;exact ⟨K',st',h1.later hb,h2⟩
theorem Cr(h:E7 gd B ad bm i G K D st N w):B<=w.heap.size:=by
 obtain ⟨_,_,_,_,_,_,_,_,hm⟩:=h.C9;exact hm.l9
theorem zaa{A}{T}{i n}{x y0 y}{cd0 cd a}{K K'}{st st'}(h:FN A T i n x (y0,cd0))(hd:DoX K K' st st' a y0 cd0 y cd):cd<=11:=by
 have h1:=zbW h
 rcases hd with ⟨_,e,_⟩ | ⟨_,_,e,_⟩ | ⟨_,_,e,_⟩
 ·rw [e];exact h1
 ·rw [e];exact OU _ _
 rw [e];omega
theorem zbt(h:E7 gd B ad bm i G K D st N w){W}(hb:qL w W)(r:Nat)(hr:r<3)(x)(hx:zcy x):
  qC 81 #[qP bm,qN r,mJ x] W (WJ w.heap.size (fun k=>w.heap.size<=k\/gd k≠none) ad (DoP gd B bm i K st N w r x) W):=by
 have hm:=h.C9.u zg hb;have hB:=Cr h;have hW:=h.G3.later hb;refine (zcD W (r:Int) x hm h.G5 h.L5 hW qx ⟨zj,zj⟩ (fun r' y0 cd0=>∃T,oE (lX (K r')) T/\FN (lX (K r')) T r' (K r' r').length x (y0,cd0)) (fun U' c0 p b0 d0 r' hr' e' hP hR hE'=>zbL U' c0 p b0 d0 r' (K r') x hP hR hE' zj (by have:=h.G5.D4 hr';have:=h.W9;omega) hx)).mono ?_;rintro e w' ⟨y,cd,G',K',D',st',N',rfl,H⟩;obtain ⟨h1,h2,h3,h4,_,h6,h7,h8,rfl⟩:=H.o;obtain ⟨y0,cd0,⟨T,hT,co⟩,_,hd⟩:=h7 r rfl hr
 have cU:cd=0->mv y=0/\y.1<=1000:=fun hc=>by
  rcases h6 with ⟨q,_⟩ | ⟨_,e2,_⟩
  ·exact absurd hc q
  have hy:y∈G':=by rw [e2];simp
  have:=h3.G5.time y hy;have:=h.W9;exact ⟨h3.G5.ok y hy,zj⟩
 refine ⟨y,cd,rfl,fun hc=>(cU hc).1,⟨hm.acR h1 h2.size,fun w'' hk=>⟨K',st',⟨G',D',h1.ab0 h.gl hk,((hb.mono hB).trans h2).trans ?_,h3,h4⟩,⟨rfl,T,y0,cd0,y,cd,hT,co,hd,rfl⟩,zaa co hd,cU⟩⟩⟩;exact ⟨hk.os,hk.tape,hk.output,hk.size,fun k hkB=>hk.block k (uT hkB (uO hB (uO hb.size h2.size))) (fun q=>by have:=q.1;omega)⟩
def aak(gd:Nat->Option Obj)(B bm i:Nat)(w:qW)(Q:(Nat->Rws)->(Nat->DSt)->List nO->Nat->Prop)(cd:Nat)(W:qW):Prop:=cd<=11/\∃K' st' N',Got gd B bm i w K' st' N' W/\Q K' st' N' cd
theorem aak.later{Q:(Nat->Rws)->(Nat->DSt)->List nO->Nat->Prop}{cd}{W W'}(h:aak gd B bm i w Q cd W)(hb:qL W W'):aak gd B bm i w Q cd W':=by
 obtain ⟨hc,K',st',N',h1,h2⟩:=h;exact ⟨hc,K',st',N',h1.later hb,h2⟩
theorem pq(h:E7 gd B ad bm i G K D st N w){W w'}(hb:qL w W){K'}{st'}{N'}{G'}{D'}(h1:q8 (gdN gd w.heap.size W) B 3 bm K' st' N' w')(h2:Below B W w')(h3:r9 3 i G' K' D' st' N')(h4:N'.length<=30){Q:(Nat->Rws)->(Nat->DSt)->List nO->Nat->Prop}{cd}(hc:cd<=11)(hQ:Q K' st' N' cd):
  Aside (D6 (fun k=>w.heap.size<=k\/gd k≠none) W w'/\aak gd B bm i w Q cd w'):=
 ⟨(h.C9.u zg hb).acR h1 h2.size,hc,K',st',N',⟨G',D',h1.acX h.gl,(hb.mono (Cr h)).trans h2,h3.up zj,h4⟩,hQ⟩
theorem XK(h:E7 gd B ad bm i G K D st N w){W}(hb:qL w W)(r s:Nat)(hr:r<3)(hs:s<3):
  qC 39 #[qP bm,qN r,qN s] W (oq (fun k=>w.heap.size<=k\/gd k≠none) ad (aak gd B bm i w (fun K' st' N' cd=>(r=s/\cd=2/\K'=K/\st'=st/\N'=N)\/(r≠s/\zdf K st N r s K' st' N' cd))) W):=by
 refine (PH W (r:Int) (s:Int) (h.C9.u zg hb) (h.G3.later hb) (fun q hq=>by have:=h.G5.D4 hq;have:=h.W9;omega) ⟨zj,zj⟩ ⟨zj,zj⟩).mono ?_;rintro e w' ⟨v,N',rfl,H,HV⟩;obtain ⟨h1,h2,h3⟩:=H.o;have hv:=HV.o;refine ⟨Mp 3 N.length (r:Int) (s:Int),by rw [hv],?_⟩
 have bD:Mp 3 N.length (r:Int) (s:Int)<=11:=by unfold Mp;(repeat' split)<;>omega
 rcases h3 with ⟨e1,h30,a,b,ha,hb',hab,ea,eb,e2⟩ | ⟨e2,hn⟩
 ·obtain rfl:r=a:=by omega
  obtain rfl:s=b:=zj
  have hcd:Mp 3 N.length (r:Int) (s:Int)=0:=by
   unfold Mp;rw [if_pos ⟨⟨zj,zj⟩,⟨zj,zj⟩,zj⟩,if_pos h30]
  refine pq h hb h1 h2 (h.G5.L5 (fun u hu=> ?_)) zM bD (.inr ⟨hab,rfl,rfl,.inl ⟨h30,hcd,e2⟩⟩);rw [e2] at hu
  rcases uV.1 hu with q | q
  ·exact .inl q
  rw [Zf.1 q];exact .inr ⟨fun y hy=>absurd hy (by show ¬(y∈([]:qX));simp),uW _⟩
 subst e2;refine pq h hb h1 h2 h.G5 h.L5 bD ?_;by_cases q:r=s
 ·simp_all [Mp,if_neg]
 have h30:30<=N'.length:=by
  by_cases p:N'.length<30
  ·exact absurd ⟨⟨zj,zj⟩,⟨zj,zj⟩,zj,p⟩ hn
  omega
 refine .inr ⟨q,rfl,rfl,.inr ⟨h30,?_,rfl⟩⟩;unfold Mp
 grind
theorem Rl(h:E7 gd B ad bm i G K D st N w){W}(hb:qL w W)(m:Nat)(hm:m<10000000):
  qC 43 #[qP bm,qN m] W (oq (fun k=>w.heap.size<=k\/gd k≠none) ad (aak gd B bm i w (fun K' st' N' cd=>zdk K st N m K' st' N' cd)) W):=by
 refine (Sb W (m:Int) (h.C9.u zg hb) (h.G3.later hb) h.L5 ⟨zj,zj⟩).mono ?_;rintro e w' (⟨hn,⟨t,v,rfl,hv⟩,H⟩ | ⟨k,hk,hkl,rfl,H⟩)
 ·exact ⟨6,by rw [hv],pq h hb H.o.1 H.o.2 h.G5 h.L5 zj ⟨rfl,rfl,.inl ⟨zj,rfl,rfl⟩⟩⟩
 obtain rfl:m=k:=zj;have hl:(N.eraseIdx m).length<=30:=uO (List.length_eraseIdx_le _ _) h.L5;exact ⟨0,rfl,pq h hb H.o.1 H.o.2 (h.G5.L5 (fun u hu=>.inl (ZQ hu))) hl zj ⟨rfl,rfl,.inr ⟨hkl,rfl,rfl⟩⟩⟩
theorem Ma(h:E7 gd B ad bm i G K D st N w){W}(hb:qL w W)(m:Nat)(hm:m<10000000):
  qC 45 #[qP bm,qN m] W (oq (fun k=>w.heap.size<=k\/gd k≠none) ad (aak gd B bm i w (fun K' st' N' cd=>zdj K st N m K' st' N' cd)) W):=by
 refine (PS W (m:Int) (h.C9.u zg hb) (h.G3.later hb) h.L5 ⟨zj,zj⟩).mono ?_;rintro e w' ⟨v,N',rfl,H,HQ⟩;obtain ⟨h1,h2,h3,h4⟩:=H.o;have hI:=h.G5.L5 (N':=N') (fun u hu=>.inl (h4 u hu))
 rcases HQ.o with ⟨hn,rfl,e2⟩ | ⟨k,x,hk,hx,⟨h30,rfl,e2⟩ | ⟨h30,rfl,e2⟩⟩
 ·exact ⟨6,rfl,pq h hb h1 h2 hI h3 zj ⟨rfl,rfl,.inl ⟨zj,rfl,e2⟩⟩⟩
 ·obtain rfl:m=k:=by omega
  exact ⟨0,rfl,pq h hb h1 h2 hI h3 zj ⟨rfl,rfl,.inr ⟨x,hx,.inl ⟨h30,rfl,e2⟩⟩⟩⟩
 obtain rfl:m=k:=zj;exact ⟨8,rfl,pq h hb h1 h2 hI h3 zj ⟨rfl,rfl,.inr ⟨x,hx,.inr ⟨h30,rfl,e2⟩⟩⟩⟩
theorem Hq(h:E7 gd B ad bm i G K D st N w){W}(hb:qL w W)(m:Nat)(hm:m<10000000):
  qC 41 #[qP bm,qN m] W (oq (fun k=>w.heap.size<=k\/gd k≠none) ad (aak gd B bm i w (fun K' st' N' cd=>zaQ K st N m K' st' N' cd)) W):=by
 refine (Cy W (m:Int) (h.C9.u zg hb) h.G5 h.L5 (h.G3.later hb) qx ⟨zj,zj⟩).mono ?_;rintro e w' ⟨v,K',D',st',N',rfl,H,HE⟩;obtain ⟨h1,h2,h3,h4,h5,h6⟩:=H.o;obtain ⟨cd,rfl,hc,hq⟩:=zco h5 h6 HE.o;exact ⟨cd,rfl,pq h hb h1 h2 h3 h4 hc hq⟩
theorem WS(h:E7 gd B ad bm i G K D st N w){W}(hb:qL w W)(r:Nat)(hr:r<3)(m)(hm:0<=m/\m<10000000):
  qC 47 #[qP bm,qN r,qI m] W (oq (fun k=>w.heap.size<=k\/gd k≠none) ad (aak gd B bm i w (fun K' st' N' cd=>cd=IA (st r).2.1 m/\K'=K/\N'=N/\st'=lR st r (BZ (st r) m))) W):=by
 refine (Sm W (r:Int) m (h.C9.u zg hb) h.G5 h.L5 (h.G3.later hb) ⟨zj,zj⟩ ⟨zj,zj⟩).mono ?_;rintro e w' ⟨v,K',D',st',N',rfl,H,HQ⟩;obtain ⟨h1,h2,h3,h4,_⟩:=H.o;obtain ⟨e1,e2,h6⟩:=HQ.o
 rcases h6 with ⟨q,_⟩ | ⟨r',hr',er,rfl,e3⟩
 ·omega
 obtain rfl:r=r':=zj
 have bD:IA (st r).2.1 m<=11:=by unfold IA;(repeat' split)<;>omega
 exact ⟨_,rfl,pq h hb h1 h2 h3 h4 bD ⟨rfl,e1,e2,e3⟩⟩
theorem Tz(h:E7 gd B ad bm i G K D st N w){W}(hb:qL w W)(r:Nat)(hr:r<3):
  qC 49 #[qP bm,qN r] W (oq (fun k=>w.heap.size<=k\/gd k≠none) ad (aak gd B bm i w (fun K' st' N' cd=>cd=0/\N'=N/\Rm K K' st st' r)) W):=by
 refine (PV W (r:Int) (h.C9.u zg hb) h.G5 h.L5 (h.G3.later hb) qx ⟨zj,zj⟩).mono ?_;rintro e w' ⟨v,K',D',st',N',rfl,H,HQ⟩;obtain ⟨h1,h2,h3,h4,_⟩:=H.o;obtain ⟨e1,h6⟩:=HQ.o
 rcases h6 with ⟨q,_⟩ | ⟨r',hr',er,rfl,e3⟩
 ·omega
 obtain rfl:r=r':=zj;exact ⟨0,rfl,pq h hb h1 h2 h3 h4 zj ⟨rfl,e1,e3⟩⟩
theorem ST(h:E7 gd B ad bm i G K D st N w){W}(hb:qL w W):
  qC 52 #[qP bm] W fun e w'=>e= .returned (.bool true)/\Aside (∃K' st',Got gd B bm i w K' st' [] w'/\Tf K st K' st'):=by
 refine (Nc W zj (h.C9.later hb) h.G5 (h.G3.later hb) qx).mono ?_;rintro e w' ⟨K',D',st',rfl,H⟩;obtain ⟨h1,h2,h3,_,h5,h6⟩:=H.o;exact ⟨rfl,K',st',⟨G,D',h1,(hb.mono (Cr h)).trans h2,h3.up zj,zr⟩,h6,fun r q hr hq x hx=>h5 q hq x (h.G5.G5.sub r hr x hx)⟩
theorem Wt(h:E7 gd B ad bm i G K D st N w){W}(hb:qL w W):
  qC 55 #[qP bm] W fun e w'=>∃ao cap,e= .returned (.slice ao N.length cap)/\Aside (qL W w'):=
 Ka W (h.C9.later hb) h.L5 (fun x hx=>by have:=(h.G5.D9 x hx).2;have:=h.W9;omega)
end
structure J1 (B:Nat) (ad:qF) (m:Int) (w:qW):Prop where
 G3:E6 B ad w
 see:aaw m w
 err:w.cell? (qB 1)=some (.iface 437 (.pointer (some (ad 0))))
 txt:∀k,k<11->w.cell? (ad k)=some (.string ⟨(oh (k+1)).toArray⟩)/\(ad k).block<B
 low:13<=B
theorem J1.later{B}{ad}{m}{w w'}(h:J1 B ad m w)(hb:qL w w'):J1 B ad m w':=
 ⟨h.G3.later hb,h.see.later hb,lO hb h.err,fun k hk=>⟨mg hb (h.txt k hk).1,(h.txt k hk).2⟩,h.low⟩
def zdm(gd:Nat->Option Obj)(B:Nat)(ad:qF)(bm i:Nat)(w:qW)(P:(Nat->Rws)->(Nat->DSt)->List nO->qU->Prop)(told:qY)(ev:Value)(w':qW):Prop:=∃a K' st' N',Got gd B bm i w K' st' N' w'/\P K' st' N' a/\((ev= .nilIface/\told=⟨a.toArray⟩)\/∃cd,1<=cd/\cd<=11/\ev=eV ad cd/\told=⟨#[]⟩/\a=oh cd)
def aav(gd:Nat->Option Obj)(B:Nat)(ad:qF)(bm i:Nat)(w:qW)(P:(Nat->Rws)->(Nat->DSt)->List nO->qU->Prop)(e:Ending)(w':qW):Prop:=∃told ev,e=qT #[.string told,ev]/\Aside (zdm gd B ad bm i w P told ev w')
section
variable {gd:Nat→Option Obj} {B:Nat} {ad:qF} {m:Int} {bm i:Nat} {G:qX} {K:qH} {D:Nat→List OpX} {st:qD} {N:qJ} {w W:qW}
theorem aav.mono{P P':(Nat->Rws)->(Nat->DSt)->List nO->qU->Prop}{e}{w'}(h:aav gd B ad bm i w P e w')(hp:∀K' st' N' a,P K' st' N' a->P' K' st' N' a):aav gd B ad bm i w P' e w':=by
 obtain ⟨told,ev,rfl,H⟩:=h;obtain ⟨a,K',st',N',h1,h2,h3⟩:=H.o;exact ⟨told,ev,rfl,a,K',st',N',h1,hp _ _ _ _ h2,h3⟩
theorem sQ(h:E7 gd B ad bm i G K D st N w)(hb:qL w W){a b p g r:Nat}{v0 v1 v2}{x}(y)(hS:B8 W v0 v1 v2 x)(hV:VH w.heap.size v0 v1)(hx:x.1= [(r:Int)])(hr:r<3)
  (ka:p8 W a 44 [ptB p]) (kb:p8 W b 89 [clV g []]) (kp:p8 W p 46 [ptB bm]) (ga:gd a≠none) (gb:gd b≠none) (gp:gd p≠none)
  (eg:∀args w,(callFunc g args).run prog w= .ok (.enter g args) w) (hy:zcy y) (hw:∀V,qL W V->Calls prog g #[.agg #[v0,v1,v2]] V (sY y V)):
  qC 80 #[.agg #[v0,v1,v2],ptB a,ptB b] W (aav gd B ad bm i w (fun K' st' N' s=>DoS K st N r y K' st' N' s)):=by
 refine (NG W w.heap.size (fun k=>w.heap.size<=k\/gd k≠none) ad (DoP gd B bm i K st N w r y) a b p bm g v0 v1 v2 x (r:Int) y hS hx ka kb kp ⟨.inr ga,.inr gb,.inr gp⟩ (fun k q=>.inl q) (fun k q=>.inl (hV k (.inl q))) hb.size eg hw (fun V ai=>zbt h (zi hb ai) r hr y hy) (fun _ _ _ _ q hb'=>q.later hb') (fun y' V q he=> ?_)).mono ?_
 ·obtain ⟨K',st',⟨G',D',_,hB,_,_⟩,_,_,hz⟩:=q;have h1:=(hz rfl).2;have h2:=mT he;exact pT (idO y') (by unfold idO;omega) (by unfold idO;omega) V (h.G3.mono hB).t.is
 rintro e w' ⟨y',cd,hc,H⟩;obtain ⟨K',st',hG,hd,bD,hz⟩:=H.o
 rcases hc with ⟨rfl,rfl⟩ | ⟨hc,rfl⟩
 ·exact ⟨_,_,rfl,Lib.itoa (idO y'),K',st',N,hG,hd,.inl ⟨rfl,rfl⟩⟩
 rw [if_neg hc] at hd;exact ⟨_,_,rfl,oh cd,K',st',N,hG,hd,.inr ⟨cd,zj,bD,rfl,rfl,rfl⟩⟩
theorem Av{q s g}{v0 v1 v2}{x}{R:(Nat->Rws)->(Nat->DSt)->List nO->Nat->Prop}(hS:B8 W v0 v1 v2 x)(kq:p8 W q 93 [clV g [s]])
  (eg:∀args w,(callFunc g args).run prog w= .ok (.enter g args) w)
  (hg:∀V,qL W V->Calls prog g #[.agg #[v0,v1,v2],ptB s] V fun e w'=>∃cd,e= .returned (eV ad cd)/\Aside (aak gd B bm i w R cd w')):
  qC 84 #[.agg #[v0,v1,v2],ptB q] W (aav gd B ad bm i w (fun K' st' N' a=>∃cd,a=okE cd/\R K' st' N' cd)):=by
 refine (KA W ad (aak gd B bm i w R) q s g v0 v1 v2 x hS kq eg hg).mono ?_;rintro e w' ⟨cd,hc,H⟩;obtain ⟨bD,K',st',N',hG,hR⟩:=H.o
 rcases hc with ⟨rfl,rfl⟩ | ⟨hc,rfl⟩
 ·exact ⟨_,_,rfl,okE 0,K',st',N',hG,⟨0,rfl,hR⟩,.inl ⟨rfl,rfl⟩⟩
 exact ⟨_,_,rfl,okE cd,K',st',N',hG,⟨cd,rfl,hR⟩,.inr ⟨cd,zj,bD,rfl,rfl,if_neg hc⟩⟩
theorem Bf(h:E7 gd B ad bm i G K D st N w)(hE:J1 B ad m w)(hb:qL w W){a b p g r:Nat}{v0 v1 v2}{x}(hr:r<3)(hS:B8 W v0 v1 v2 x)(hx:x.1[0]? =some (r:Int))
  (ka:p8 W a 44 [ptB p]) (kb:p8 W b 99 [clV g []]) (kp:p8 W p 46 [ptB bm])
  (eg:∀args w,(callFunc g args).run prog w= .ok (.enter g args) w) (P:qU->Prop)
  (hg:∀(V:qW) (c:Nat->Nat) (br:Nat),qL W V->aaw m V->K7 V c br (r:Int) (K r)->u9 (K r)->(lX (K r)).length<=300->B8 V v0 v1 v2 x->Calls prog g #[qP br,.agg #[v0,v1,v2]] V (me (fun s V'=>∃t,s=⟨t.toArray⟩/\P t/\qL V V'))):
  qC 98 #[.agg #[v0,v1,v2],ptB a,ptB b] W (aav gd B ad bm i w (fun K' st' N' s=>P s/\K'=K/\st'=st/\N'=N)):=by
 obtain ⟨ow,pv,fv,bp,br,d,dv,c,hm⟩:=h.C9;have hl:=h.G5.D4 hr;have hf:=h.W9;refine (XN W (fun s V'=>∃t,s=⟨t.toArray⟩/\P t/\qL w V') a b p bm (br r) g v0 v1 v2 x (r:Int) hS hx ka kb kp eg (fun V hV=>Iw V r hr (hm.later (zi hb hV)) (h.G3.later (zi hb hV))) (fun V hV=> ?_)).mono ?_
 ·have ai:=zi hb hV;refine (hg V (c r) (br r) hV (hE.see.later ai) ((hm.later ai).GP r hr).1.GP (h.G5.GC r hr) zj (hS.later hV)).mono ?_;rintro e w' ⟨s,rfl,H⟩;obtain ⟨t,rfl,hp,hbt⟩:=H.o;exact ⟨_,rfl,t,rfl,hp,zi ai hbt⟩
 rintro e w' ⟨s,rfl,H⟩;obtain ⟨t,rfl,hp,hbt⟩:=H.o;exact ⟨_,_,rfl,t,K,st,N,h.same hbt,⟨hp,rfl,rfl,rfl⟩,.inl ⟨rfl,rfl⟩⟩
theorem Wd(h:E7 gd B ad bm i G K D st N w)(hb:qL w W){s p}{v0 v1 v2}{x}(hS:B8 W v0 v1 v2 x)(ks:p8 W s 44 [ptB p])(kp:p8 W p 46 [ptB bm]):
  qC 50 #[.agg #[v0,v1,v2],ptB s] W (aav gd B ad bm i w (fun K' st' N' a=>a= [121,101,115]/\N'= []/\Tf K st K' st')):=by
 refine (WM W (fun w'=>∃K' st',Got gd B bm i w K' st' [] w'/\Tf K st K' st') s p bm v0 v1 v2 x hS ks kp (fun V hV=>ST h (zi hb hV))).mono ?_;rintro e w' ⟨rfl,H⟩;obtain ⟨K',st',hG,hC⟩:=H.o;exact ⟨_,_,rfl,[121,101,115],K',st',[],hG,⟨rfl,rfl,hC⟩,.inl ⟨rfl,rfl⟩⟩
theorem zbf(h:E7 gd B ad bm i G K D st N w)(hb:qL w W){s p}{v0 v1 v2}{x}(hS:B8 W v0 v1 v2 x)(ks:p8 W s 44 [ptB p])(kp:p8 W p 46 [ptB bm]):
  qC 53 #[.agg #[v0,v1,v2],ptB s] W (aav gd B ad bm i w (fun K' st' N' a=>a=Lib.itoa (N.length:Int)/\K'=K/\st'=st/\N'=N)):=by
 have hf:=h.L5;refine (zca W s p bm v0 v1 v2 x hS ks kp N.length (fun V hV=>Wt h (zi hb hV)) (fun V hV=>pT (N.length:Int) zj zj V (h.G3.later (zi hb hV)).t.is)).mono ?_;rintro e w' ⟨rfl,H⟩;exact ⟨_,_,rfl,_,K,st,N,h.same (zi hb H.o),⟨rfl,rfl,rfl,rfl⟩,.inl ⟨rfl,rfl⟩⟩
end
end
section
open ChangeShapes RowKit
theorem CJ{P}{W}{ti tp te ts}{ms}{nm}{f}
  (hi:P.underlying ti=some (.interface ms)) (hrow:∀u,P.typeName? 3 u=some nm->u=tp) (hp:P.underlying tp=some (.pointer te)) (he:P.underlying te=some (.struct #[f])) (hft:f.type=ts) (hfo:f.offset=0) (hs:P.underlying ts=some .string) (hc:P.cellsOf te=1) (hcs:P.cellsOf ts=1):
  ∀(l:List (String×Nat×qU)) (ps:List MemPlace),
   (∀x∈l,P.globalNamed x.1=some x.2.1/\(P.globals[x.2.1]?).map (·.type)=some ti)->
   DataW.LaidVars P W (l.map fun x=>(x.1,.iface nm (.ptr (.agg [.lit (.string x.2.2)])))) ps->
   (∀b off,MemPlace.cell b off∈ps->∀u v,W.cell? (qA b off)=some (.iface u v)->Value.okWide P W .any 0 u v)->
   ∀x∈l,∃a,W.cell? (qB x.2.1)=some (.iface tp (.pointer (some a)))/\W.cell? a=some (.string ⟨x.2.2.toArray⟩)
 | [],ps,_,_,_,x,hx=>ya
 | y::l,ps,hx,hv,hr,x,hm=>by
  obtain ⟨g,t,cs,fuel,p,q,hg,ht,dW,hd,hq,e⟩:=hv;subst e
  rcases uX.1 hm with rfl | hm
  ·obtain ⟨hg',ie⟩:=hx x Zn;obtain rfl:=Option.some.inj (hg'.symm.trans hg);obtain rfl:=Option.some.inj (ie.symm.trans ht);obtain ⟨l0⟩:=cs
   have ok0:∀u v,l0= [.iface u v]->Value.okWide P W .any 0 u v:=fun u v e=>by
    subst e;exact hr x.2.1 0 vQ u v (by simpa using YR hg dW 0)
   obtain ⟨a0,s0,rfl,fj,fq,-,rfl⟩:=errorString_of_trod hi hrow hp he hft hfo hs hc hcs hd ok0;exact ⟨a0,by simpa using YR hg dW 0,by rw [fj,<-fq]⟩
  exact CJ hi hrow hp he hft hfo hs hc hcs l q (fun z hz=>hx z (uY _ hz)) hq (fun b off hz=>hr b off (ZB _ hz)) x hm
def zc9(k:Nat):Nat:=[1,0,2,3,4,5,6,7,8,9,10].getD k 0
theorem Pt{B}{ad}{W}(h:E6 B ad W):∀k,k<11->W.cell? (qB (zc9 k))=some (.iface 437 (.pointer (some (ad k))))
 | 0,_=>h.j.O.et
 | 1,_=>h.t.G3.P7.c1
 | 2,_=>h.t.G3.P7.c2
 | 3,_=>h.t.G3.P7.c3
 | 4,_=>h.t.G3.P7.c4
 | 5,_=>h.t.G3.c5
 | 6,_=>h.t.G3.c6
 | 7,_=>h.t.G3.c7
 | 8,_=>h.t.G3.c8
 | 9,_=>h.t.G3.c9 h.cyc.o
 | 10,_=>h.j.O.aa3.c10
 | k+11,hk=>zj
theorem zaf{ad}{W}(hE:E6 W.heap.size ad W)(l:List (String×Nat×qU))(hn:∀x∈l,prog.globalNamed x.1=some x.2.1/\(prog.globals[x.2.1]?).map (·.type)=some 25)(hl:∀k,k<11->(l[k]?).map (·.2)=some (zc9 k,oh (k+1)))
  (h:laidMet prog (l.map fun x=>(x.1,.iface "*errors.errorString" (.ptr (.agg [.lit (.string x.2.2)])))) W):∃m:Int,J1 W.heap.size ad m W:=by
 obtain ⟨m,hm⟩:=hE.j.O.mx;obtain ⟨ps,hv,-,hr⟩:=h;have ht:=CJ underlying25 Tryz.adj underlying437 underlying455 rfl rfl underlying9 Tryz.abS Tryz.X l ps hn hv (fun b off hz=>(hr b off hz).2);refine ⟨m,hE,⟨hE.t.is,hm⟩,Pt hE 0 zj,fun k hk=> ?_,hE.t.G3.low⟩;have e:=hl k hk
 cases hx:l[k]? with
 | none=>rw [hx] at e;cases e
 | some x=>
  rw [hx] at e;have e2:x.2=(zc9 k,oh (k+1)):=Option.some.inj e;obtain ⟨a,h1,h2⟩:=ht x (uP hx);rw [e2] at h1 h2;have h3:=Pt hE k hk
  simp_all [Option.some.injEq,Value.iface.injEq,Value.pointer.injEq,true_and,uN]

end