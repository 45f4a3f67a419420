import Derived.Test.YtjclejjkganhfaaGreatDoorSR05
import Derived.Test.YtjclejjkganhfaaGreatDoorSR06
import Derived.Test.YtjclejjkganhfaaGreatDoorSR07
import Derived.Test.YtjclejjkganhfaaGreatDoorSR08
import Derived.Laws.BitsAllLaws
import Derived.Deep.CutRange
import Derived.Deep.DeepCutAuto
set_option linter.unusedSimpArgs false
set_option linter.unusedVariables false
set_option maxRecDepth 100000
set_option maxHeartbeats 64000000
namespace Go.Proofs.YtjclejjkganhfaaGreatDoor
open Go.Proofs.Tryz
variable {v:Nat}
section
open Shelf RowKit Lib Go.Sort
def XZ(x y:OpX):Int:=Aq x.2.2.1 y.2.2.1
theorem wV(x y):ltOf XZ x y=decide (x.2.2.1<y.2.2.1):=by
 unfold ltOf XZ Aq
 grind
theorem SN:SWO (ltOf XZ) where
 irrefl x:=by grind [wV,decide_eq_false]
 trans x y z h1 h2:=by
  rw [wV] at*
  grind
 ntrans x y z h1 h2:=by
  grind [wV,of_decide_eq_false,decide_eq_false]
theorem UR(x y)(w):qC 217 (#[.agg (ny x).toArray,.agg (ny y).toArray]++ #[]) w fun e w'=>e= .returned (qI (XZ x y))/\∃q os',w'=grow (w.drewN q) os':=by
 obtain ⟨t,b,n,k,nd,o,s,v⟩:=x;obtain ⟨t',b',n',k',nd',o',s',v'⟩:=y;unfold ny XZ
 show qC 217 #[.agg (qOa t b n k nd o s v),.agg (qOa t' b' n' k' nd' o' s' v')] w _
 go_enter func217,ntmps217;go_wp2_with (go_at_call 178;refine (BQ _ _ _).mono ?_;rintro e w' ⟨rfl,rfl⟩);go_ret;exact ⟨rfl,0,#[.cells (qOa t b n k nd o s v) 88]++ #[.cells (qOa t' b' n' k' nd' o' s' v') 88],vG⟩
theorem Rq(blk off size)(w):CmpLays prog 217 #[] ny 8 XZ blk off size w:=fun _ _ _ _ x y=>UR x y _
theorem Wn:∀args w,(callFunc 217 args).run prog w= .ok (.enter 217 args) w:=enters_of func217 zk rfl
theorem Aa(w)(g n)(d)(os):m7 (fun k=>k=g) w (sortWorldK ny 8 w g 0 n d os):=by
 refine ⟨rfl,rfl,rfl,?_,fun k hk hs=> ?_⟩
 ·exact kk8
 exact kg9
theorem zbB{w}{l9 g cap n}{ps}(h:w.ownsRow l9 88 8 (qG g n cap) n (cellsOf ps))(hn:n=ps.length):HoldsK ny 8 w g 0 ps.toArray:=fun j hj=>by
 rw [size_flatK] at hj;simp only [Zl] at hj;have h1:j / 8<ps.length:=zj;have h2:j / 8*8+j % 8=j:=zj;refine ⟨?_,yS⟩;rw [Zc,h.cellAt j zj,get_flatK _ _ _ _ yG]
 grind [ma]
theorem Gm{w}{g}{d}(h:HoldsK ny 8 w g 0 d)(j)(u)(hj:(cellsOf d.toList)[j]? =some u):w.cell? (qA g j)=some u:=by
 have hl:=(uI.1 hj).1;rw [mo,ZK] at hl;have h1:j / 8<d.size:=zj;have h2:j / 8*8+j % 8=j:=zj;have H:=(h j xc).1;rw [Zc,get_flatK _ _ _ _ zj] at H
 grind [ma,ZK]
theorem zaW(w)(l9 g cap)(ps)(hown:w.ownsRow l9 88 8 (qG g ps.length cap) ps.length (cellsOf ps))(hl:ps.length<=100000):
  qC 269 #[qG g ps.length cap,.func (.func 217) #[] #[]] w fun e w'=>e=qT #[]/\∃qs:List OpX,qs.Perm ps/\qs.Pairwise (fun a b=>a.2.2.1<=b.2.2.1)/\(∀j u,(cellsOf qs)[j]? =some u->w'.cell? (qA g j)=some u)/\m7 (fun k=>k=g) w w':=by
 have hH:=zbB hown rfl;have hblk:=(hown.lt g rfl).2;have h:=AnyQ.slices_SortFunc KY 8 isAgg88 sizeOf88 ny nK ng XZ SN 217 #[] g 0 cap ps.toArray w Wn (Rq g 0 ps.toArray.size w) hH hblk zm;refine Calls.mono h ?_;rintro e w' ⟨rfl,d',n,os,hp,hs,rfl⟩;simp only [Zl] at hp hs;have hsz:d'.size=ps.length:=qv
 have hperm:d'.toList.Perm ps:=by
  exact kb3
 refine ⟨rfl,d'.toList,hperm,?_,?_,Aa w g n d' os⟩
 ·rw [ZN];intro i j hi hj aA;have hi':i<d'.size:=xL;have hj':j<d'.size:=yG;have:=hs i j (uW _) aA zj
  grind [wV,of_decide_eq_false]
 exact Gm ((show SWK ny 8 w g 0 d' _ from ⟨n,os,rfl⟩).holds hblk hH (by rw [hsz];simp))
theorem IG(p)(cap)(fv)(w):qC 269 #[.slice p 0 cap,fv] w fun e w'=>e=qT #[]/\w'=w:=
 AnyF.slices_SortFunc_none KY p cap fv w
end
section
def wt(x:OpX):Nat:=opE x.1 x.2.1 x.2.2.1 x.2.2.2.1 x.2.2.2.2.1 x.2.2.2.2.2.1 x.2.2.2.2.2.2.1.data.toList x.2.2.2.2.2.2.2.data.toList
def Vr(c:Nat):Nat:=if c % 2=1 then (c / 2)^^^3988292384 else c / 2
def Iv:Nat->Nat->Nat
 | 0,c=>c
 | n+1,c=>Iv n (Vr c)
theorem CP:∀(n c:Nat),Iv (n+1) c=Vr (Iv n c)
 | 0,c=>rfl
 | n+1,c=>by
  show Iv (n+1) (Vr c)=_
  rw [CP n (Vr c)];rfl
def XA(c:Nat):qU->Nat
 | []=>c
 | b::l=>XA (Iv 8 (c^^^b.toNat)) l
def Fz(l:qU):Nat:=4294967295 - XA 4294967295 l
theorem XC{c}(h:c<4294967296):Vr c<4294967296:=by
 unfold Vr;split
 ·exact Nat.xor_lt_two_pow (n:=32) zj zj
 omega
theorem IJ:∀(n:Nat) {c:Nat},c<4294967296->Iv n c<4294967296
 | 0,_,h=>h
 | n+1,_,h=>IJ n (XC h)
theorem Tu{c}(h:c<4294967296)(b:UInt8):c^^^b.toNat<4294967296:=Nat.xor_lt_two_pow (n:=32) zj (by have:=b.toNat_lt;omega)
theorem FK:∀(l:qU) (c:Nat) (b:UInt8),XA c (l++ [b])=Iv 8 (XA c l^^^b.toNat)
 | [],c,b=>rfl
 | a::l,c,b=>FK l _ b
theorem VS(l):Fz l<4294967296:=by unfold Fz;omega
theorem WP{v}(h:v<4294967296):4294967295^^^v=4294967295 - v:=by
 have h1:(BitVec.allOnes 32^^^BitVec.ofNat 32 v).toNat=(~~~ BitVec.ofNat 32 v).toNat:=by rw [BitVec.allOnes_xor]
 grind
def wa:Nat->Nat->qU
 | 0,_=>[]
 | n+1,v=>wa n (v / 16)++ [wj (v % 16)]
theorem BW:∀n v,(wa n v).length=n
 | 0,_=>rfl
 | n+1,v=>by simp [wa,BW n]
theorem GF:∀n,wa n 0=List.replicate n 48
 | 0=>rfl
 | n+1=>by
  rw [List.replicate_succ']
  show wa n (0 / 16)++ [wj (0 % 16)]=_
  rw [show 0 / 16=0 from rfl,GF n];rfl
theorem KI:∀(m k v:Nat),v<16^k->wa (m+k) v=List.replicate m 48++wa k v
 | m,0,v,h=>by
  simp_all [ZC,GF,wa]
 | m,k+1,v,h=>by
  show wa (m+k) (v / 16)++ [wj (v % 16)]=List.replicate m 48++(wa k (v / 16)++ [wj (v % 16)])
  rw [KI m k (v / 16) zj,Zo]
theorem PQ:∀n:Fin 16,45<=(wj n).toNat:=yZ
def nB(t:qU):qU:=t++35::(wa 8 (Fz t)++ [10])
theorem nD(t):(nB t).length=t.length+10:=by
 unfold nB;simp [BW]
def mQ(x:OpX):qU:=ol x.1 x.2.1 x.2.2.1 x.2.2.2.1 x.2.2.2.2.1 x.2.2.2.2.2.1 x.2.2.2.2.2.2.1.data.toList x.2.2.2.2.2.2.2.data.toList
def ww(l:qU):Option OpX:=match nN l with
 | none=>none
 | some (c,n1,n2,n3,n4,n5,nm,v)=>if opE n1 n2 n3 c.toNat n4 n5 nm v=0 then some ((n1:Int),(n2:Int),(n3:Int),c.toNat,(n4:Int),(n5:Int),⟨nm.toArray⟩,⟨v.toArray⟩) else none
theorem Ki{x}(h:wt x=0):ww (mQ x)=some x:=by
 obtain ⟨t,b,n,k,nd,o,s,v⟩:=x;have h':opE t b n k nd o s.data.toList v.data.toList=0:=h;have hp:=MD h';obtain ⟨h1,h2,h3,h4,h5,h6,hk,h7,h8,h9,ki,-⟩:=mT h';have e1:((t.toNat:Nat):Int)=t:=zj;have e2:((b.toNat:Nat):Int)=b:=zj;have e3:((n.toNat:Nat):Int)=n:=zj;have e4:((nd.toNat:Nat):Int)=nd:=zj;have e5:((o.toNat:Nat):Int)=o:=zj
 have ek:(UInt8.ofNat k).toNat=k:=by rcases hk with rfl | rfl | rfl | rfl<;>rfl
 unfold ww mQ;dsimp only;rw [hp];dsimp only;rw [e1,e2,e3,e4,e5,ek,if_pos h']
theorem Kg{l}{x}(h:ww l=some x):mQ x=l/\wt x=0:=by
 unfold ww at h;split at h
 ·cases h
 rename_i c n1 n2 n3 n4 n5 nm v hp;split at h
 ·rename_i he
  cases h
  exact ⟨DR hp,he⟩
 cases h
theorem VZ{t b n}{k}{l8 other}{name value}(h:opE t b n k l8 other name value=0):name= []\/nY name=true:=by
 by_cases hn:nY name=true
 ·exact .inr hn
 by_cases he:name= []
 ·exact .inl he
 exfalso;have hn':nY name=false:=vm;have h4:(if nY name=false then 4 else if value≠ [] then 3 else 0)=4:=if_pos hn';unfold opE wd nw DG EC FV at h
 grind
theorem Xn{t b n}{k}{l8 other}{name value}(h:opE t b n k l8 other name value=0):∀c∈name,45<=c.toNat:=fun c hc=>by
 rcases VZ h with rfl | hn
 ·simp at hc
 unfold nY at hn;simp only [Yl,decide_eq_true_eq] at hn;have:=List.all_eq_true.1 hn.2 _ hc;unfold DU at this
 grind
theorem zag(a)(h0:0<=a):∀c∈Lib.itoa a,45<=c.toNat:=fun c hc=>by
 rw [Lib.itoa,if_neg zj] at hc;have:=GZ _ _ hc;omega
theorem PG:∀(l:qU),∀c∈Cv l,45<=c.toNat
 | [],c,h=>by simp [Cv] at h
 | a::r,c,h=>by
  have ha:=a.toNat_lt;simp only [Cv,uX] at h
  rcases h with rfl | rfl | h
  ·exact PQ ⟨a.toNat / 16,zj⟩
  ·exact PQ ⟨a.toNat % 16,zj⟩
  exact PG r c h
theorem Jn:∀(x:List qU),(∀l∈x,∀c∈l,45<=c.toNat)->∀c∈pt 124 x,45<=c.toNat
 | [],_,c,h=>by simp [pt] at h
 | [a],hx,c,h=>by
  grind [pt]
 | a::b::r,hx,c,h=>by
  simp only [pt] at h
  rcases uV.1 h with q | q
  ·simp_all
  rcases uX.1 q with rfl | q
  ·decide
  exact Jn (b::r) (fun l hl=>hx l (uY _ hl)) c q
theorem IT{x}(h:wt x=0):∀c∈mQ x,45<=c.toNat:=by
 obtain ⟨t,b,n,k,nd,o,s,v⟩:=x;have h':opE t b n k nd o s.data.toList v.data.toList=0:=h;obtain ⟨h1,h2,h3,h4,h5,h6,hk,h7,h8,h9,ki,-⟩:=mT h';unfold mQ ol;dsimp only;refine Jn _ (fun l hl=> ?_);simp only [uX,ZP,or_false] at hl
 rcases hl with rfl | rfl | rfl | rfl | rfl | rfl | rfl | rfl
 ·intro c hc;rw [Zf.1 hc]
  rcases hk with rfl | rfl | rfl | rfl<;>decide
 ·exact kn7
 ·exact kn7
 ·exact kn7
 ·exact kn7
 ·exact kn7
 ·exact Xn h'
 exact PG _
theorem sW{x}(h:wt x=0):(mQ x).length<=1000:=by
 exact kb9
def ahead:qU->qU
 | []=>[]
 | c::l=>if c=35 then [] else c::ahead l
theorem AK:∀ {t:qU} (r:qU),(∀c∈t,45<=c.toNat)->ahead (t++35::r)=t
 | [],r,_=>rfl
 | c::t,r,h=>by
  have hc:c≠35:=fun e=>zL
  show (if c=35 then [] else c::ahead (t++35::r))=c::t
  rw [if_neg hc,AK r (fun d hd=>h d (by simp [hd]))]
theorem DN:∀ {l:qU},(35:UInt8)∉l->ahead l=l
 | [],_=>rfl
 | c::l,h=>by
  have hc:c≠35:=fun e=>h (by simp [e])
  show (if c=35 then [] else c::ahead l)=c::l
  rw [if_neg hc,DN (fun q=>h (by simp [q]))]
theorem Fp:∀(l:qU),(ahead l).length<=l.length
 | []=>uL _
 | c::l=>by
  unfold ahead;split
  ·simp
  have:=Fp l;simp;omega
def nv(b:qU):Option (OpX×Nat):=match ww (ahead b) with
 | none=>none
 | some x=>if nB (ahead b)<+:b then some (x,(nB (ahead b)).length) else none
theorem Os{x}(h:wt x=0)(r):nv (nB (mQ x)++r)=some (x,(nB (mQ x)).length):=by
 have ha:ahead (nB (mQ x)++r)=mQ x:=by
  unfold nB;rw [Zo];exact AK _ (IT h)
 simp_all [nv,Ki,if_pos]
theorem Dh{b}{x}{n}(h:nv b=some (x,n)):wt x=0/\n=(nB (mQ x)).length/\∃r,b=nB (mQ x)++r:=by
 unfold nv at h;split at h
 ·cases h
 rename_i y hy;obtain ⟨h1,h2⟩:=Kg hy;split at h
 ·rename_i hp
  cases h
  obtain ⟨r,hr⟩:=hp
  grind
 cases h
theorem Oo{x}(h:wt x=0){n}(hn:n<(nB (mQ x)).length):nv ((nB (mQ x)).take n)=none:=by
 unfold nv;split
 ·rfl
 rename_i y hy;rw [if_neg];rintro ⟨r,hr⟩;have hl:=congrArg List.length hr;rw [uQ,Zr,nD] at hl;by_cases hq:n<=(mQ x).length
 ·have e:(nB (mQ x)).take n=(mQ x).take n:=by
   unfold nB;rw [Yk hq]
  have h35:(35:UInt8)∉(nB (mQ x)).take n:=by
   rw [e];intro q;have:=IT h 35 (YD q);revert this;decide
  grind [DN,Zr]
 have ha:ahead ((nB (mQ x)).take n)=mQ x:=by
  obtain ⟨m,rfl⟩:∃m,n=(mQ x).length+(m+1):=⟨n - (mQ x).length - 1,zj⟩
  unfold nB;rw [List.take_length_add_append,List.take_succ_cons];exact AK _ (IT h)
 grind [nD,mQ]
theorem CC:nv []=none:=by
 have:ww []=none:=zt
 grind [nv,ahead]
def Ch:Nat->qU->List OpX×Nat
 | 0,_=>([],0)
 | k+1,b=>match nv b with
  | none=>([],0)
  | some (x,n)=>(x::(Ch k (b.drop n)).1,n+(Ch k (b.drop n)).2)
def mp(b:qU):List OpX×Nat:=Ch b.length b
theorem tz{b}{x}{n}(h:nv b=some (x,n)):10<=n/\n<=b.length:=by
 obtain ⟨_,h2,r,h3⟩:=Dh h
 simp_all [nD,congrArg,uQ]
theorem Ds:∀(k m:Nat) (b:qU),b.length<=k->b.length<=m->Ch k b=Ch m b
 | 0,0,b,_,_=>rfl
 | 0,m+1,b,h,_=>by
  grind [Ch,CC]
 | k+1,0,b,_,h=>by
  grind [Ch,CC]
 | k+1,m+1,b,h1,h2=>by
  cases hr:nv b with
  | none=>simp only [Ch,hr]
  | some p=>
   obtain ⟨x,n⟩:=p;have:=tz hr;simp only [Ch,hr];rw [Ds k m (b.drop n) zM zM]
theorem AB{b}(h:nv b=none):mp b=([],0):=by
 unfold mp
 cases hb:b.length with
 | zero=>rfl
 | succ k=>simp only [Ch,h]
theorem AM{b}{x}{n}(h:nv b=some (x,n)):mp b=(x::(mp (b.drop n)).1,n+(mp (b.drop n)).2):=by
 have hp:=tz h;unfold mp
 cases hb:b.length with
 | zero=>omega
 | succ k=>
  simp only [Ch,h];rw [Ds k (b.drop n).length (b.drop n) zM zg]
def oN:List OpX->qU
 | []=>[]
 | x::l=>nB (mQ x)++oN l
theorem Ar:∀(a b:qX),oN (a++b)=oN a++oN b
 | [],b=>rfl
 | x::a,b=>by
  show nB (mQ x)++oN (a++b)=_
  rw [Ar a b,<-Zo];rfl
theorem AL:∀(l:qX) (r:qU),(∀x∈l,wt x=0)->nv r=none->mp (oN l++r)=(l,(oN l).length)
 | [],r,_,h=>by
  show mp r=([],0)
  exact AB h
 | x::l,r,hl,h=>by
  have e:oN (x::l)++r=nB (mQ x)++(oN l++r):=by
   show nB (mQ x)++oN l++r=_
   rw [Zo]
  rw [e,AM (Os (hl x zr) _),List.drop_left,AL l r (fun y hy=>hl y (by simp [hy])) h]
  grind [nB,mQ,oN,uQ]
theorem KD:∀(k:Nat) (b:qU),b.length<=k->∃r,b=oN (mp b).1++r/\nv r=none/\(mp b).2=(oN (mp b).1).length/\∀x∈(mp b).1,wt x=0
 | k,b,hk=>by
  cases hr:nv b with
  | none=>
   rw [AB hr];exact ⟨b,rfl,hr,rfl,fun x hx=>ya⟩
  | some p=>
   obtain ⟨x,n⟩:=p;have hp:=tz hr;obtain ⟨h1,h2,r,h3⟩:=Dh hr;rw [AM hr]
   have hd:b.drop n=r:=by rw [h3,h2,List.drop_left]
   match k,hk with
   | 0,hk=>omega
   | k+1,hk=>
    obtain ⟨r',q1,q2,q3,q4⟩:=KD k (b.drop n) (by rw [ZH];omega)
    grind [nB,mQ,oN,mp,Zo,uQ]
end
section
open RowKit Lib Go.Sort
theorem Xd(h:v<4294967296):bits .and .u32 (v:Int) 1=((v % 2:Nat):Int):=by
 have:=u32_and_nat v 1 h zj;rwa [Nat.and_one_is_mod] at this
theorem SH(h:v<4294967296):bits .xor .u32 (v:Int) 3988292384=((v^^^3988292384:Nat):Int):=u32_xor_nat v 3988292384 h zj
theorem XO(h:v<4294967296):bits .xor .u32 IntKind.u32.max (v:Int)=((4294967295 - v:Nat):Int):=by
 have e:IntKind.u32.max=((4294967295:Nat):Int):=zo;rw [e,u32_xor_nat _ _ zj h,WP h]
theorem Mr(c:Nat)(w)(hc:c<4294967296):
  qC 340 #[.int .u32 (c:Int)] w fun e w'=>e= .returned (.int .u32 ((Iv 8 c:Nat):Int))/\w'=w:=by
 go_enter func340,ntmps340;go_wp2;go_loopg [0,4] 8 (fun kx s0 s4 wr=>∃(j v:Nat),s0= .int .u32 (v:Int)/\s4=qN j/\j<=8/\8 - j<=kx/\v<4294967296/\Aside (v=Iv j c/\wr=w))
 case atStart=>exact ⟨0,c,rfl,rfl,zj,zj,hc,rfl,rfl⟩
 case round=>
  obtain ⟨j,v,rfl,rfl,hj,hjx,hv,A⟩:=hrel;by_cases hlt:j<8
  ·have d1:qlt j 8=true:=by simp;omega
   have dr:decide (j<8)=true:=zm;have ha:=Xd hv
   obtain ⟨hf,hhf⟩:∃hf:Nat,Aside (hf=v / 2):=⟨_,rfl⟩
   have hh:(v:Int) / 2=(hf:Int):=by rw [hhf.o];omega
   by_cases hb:v % 2=1
   ·rw [hb] at ha;have hx:=SH (v:=hf) (by rw [hhf.o];omega)
    have hvj:hf^^^3988292384=Iv (j+1) c:=by rw [CP,<-A.o.1,hhf.o];unfold Vr;rw [if_pos hb]
    obtain ⟨v',hv'⟩:∃v':Nat,Aside (v'=hf^^^3988292384):=⟨_,rfl⟩
    rw [<-hv'.o] at hx hvj
    have HV:Aside (v'=Iv (j+1) c/\wr=w/\v'<4294967296):=⟨hvj,A.o.2,by rw [hvj];exact IJ _ hc⟩
    clear A hvj;go_wp2;go_roundg (8 - (j+1))
    case measure=>omega
    case rel=>exact ⟨j+1,v',rfl,zN,zj,uL _,HV.o.2.2,HV.o.1,HV.o.2.1⟩
   rw [show v % 2=0 by omega] at ha
   have hvj:hf=Iv (j+1) c:=by rw [CP,<-A.o.1,hhf.o];unfold Vr;rw [if_neg hb]
   have HV:Aside (hf=Iv (j+1) c/\wr=w/\hf<4294967296):=⟨hvj,A.o.2,zj⟩
   clear A hvj;go_wp2;go_roundg (8 - (j+1))
   case measure=>omega
   case rel=>exact ⟨j+1,hf,rfl,zN,zj,uL _,HV.o.2.2,HV.o.1,HV.o.2.1⟩
  have d1:qlt j 8=false:=zm;have dr:decide (j<8)=false:=zm
  have HV:Aside (v=Iv 8 c/\wr=w):=by
   have e8:j=8:=zj;have:=A.o;rwa [e8] at this
  clear A;go_wp2;go_ret;exact ⟨by rw [HV.o.1];rfl,HV.o.2⟩
theorem Xr(s)(w)(hs:s.size<=1000000):
  qC 284 #[.string s] w fun e w'=>e= .returned (.int .u32 ((Fz s.data.toList:Nat):Int))/\w'=w:=by
 go_enter func284,ntmps284;go_wp2;go_loopg [3,7] s.size (fun kx s3 s7 wr=>∃(j v:Nat),s3= .int .u32 (v:Int)/\s7=qN j/\j<=s.size/\s.size - j<=kx/\v<4294967296/\Aside (v=XA 4294967295 (s.data.toList.take j)/\wr=w))
 case atStart=>exact ⟨0,4294967295,rfl,rfl,zj,zj,zj,rfl,rfl⟩
 case round=>
  obtain ⟨j,v,rfl,rfl,hj,hjx,hv,A⟩:=hrel;by_cases hlt:j<s.size
  ·have d1:qlt j s.size=true:=by simp;omega
   have dr:decide (j<s.size)=true:=zm
   obtain ⟨x,hx⟩:∃x:Nat,Aside (x=v^^^s[j].toNat):=⟨v^^^s[j].toNat,rfl⟩
   have hb:=s[j].toNat_lt
   have jS:IntKind.u32.wrap (s[j].toNat:Int)=(s[j].toNat:Int):=by rw [IntKind.wrap_u32'];omega
   have hxx:bits .xor .u32 (v:Int) (s[j].toNat:Int)=(x:Int):=by rw [hx.o];exact u32_xor_nat v s[j].toNat hv zj
   have hx32:x<4294967296:=by rw [hx.o];exact Tu hv s[j]
   have hdv:=Mr x wr hx32
   obtain ⟨v',hv'⟩:∃v':Nat,Aside (v'=Iv 8 x):=⟨_,rfl⟩
   rw [<-hv'.o] at hdv
   have HV:Aside (v'=XA 4294967295 (s.data.toList.take (j+1))/\wr=w/\v'<4294967296):=⟨by rw [<-Pf s j hlt,FK,<-A.o.1,hv'.o,hx.o],A.o.2,by rw [hv'.o];exact IJ 8 hx32⟩
   clear A;go_wp2_with fail;refine hdv.mono ?_;clear hdv;rintro e w1 ⟨rfl,rfl⟩;go_wp2;go_roundg (s.size - (j+1))
   case measure=>omega
   case rel=>exact ⟨j+1,v',rfl,zN,zj,uL _,HV.o.2.2,HV.o.1,HV.o.2.1⟩
  have d1:qlt j s.size=false:=zm;have dr:decide (j<s.size)=false:=zm
  have hvv:v=XA 4294967295 s.data.toList:=by
   have:=A.o.1;rwa [Zk zm] at this
  have HV:Aside (Fz s.data.toList=4294967295 - v/\wr=w):=⟨by rw [hvv];rfl,A.o.2⟩
  clear A hvv;go_wp2;go_ret;refine ⟨?_,HV.o.2⟩;rw [HV.o.1]
  show Ending.returned (Value.int .u32 _)=_
  rw [XO hv]
theorem zdG(w)(hz:w.cell? (qA 18 15)=some (.int .u8 4)):
  qC 291 #[.int .u64 16] w fun e w'=>e= .returned (qI 4)/\w'=w:=by
 have e0:IntKind.u64.wrap (-16)=18446744073709551600:=zo;have e1:bits .and .u64 16 18446744073709551600=16:=zo;have e2:IntKind.u64.wrap 4573923408821661840=4573923408821661840:=zo;go_enter func291,ntmps291;exact ka7
theorem zdL(w)(hz:w.cell? (qA 18 15)=some (.int .u8 4)):
  qC 238 #[.int .u64 16] w fun e w'=>e= .returned (qI 4)/\w'=w:=by
 have h:=zdG w hz;go_enter func238,ntmps238;go_wp2_with fail;refine h.mono ?_;rintro e w1 ⟨rfl,rfl⟩;exact ka7
theorem zcS(w):qC 237 #[qI 16] w fun e w'=>e= .returned (.bool true)/\w'=w:=by
 have e1:bits .and .i64 16 15=0:=zo;go_enter func237,ntmps237;exact ka7
theorem Dw:∀(k v:Nat),wa (k+1) v=wj (v / 16^k % 16)::wa k v
 | 0,v=>by simp [wa]
 | k+1,v=>by
  show wa (k+1) (v / 16)++ [wj (v % 16)]=wj (v / 16^(k+1) % 16)::(wa k (v / 16)++ [wj (v % 16)])
  rw [Dw k (v / 16),Nat.div_div_eq_div_mul,Nat.pow_succ,Nat.mul_comm 16];rfl
def S8(W:qW)(b k v:Nat):Prop:=∃arr:Array Value,W.heap[b]? =some (.cells arr 324 (0,0))/\arr.size=65/\∀(j:Nat) (c:UInt8),(wa k v)[j]? =some c->arr[65 - k+j]? =some (.int .u8 (c.toNat:Int))
theorem S8.start{W}{b}(v)(h:W.heap[b]? =some (.cells zeroCells324 324 (0,0))):S8 W b 0 v:=⟨_,h,zk,fun j c hj=>by simp [wa] at hj⟩
theorem S8.cell{W}{b k v}(h:S8 W b k v){i}(hi:i<65):(∃o,W.cell? (qA b i)=some o)/\W.frozen? (qA b i)=false:=by
 obtain ⟨arr,h1,h2,_⟩:=h;refine ⟨⟨arr[i],?_⟩,by simp [World.frozen?,h1]⟩;simp [World.cell?,h1,h2,hi]
theorem S8.put{W}{b k v i}(h:S8 W b k v)(hi:i+(k+1)=65):S8 (W.setCell (qA b i) (.int .u8 ((wj (v / 16^k % 16)).toNat:Int))) b (k+1) v:=by
 obtain ⟨arr,h1,h2,h3⟩:=h;refine ⟨_,heap_setCell_same W b i _ _ _ h1,by simp [h2],fun j c hj=> ?_⟩;rw [Dw] at hj
 grind
theorem za2(x:Nat)(w)(h1:x<16):(Instr.index 9 (.string ⟨#[48,49,50,51,52,53,54,55,56,57,97,98,99,100,101,102,103,104,105,106,107,108,109,110,111,112,113,114,115,116,117,118,119,120,121,122]⟩) (.int .u64 (x:Int))).run prog w= .ok (.int .u8 ((wj x).toNat:Int)) w:=by
 rcases (show x=0\/x=1\/x=2\/x=3\/x=4\/x=5\/x=6\/x=7\/x=8\/x=9\/x=10\/x=11\/x=12\/x=13\/x=14\/x=15 by omega) with rfl | rfl | rfl | rfl | rfl | rfl | rfl | rfl | rfl | rfl | rfl | rfl | rfl | rfl | rfl | rfl
 all_goals kernel_rfl
theorem zbg{u:Nat}(h:u<4294967296):bits .and .u64 (u:Int) 15=((u % 16:Nat):Int):=by
 have:=u64_and_nat u 15 zj zj;rw [show (15:Nat)=2^4 - 1 from rfl,Nat.and_two_pow_sub_one_eq_mod] at this;exact this
theorem S8.conv{W}{b k v i}(h:S8 W b k v)(hi:i+k=65):Sem.run prog (convert 141 9 (.slice (some (qA b i)) k k)) W= .ok (.string ⟨(wa k v).toArray⟩) W:=by
 obtain ⟨arr,h1,h2,h3⟩:=h;have hl:=BW k v
 have:=run_convert_bytes_back (P:=prog) W 141 9 5 (qA b i) k (wa k v) underlying141 underlying5 underlying9 (fun j hj=>by
  have e:=h3 j _ (uJ hj)
  rw [show 65 - k+j=i+j by omega] at e
  rw [Addr.add_lit]
  simp [World.cell?,h1,e])
 simp_all
theorem zcR(v:Nat)(w)(hv:v<4294967296)(hz:w.cell? (qA 18 15)=some (.int .u8 4)):
  qC 173 #[qE,.int .u64 (v:Int),qI 16,.bool false,.bool false] w fun e w'=>∃k,(1<=k/\k<=8/\v<16^k)/\e=qT #[qE,.string ⟨(wa k v).toArray⟩]/\qL w w':=by
 obtain ⟨b,hb⟩:=ze w.heap.size;obtain ⟨U,hU⟩:=ze (w.alloc (.cells zeroCells324 324));have ah:qL w U:=yB
 have H0:Aside (S8 U b 0 v/\qL w U):=⟨S8.start v (by rw [hU.o,hb.o];exact heap_alloc_new w _),ah⟩
 have hp:=zcS U;have ht:=zdL U (by rw [uS (a:=(qA 18 15)) (ah.block _ (uN w (qA 18 15) hz))];exact hz);clear ah hz;go_enter func173,ntmps173;go_upto_region 7 with fail;rw [<-hU.o,<-hb.o];go_wp2_with fail;refine hp.mono ?_;clear hp;rintro e w1 ⟨rfl,rfl⟩;go_wp2_with fail;refine ht.mono ?_;clear ht;rintro e w2 ⟨rfl,rfl⟩;go_wp2;go_loopg [1,13] 8 (fun kx s1 s13 wr=>∃(k u i:Nat),s1= .int .u64 (u:Int)/\s13=qN i/\i+k=65/\k<=7/\8 - k<=kx/\u<4294967296/\Aside (u=v / 16^k/\S8 wr b k v/\qL w wr))
 case atStart=>exact ⟨0,v,65,rfl,rfl,rfl,zj,zj,hv,zr,H0.o⟩
 case round=>
  obtain ⟨k,u,i,rfl,rfl,hik,hk,aY,hu,A⟩:=hrel;clear H0
  obtain ⟨j,hj⟩:∃j,i=j+1:=⟨i - 1,zj⟩
  subst hj;have hw1:IntKind.i64.wrap (((j+1:Nat):Int) - 1)=(j:Int):=zw;obtain ⟨⟨o,c1⟩,c2⟩:=A.o.2.1.cell (i:=j) zj;have pj:(0:Int)<=(j:Int):=zj;have lj:(j:Int)<65:=zj;by_cases hlt:16<=u
  ·have d1:decide ((16:Int)<=(u:Int))=true:=by simp;omega
   have dr:decide (16<=u)=true:=zm;have ha:=zbg hu
   obtain ⟨r,hr⟩:∃r:Nat,Aside (r=u % 16):=⟨u % 16,rfl⟩
   rw [<-hr.o] at ha;have hx:=za2 r
   have hr16:r<16:=by rw [hr.o];omega
   have hxr:∀w:World,(Instr.index 9 (.string ⟨#[48,49,50,51,52,53,54,55,56,57,97,98,99,100,101,102,103,104,105,106,107,108,109,110,111,112,113,114,115,116,117,118,119,120,121,122]⟩) (.int .u64 (r:Int))).run prog w= .ok (.int .u8 ((wj r).toNat:Int)) w:=fun w=>hx w hr16
   obtain ⟨u',hu'⟩:∃u':Nat,Aside (u'=u / 16):=⟨u / 16,rfl⟩
   have cl:(u:Int) / 16=(u':Int):=by rw [hu'.o];omega
   obtain ⟨hd,hhd⟩:∃hd:Int,Aside (hd=((wj r).toNat:Int)):=⟨_,rfl⟩
   have HN:Aside (u'=v / 16^(k+1)/\S8 (wr.setCell (qA b j) (.int .u8 hd)) b (k+1) v/\qL w (wr.setCell (qA b j) (.int .u8 hd))/\k+1<=7/\u'<4294967296):=by
    have e1:=A.o.1
    have dg:k+1<=7:=by
     by_cases q:k=7
     ·subst q;omega
     omega
    refine ⟨?_,?_,?_,dg,by rw [hu'.o];omega⟩
    ·rw [hu'.o,e1,Nat.div_div_eq_div_mul,<-Nat.pow_succ]
    ·rw [hhd.o,hr.o,e1];exact A.o.2.1.put zj
    exact kj1
   rw [<-hhd.o] at hxr;clear A hx;go_wp2;go_roundg (8 - (k+1))
   case measure=>omega
   case rel=>exact ⟨k+1,u',j,rfl,rfl,zj,HN.o.2.2.2.1,uL _,HN.o.2.2.2.2,HN.o.1,HN.o.2.1,HN.o.2.2.1⟩
  have d1:decide ((16:Int)<=(u:Int))=false:=zm;have dr:decide (16<=u)=false:=zm;have hx:=za2 u
  have hxr:∀w:World,(Instr.index 9 (.string ⟨#[48,49,50,51,52,53,54,55,56,57,97,98,99,100,101,102,103,104,105,106,107,108,109,110,111,112,113,114,115,116,117,118,119,120,121,122]⟩) (.int .u64 (u:Int))).run prog w= .ok (.int .u8 ((wj u).toNat:Int)) w:=fun w=>hx w zj
  obtain ⟨hd,hhd⟩:∃hd:Int,Aside (hd=((wj u).toNat:Int)):=⟨_,rfl⟩
  have HN:Aside (S8 (wr.setCell (qA b j) (.int .u8 hd)) b (k+1) v/\qL w (wr.setCell (qA b j) (.int .u8 hd))/\v<16^(k+1)):=by
   have e1:=A.o.1;refine ⟨?_,?_,?_⟩
   ·have e2:u=v / 16^k % 16:=by omega
    rw [hhd.o,e2];exact A.o.2.1.put zj
   ·exact kj1
   have q:=(Nat.div_lt_iff_lt_mul (Nat.pow_pos (n:=k) (show 0<16 by omega))).1 (show v / 16^k<16 by rw [<-e1];omega);omega
  have jS:=HN.o.1.conv (i:=j) zj;rw [<-hhd.o] at hxr;have lkn:65 - j=k+1:=zj
  have fQ:∀W:World,(Instr.sliceAt 324 (qP b) (some (qN j)) none none).run prog W= .ok (.slice (some (qA b j)) (k+1) (k+1)) W:=fun W=>by
   have e:prog.arrayLen 324=65:=zk;rw [run_sliceAt_array_l W 324 (qB b) zk .i64 (j:Int) zj (by rw [e];omega),e];have hj65:¬65=j:=zj;simp [go_sem,slicedAt,hj65,lkn,Addr.add];omega
  clear A hx;go_wp2;go_ret2;exact ⟨k+1,⟨zj,zj,HN.o.2.2⟩,rfl,HN.o.2.1⟩
abbrev DSt:=qU×Bool×Bool×Int
structure t6 (w:qW) (d:Nat) (v:Value) (st:DSt):Prop where
 cell:w.heap[d]? =some (.cells #[v,.bool st.2.1,.bool st.2.2.1,qI st.2.2.2] 143 (0,0))
 row:P6 w v st.1
 ne:v.ownBlock≠some d
 left:0<=st.2.2.2/\st.2.2.2<=9223372036854775807
def DI(d:Nat)(v:Value)(k:Nat):Prop:=k=d\/v.ownBlock=some k
theorem t6.lt{w}{d}{v}{st}(h:t6 w d v st):d<w.heap.size:=(uK.1 h.cell).1
theorem t6.aag{w}{d}{v}{st}(h:t6 w d v st){k}(hk:DI d v k):k<w.heap.size:=by
 rcases hk with rfl | hk
 ·exact h.lt
 exact h.row.lt hk
theorem t6.same{w w'}{d}{v}{st}(h:t6 w d v st)(e:∀k,DI d v k->w'.heap[k]? =w.heap[k]?):t6 w' d v st:=
 ⟨(e d (.inl rfl)).trans h.cell,h.row.same (fun g hg=>e g (.inr hg)),h.ne,h.left⟩
theorem t6.later{w w'}{d}{v}{st}(h:t6 w d v st)(hb:qL w w'):t6 w' d v st:=h.same (fun k hk=>hb.block k (h.aag hk))
theorem t6.c{w}{d}{v}{st}(h:t6 w d v st):w.cell? (qB d)=some v/\w.cell? (qA d 1)=some (.bool st.2.1)/\w.cell? (qA d 2)=some (.bool st.2.2.1)/\w.cell? (qA d 3)=some (qI st.2.2.2)/\∀o,w.frozen? (qA d o)=false:=by
 have hc:=h.cell;refine ⟨?_,?_,?_,?_,fun o=> ?_⟩
 ·simp [World.cell?,hc]
 ·simp [World.cell?,hc]
 ·simp [World.cell?,hc]
 ·simp [World.cell?,hc]
 simp [World.frozen?,hc]
theorem t6.abB{w}{d}{v}{B}{off waits}{left}(h:t6 w d v (B,off,waits,left))(z):t6 (w.setCell (qA d 1) (.bool z)) d v (B,z,waits,left)/\m7 (fun k=>k=d) w (w.setCell (qA d 1) (.bool z)):=by
 have hk:=lZ d [.bool z] 1 w;refine ⟨⟨heap_setCell_same w d 1 _ _ _ h.cell,h.row.same (fun g hg=>hk.block g (h.row.lt hg) (fun e=>h.ne xD)),h.ne,h.left⟩,hk⟩
theorem t6.ab1{w}{d}{v}{B}{off waits}{left}(h:t6 w d v (B,off,waits,left))(z):t6 (w.setCell (qA d 2) (.bool z)) d v (B,off,z,left)/\m7 (fun k=>k=d) w (w.setCell (qA d 2) (.bool z)):=by
 have hk:=lZ d [.bool z] 2 w;refine ⟨⟨heap_setCell_same w d 2 _ _ _ h.cell,h.row.same (fun g hg=>hk.block g (h.row.lt hg) (fun e=>h.ne xD)),h.ne,h.left⟩,hk⟩
theorem t6.abz{w}{d}{v}{B}{off waits}{left}(h:t6 w d v (B,off,waits,left))(z)(hz:0<=z/\z<=9223372036854775807):t6 (w.setCell (qA d 3) (qI z)) d v (B,off,waits,z)/\m7 (fun k=>k=d) w (w.setCell (qA d 3) (qI z)):=by
 have hk:=lZ d [qI z] 3 w;refine ⟨⟨heap_setCell_same w d 3 _ _ _ h.cell,h.row.same (fun g hg=>hk.block g (h.row.lt hg) (fun e=>h.ne xD)),h.ne,hz⟩,hk⟩
theorem t6.aa1{w}{d}{v v'}{B'}{off waits}{left}(h:w.heap[d]? =some (.cells #[v,.bool off,.bool waits,qI left] 143 (0,0)))(hr:P6 w v' B')(hn:v'.ownBlock≠some d)(hl:0<=left/\left<=9223372036854775807):t6 (w.setCell (qB d) v') d v' (B',off,waits,left)/\m7 (fun k=>k=d) w (w.setCell (qB d) v'):=by
 have hk:=lZ d [v'] 0 w;refine ⟨⟨heap_setCell_same w d 0 _ _ _ h,hr.same (fun g hg=>hk.block g (hr.lt hg) (fun e=>hn xD)),hn,hl⟩,hk⟩
theorem IY(s)(w)(hs:s.size<=65536):
  qC 29 #[.string s] w fun e w'=>∃d v,e=qT #[qP d,.nilIface]/\Aside (t6 w' d v (s.data.toList,false,false,0)/\qL w w'/\∀k,DI d v k->w.heap.size<=k):=by
 obtain ⟨v,w1,jS,hrow,hb,hv⟩:=TA w s zj;have d1:qlt 65536 s.size=false:=zm
 have H:Aside (P6 w1 v s.data.toList/\qL w w1/\∀g,v.ownBlock=some g->w.heap.size<=g):=⟨hrow,hb,hv⟩
 obtain ⟨g,cap,aT⟩:=hrow.aab;subst aT;go_enter func29,ntmps29;go_wp2;go_ret2;have hb2:qL w1 (w1.alloc (.cells #[qG g s.data.toList.length cap,.bool false,.bool false,qI 0] 143)):=zh w1 _;refine ⟨w1.heap.size,_,rfl,⟨heap_alloc_new w1 _,H.o.1.same (fun g hg=>hb2.block g (H.o.1.lt hg)),fun e=> ?_,⟨by show (0:Int)<=0;omega,by show (0:Int)<=9223372036854775807;omega⟩⟩,zi H.o.2.1 hb2,fun k hk=> ?_⟩
 ·have:=H.o.1.lt e;omega
 rcases hk with rfl | hk
 ·exact H.o.2.1.size
 exact H.o.2.2 k hk
theorem QV{d}{v}{st}(w)(h:t6 w d v st):
  qC 121 #[qP d] w fun e w'=>e= .returned (.bool (!st.2.1))/\w'=w:=by
 obtain ⟨c0,c1,c2,c3,cf⟩:=h.c;go_enter func121,ntmps121;exact ka7
theorem NT{d}{v}{st}(w)(h:t6 w d v st):
  qC 168 #[qP d] w fun e w'=>e= .returned (.string ⟨st.1.toArray⟩)/\w'=w:=by
 obtain ⟨c0,c1,c2,c3,cf⟩:=h.c;have jS:=h.row.P8;obtain ⟨g,cap,hv⟩:=h.row.aab;subst hv;go_enter func168,ntmps168;exact ka7
theorem zbU{d}{v}{B}{off waits}{left}(w)(h:t6 w d v (B,off,waits,left)):
  qC 166 #[qP d] w fun e w'=>(∃u,e= .returned u)/\Aside (t6 w' d v (B,false,false,left)/\m7 (fun k=>k=d) w w'):=by
 obtain ⟨c0,c1,c2,c3,cf⟩:=h.c;dsimp only at c1 c2 c3;have H:Aside (t6 w d v (B,off,waits,left)):=h;go_enter func166,ntmps166;go_wp2;go_end0;have h1:=H.o.abB false;have h2:=h1.1.ab1 false;exact ⟨⟨_,rfl⟩,h2.1,h1.2.trans h2.2⟩
structure zdn (ad:qF) (w:qW):Prop where
 c1:w.cell? (qB 0)=some (.iface 437 (.pointer (some (ad 1))))
 c2:w.cell? (qB 2)=some (.iface 437 (.pointer (some (ad 2))))
 c7:w.cell? (qB 7)=some (.iface 437 (.pointer (some (ad 7))))
 c10:w.cell? (qB 10)=some (.iface 437 (.pointer (some (ad 10))))
def IA(off:Bool)(n:Int):Nat:=if n<0 then 2 else if off then 11 else 0
def BZ(st:DSt)(n:Int):DSt:=if IA st.2.1 n=0 then (st.1,st.2.1,true,n) else st
theorem Xw{ad}{d}{v}{B}{off waits}{left}(w)(n)(h:t6 w d v (B,off,waits,left))(hE:zdn ad w)(hn:n<=9223372036854775807):
  qC 91 #[qP d,qI n] w fun e w'=>e= .returned (eV ad (IA off n))/\Aside (t6 w' d v (BZ (B,off,waits,left) n)/\m7 (fun k=>k=d) w w'):=by
 obtain ⟨c0,c1,c2,c3,cf⟩:=h.c;dsimp only at c1 c2 c3;have H:Aside (t6 w d v (B,off,waits,left)):=h;have hp:=QV w h;dsimp only at hp;have e1:=hE.c1;have e10:=hE.c10;by_cases h0:n<0
 ·have d0:decide (n<0)=true:=by simp;omega
  have ec:IA off n=2:=if_pos h0;have HC:Aside (IA off n=2):=ec;rw [ec];go_enter func91,ntmps91;exact kl5
 have d0:decide (n<0)=false:=zm
 cases off with
 | true=>
  have HC:Aside (IA true n=11):=by unfold IA;rw [if_neg h0];rfl
  rw [HC.o];go_enter func91,ntmps91;go_wp2_with fail;refine hp.mono ?_;rintro e w1 ⟨rfl,rfl⟩;exact kl5
 | false=>
  have HC:Aside (IA false n=0):=by unfold IA;rw [if_neg h0];rfl
  rw [HC.o];go_enter func91,ntmps91;go_wp2_with fail;refine hp.mono ?_;rintro e w1 ⟨rfl,rfl⟩;go_wp2;go_ret;have h1:=H.o.ab1 true;have h2:=h1.1.abz n ⟨zj,hn⟩;refine ⟨rfl,?_,h1.2.trans h2.2⟩;unfold BZ;rw [HC.o];exact h2.1
def wr1(st:DSt)(c:UInt8):Bool×DSt:=if st.2.2.1=true/\st.2.2.2=0 then (false,(st.1,true,false,st.2.2.2)) else if st.2.1=true then (false,st) else (true,(st.1++ [c],st.2.1,st.2.2.1,if st.2.2.1=true then st.2.2.2 - 1 else st.2.2.2))
def D7(d:Nat)(v:Value)(w:qW)(st':DSt)(w':qW):Prop:=∃v',t6 w' d v' st'/\m7 (DI d v) w w'/\∀g,v'.ownBlock=some g->v.ownBlock=some g\/w.heap.size<=g
theorem OW{w w2}{d}{v v2}{B}{off waits}{left}{c}{o}(h:t6 w d v (B,off,waits,left))(hr:P6 w2 v2 (B++ [c]))(hg:(w.alloc o).grownBy w2 v.ownBlock)(hv:∀g,v2.ownBlock=some g->v.ownBlock=some g\/(w.alloc o).heap.size<=g):t6 (w2.setCell (qB d) v2) d v2 (B++ [c],off,waits,left)/\m7 (DI d v) w (w2.setCell (qB d) v2)/\∀g,v2.ownBlock=some g->v.ownBlock=some g\/w.heap.size<=g:=by
 have hd:w2.heap[d]? =some (.cells #[v,.bool off,.bool waits,qI left] 143 (0,0)):=by
  have h1:=uR w o d h.lt;rw [(lS hg).block d (by simp;have:=h.lt;omega) (fun e=>h.ne e.symm),h1];exact h.cell
 have hn:v2.ownBlock≠some d:=fun e=>by
  rcases hv d e with q | q
  ·exact h.ne q
  have:=h.lt;simp at q;omega
 have h1:=t6.aa1 hd hr hn h.left;refine ⟨h1.1,?_,fun g e=>(hv g e).imp id (fun q=>by simp at q;omega)⟩;have k1:m7 (DI d v) w w2:=((m7.refl _ w).alloc o).trans ((lS hg).mono (fun k _ e=>.inr e.symm))
 exact k1.then h1.2 (fun i _ e=>.inl e)
theorem Kj{d}{v}{B}{off waits}{left}(w)(c)(h:t6 w d v (B,off,waits,left))(hB:B.length<1000000):
  qC 162 #[qP d,.int .u8 (c.toNat:Int)] w fun e w'=>e= .returned (.bool (wr1 (B,off,waits,left) c).1)/\Aside (D7 d v w (wr1 (B,off,waits,left) c).2 w'):=by
 obtain ⟨c0,c1,c2,c3,cf⟩:=h.c;dsimp only at c1 c2 c3;have kT:=h.left;dsimp only at kT;have H:Aside (t6 w d v (B,off,waits,left)):=h;obtain ⟨g,cap,aT⟩:=h.row.aab;dsimp only at aT
 obtain ⟨o,ho⟩:∃o:Obj,Aside (o= .cells #[.int .u8 (c.toNat:Int)] 5):=⟨_,rfl⟩
 have hrA:P6 (w.alloc o) v B:=h.row.same (fun k hk=>uR w o k (h.row.lt hk))
 have dQ:(w.alloc o).cell? (qB w.heap.size)=some (.int .u8 (c.toNat:Int)):=by
  have:=heap_alloc_new w o;unfold World.cell?;dsimp only;rw [this,ho.o];rfl
 obtain ⟨v2,w2,ae,hr2,hg2,dx⟩:=Kt hrA (qB w.heap.size) 141 c dQ hB;have HL:Aside (t6 (w2.setCell (qB d) v2) d v2 (B++ [c],off,waits,left)/\m7 (DI d v) w (w2.setCell (qB d) v2)/\∀g,v2.ownBlock=some g->v.ownBlock=some g\/w.heap.size<=g):=OW h hr2 hg2 dx
 have lf:w2.heap[d]? =some (.cells #[v,.bool off,.bool waits,qI left] 143 (0,0)):=by
  have h1:=uR w o d h.lt;rw [(lS hg2).block d (by simp;have:=h.lt;omega) (fun e=>h.ne e.symm),h1];exact h.cell
 obtain ⟨g2,cap2,hvs2⟩:=hr2.aab;rw [show (B++ [c]).length=B.length+1 by simp] at hvs2;have y0:w2.cell? (qB d)=some v:=vY;have y2:w2.cell? (qA d 2)=some (.bool waits):=vY;have y3:w2.cell? (qA d 3)=some (qI left):=vY
 have yf:∀o,w2.frozen? (qA d o)=false:=fun o=>by simp [World.frozen?,lf]
 rw [ho.o] at ae;subst aT;subst hvs2
 cases waits with
 | true=>
  by_cases h0:left=0
  ·subst h0
   have HW:Aside (wr1 (B,off,true,0) c=(false,(B,true,false,0))):=by unfold wr1;rfl
   rw [HW.o];go_enter func162,ntmps162;go_wp2;go_ret;have h1:=H.o.abB true;have h2:=h1.1.ab1 false;exact ⟨rfl,_,h2.1,(h1.2.trans h2.2).mono (fun k _ e=>.inl e),fun g hg=>.inl hg⟩
  have d0:(left==0)=false:=xm
  cases off with
  | true=>
   have HW:Aside (wr1 (B,true,true,left) c=(false,(B,true,true,left))):=by
    show wr1 (B,true,true,left) c=_
    unfold wr1;simp [h0]
   exact ki8
  | false=>
   have HW:Aside (wr1 (B,false,true,left) c=(true,(B++ [c],false,true,left - 1))):=by
    show wr1 (B,false,true,left) c=_
    unfold wr1;simp [h0]
   rw [HW.o];have hw1:IntKind.i64.wrap (left - 1)=left - 1:=zw;go_enter func162,ntmps162;go_wp2_with (at_builtin;refine Lib.wpList_append_run _ rfl _ _ _ _ rfl _ _ rfl rfl _ _ ae ?_);go_ret;have h1:=HL.o.1.abz (left - 1) zj;exact ⟨rfl,_,h1.1,HL.o.2.1.then h1.2 (fun k _ e=>.inl e),HL.o.2.2⟩
 | false=>
  cases off with
  | true=>
   have HW:Aside (wr1 (B,true,false,left) c=(false,(B,true,false,left))):=by
    show wr1 (B,true,false,left) c=_
    unfold wr1;simp
   exact ki8
  | false=>
   have HW:Aside (wr1 (B,false,false,left) c=(true,(B++ [c],false,false,left))):=by
    show wr1 (B,false,false,left) c=_
    unfold wr1;simp
   rw [HW.o];go_enter func162,ntmps162;go_wp2_with (at_builtin;refine Lib.wpList_append_run _ rfl _ _ _ _ rfl _ _ rfl rfl _ _ ae ?_);go_ret;exact ⟨rfl,_,HL.o.1,HL.o.2.1,HL.o.2.2⟩
def DeB(w:qW):Prop:=w.cell? (qA 18 15)=some (.int .u8 4)
theorem DeB.later{w w'}(h:DeB w)(hb:qL w w'):DeB w':=by
 unfold DeB at*;rw [uS (a:=(qA 18 15)) (hb.block _ (uN w (qA 18 15) h))];exact h
theorem UO(v:Nat)(w)(hv:v<4294967296)(hz:DeB w):
  qC 339 #[.int .u64 (v:Int),qI 16] w fun e w'=>∃k,(1<=k/\k<=8/\v<16^k)/\e= .returned (.string ⟨(wa k v).toArray⟩)/\qL w w':=by
 have h:=zcR v w hv hz;clear hz;go_enter func339,ntmps339;exact kg5
theorem Sk(v:Nat)(w)(hv:v<4294967296)(hz:DeB w):
  qC 283 #[.int .u64 (v:Int),qI 16] w fun e w'=>∃k,(1<=k/\k<=8/\v<16^k)/\e= .returned (.string ⟨(wa k v).toArray⟩)/\qL w w':=by
 have h:=UO v w hv hz;clear hz;go_enter func283,ntmps283;exact kg5
theorem tD:∀n,Lib.repeatL [48] n=List.replicate n 48
 | 0=>rfl
 | n+1=>by
  show [48]++Lib.repeatL [48] n=_
  rw [tD n];rfl
theorem Im(s)(w)(hs:s.size<=1000000)(hz:DeB w):
  qC 231 #[.string s] w (qR (.string ⟨(wa 8 (Fz s.data.toList)).toArray⟩) w):=by
 have gw:=Xr s w hs
 obtain ⟨v,hv⟩:∃v:Nat,Aside (v=Fz s.data.toList):=⟨_,rfl⟩
 rw [<-hv.o] at gw |-
 have hv32:v<4294967296:=by rw [hv.o];exact VS _
 have jS:IntKind.u64.wrap (v:Int)=(v:Int):=by rw [IntKind.wrap_u64];omega
 have hf:=Sk v w hv32 hz;clear hz;go_enter func231,ntmps231;go_wp2_with fail;refine gw.mono ?_;clear gw;rintro e w1 ⟨rfl,rfl⟩;go_wp2_with fail;refine hf.mono ?_;clear hf;rintro e w2 ⟨k,hk,rfl,hb⟩
 obtain ⟨D,hD⟩:∃D:ByteArray,Aside (D=⟨(wa k v).toArray⟩):=⟨_,rfl⟩
 rw [<-hD.o];have hDs:D.size=k:=ui
 obtain ⟨m,hm⟩:∃m:Nat,m+k=8:=⟨8 - k,zj⟩
 have hw:IntKind.i64.wrap (8 - (D.size:Int))=(m:Int):=by rw [IntKind.wrap_i64,hDs];omega
 have hr:=Tryz.strings_Repeat ⟨#[48]⟩ m w2 zj (by show 1*m<=_;omega);obtain ⟨E,hE,hEs,ha⟩:=El ⟨(Lib.repeatL [48] m).toArray⟩ D (by rw [hDs,tD];simp [ByteArray.size];omega)
 have HE:Aside (E=⟨(wa 8 v).toArray⟩):=by
  apply Od;rw [hE,hD.o,<-hm,KI m k v hk.2.2,tD]
 have H:Aside (qL w1 w2):=hb
 obtain ⟨Z,hZ⟩:∃Z:ByteArray,Aside (Z=⟨(Lib.repeatL [48] m).toArray⟩):=⟨_,rfl⟩
 have hr2:qC 285 #[.string ⟨#[48]⟩,qN m] w2 (qR (.string Z) w2):=by rw [hZ.o];exact hr
 rw [<-hZ.o] at ha;clear hE hEs hk hDs hb hr;go_wp2_with fail;refine hr2.mono ?_;clear hr2;rintro e w3 ⟨rfl,hb3⟩;have H3:Aside (qL w1 w3):=zi H.o hb3;clear hb3;go_wp2;go_ret;exact ⟨by rw [HE.o];rfl,H3.o⟩
theorem DA(s)(w)(hs:s.size<=1000000)(hz:DeB w):
  qC 161 #[.string s] w fun e w'=>∃r:ByteArray,r.data.toList=nB s.data.toList/\e= .returned (.string r)/\qL w w':=by
 have hst:=Im s w hs hz
 obtain ⟨D,hD⟩:∃D:ByteArray,Aside (D=⟨(wa 8 (Fz s.data.toList)).toArray⟩):=⟨_,rfl⟩
 rw [<-hD.o] at hst;have hDs:D.size=8:=ui;obtain ⟨E1,h1,h1s,a1⟩:=El s ⟨#[35]⟩ (by show s.size+1<=_;omega);have hE1s:E1.size=s.size+1:=h1s;obtain ⟨E2,h2,h2s,a2⟩:=El E1 D zj;obtain ⟨E3,h3,h3s,a3⟩:=El E2 ⟨#[10]⟩ (by show E2.size+1<=_;omega)
 have HE:Aside (E3.data.toList=nB s.data.toList):=by
  show _=_
  rw [h3,h2,h1,hD.o];unfold nB;simp
 clear h1 h2 h3 h1s h2s h3s hE1s hDs hz;go_enter func161,ntmps161;go_wp2_with fail;refine hst.mono ?_;clear hst;rintro e w1 ⟨rfl,hb⟩;have H:Aside (qL w w1):=hb;clear hb;go_wp2;go_ret;exact ⟨E3,HE.o,rfl,H.o⟩
def IR(x:OpX):Value:=.agg #[.int .i64 x.1,.int .i64 x.2.1,.int .i64 x.2.2.1,.int .u8 (x.2.2.2.1:Int),.int .i64 x.2.2.2.2.1,.int .i64 x.2.2.2.2.2.1,.string x.2.2.2.2.2.2.1,.string x.2.2.2.2.2.2.2]
structure aaC (ad:qF) (w:qW):Prop where
 txt:abx ad w
 aa3:zdn ad w
 deb:DeB w
 et:w.cell? (qB 1)=some (.iface 437 (.pointer (some (ad 0))))
 mx:∃m:Int,w.cell? (qB 14)=some (qI m)
structure N5 (B:Nat) (ad:Nat->Addr) (w:World):Prop where
 size:B<=w.heap.size
 all:∀w',Below B w w'->aaC ad w'
theorem N5.mono{B}{ad}{w w'}(h:N5 B ad w)(hb:Below B w w'):N5 B ad w':=⟨uO h.size hb.size,fun w'' h'=>h.all w'' (hb.trans h')⟩
theorem N5.later{B}{ad}{w w'}(h:N5 B ad w)(hb:qL w w'):N5 B ad w':=h.mono (hb.mono h.size)
theorem N5.O{B}{ad}{w}(h:N5 B ad w):aaC ad w:=h.all w (uM _ _)
theorem N5.up{B B'}{ad}{w}(h:N5 B ad w)(hB:B<=B')(hs:B'<=w.heap.size):N5 B' ad w:=⟨hs,fun w' h'=>h.all w' (h'.mono hB)⟩
def pZ:DSt->List UInt8->Bool×DSt
 | st,[]=>(true,st)
 | st,c::l=>if (wr1 st c).1=true then pZ (wr1 st c).2 l else (false,(wr1 st c).2)
def pN(st:DSt)(x:OpX):Nat×DSt:=if wt x≠0 then (wt x,st) else if 65536<st.1.length+(nB (mQ x)).length then (8,st) else if (pZ st (nB (mQ x))).1=true then (0,(pZ st (nB (mQ x))).2) else (11,(pZ st (nB (mQ x))).2)
theorem zaB(st)(c):(wr1 st c).2.1.length<=st.1.length+1:=by
 grind [wr1]
theorem D7.start{d}{v}{w}{st}(h:t6 w d v st):D7 d v w st w:=⟨v,h,m7.refl _ _,fun g hg=>.inl hg⟩
theorem D7.later{d}{v}{w W W'}{st}(h:D7 d v w st W)(hb:qL W W'):D7 d v w st W':=by
 obtain ⟨v',h1,h2,h3⟩:=h;exact ⟨v',h1.later hb,h2.then (lW hb) (fun i hi q=>by have:=h2.size;omega),h3⟩
theorem D7.from{d}{v}{w W W'}{st}(hb:Below w.heap.size w W)(hd:t6 w d v st){st'}(h:D7 d v W st' W'):D7 d v w st' W':=by
 obtain ⟨v',h1,h2,h3⟩:=h;refine ⟨v',h1,?_,fun g hg=>(h3 g hg).imp id (fun q=>uO hb.size q)⟩
 exact ((lW hb).mono (fun k hk q=>zj)).then h2 (fun i _ q=>q)
theorem D7.next{d}{v}{w W W'}{st st'}(h:D7 d v w st W)(k:∀v',t6 W d v' st->D7 d v' W st' W'):D7 d v w st' W':=by
 obtain ⟨v',h1,h2,h3⟩:=h;obtain ⟨v2,k1,k2,k3⟩:=k v' h1;refine ⟨v2,k1,h2.then k2 (fun i hi q=> ?_),fun g hg=> ?_⟩
 ·rcases q with rfl | q
  ·exact .inl rfl
  rcases h3 i q with e | e
  ·exact .inr e
  omega
 rcases k3 g hg with e | e
 ·exact h3 g e
 exact .inr (uO h2.size e)
theorem D7.m8{d}{v}{w W}{st}{B}(h:D7 d v w st W)(hB:B<=w.heap.size)(hO:∀k,DI d v k->B<=k):Below B w W:=by
 obtain ⟨v',h1,h2,h3⟩:=h;exact h2.m8 hB hO
theorem D7.I8{d}{v}{w W}{st}{B}(h:D7 d v w st W)(hB:B<=w.heap.size)(hO:∀k,DI d v k->B<=k):∃v',t6 W d v' st/\(∀k,DI d v' k->B<=k)/\m7 (DI d v) w W:=by
 obtain ⟨v',h1,h2,h3⟩:=h;refine ⟨v',h1,fun k hk=> ?_,h2⟩
 rcases hk with rfl | hk
 ·exact hO k (.inl rfl)
 rcases h3 k hk with e | e
 ·exact hO k (.inr e)
 omega
theorem Dz{B:Nat}{ad:Nat->Addr}{d:Nat}{v:Value}{st:DSt}(w:World)(x:OpX)(hD:t6 w d v st)(hE:N5 B ad w)(hO:∀k,DI d v k->B<=k)(aI:x.2.2.2.2.2.2.1.size<=1000000)(aJ:x.2.2.2.2.2.2.2.size<=1000000)(hB:st.1.length<=65536):
  Calls prog 117 #[.pointer (some ⟨d,0,none⟩),IR x] w fun e w'=>e= .returned (eV ad (pN st x).1)/\Aside (D7 d v w (pN st x).2 w'):=by
 obtain ⟨t,b,n,kd,nd,o,s,vl⟩:=x;dsimp only at aI aJ
 obtain ⟨x,hx⟩:∃x:OpX,Aside (x=(t,b,n,kd,nd,o,s,vl)):=⟨_,rfl⟩
 have ex:(t,b,n,kd,nd,o,s,vl)=x:=hx.o.symm;obtain ⟨U,hU⟩:=ze (w.alloc (.cells #[.int .i64 t,.int .i64 b,.int .i64 n,.int .u8 (kd:Int),.int .i64 nd,.int .i64 o,.string s,.string vl] 88));have ah:Below w.heap.size w U:=yB
 have HD:Aside (t6 w d v st/\t6 U d v st/\N5 B ad w/\N5 B ad U/\(∀k,DI d v k->B<=k)/\Below w.heap.size w U):=⟨hD,hD.later ah,hE,hE.later ah,hO,ah⟩
 clear hD hE hO ah;by_cases au:wt x=0
 case neg=>
  have eD:=OM t b n kd nd o s vl U HD.o.2.2.2.1.O.txt aI aJ (by rw [hx.o] at au;exact au)
  have HA:Aside (pN st x=(wt x,st)/\eV ad (wt x)= .iface 437 (.pointer (some (ad (wt x - 1))))):=⟨by unfold pN;rw [if_pos au],if_neg au⟩
  have e0:opE t b n kd nd o s.data.toList vl.data.toList=wt x:=by rw [hx.o];rfl
  rw [e0] at eD;obtain ⟨ea,hea⟩:=ze (ad (wt x - 1));rw [<-hea.o] at eD HA;rw [ex];rw [HA.o.1];dsimp only;rw [HA.o.2,hx.o];unfold IR;dsimp only;clear e0 ex au;go_enter func117,ntmps117;go_wp2_with fail;rw [<-hU.o];refine eD.mono ?_;clear eD;rintro e w1 ⟨rfl,hb1⟩
  have HW:Aside (D7 d v w st w1):=((D7.start HD.o.2.1).later hb1).from HD.o.2.2.2.2.2 HD.o.1
  clear hb1;go_wp2;go_ret;exact ⟨rfl,HW.o⟩
 have eD:=RQ t b n kd nd o s vl U HD.o.2.2.2.1.O.txt (by rw [hx.o] at au;exact au)
 have e0:ol t b n kd nd o s.data.toList vl.data.toList=mQ x:=by rw [hx.o];rfl
 rw [e0] at eD
 obtain ⟨tx,htx2⟩:∃tx:ByteArray,Aside (tx=⟨(mQ x).toArray⟩):=⟨_,rfl⟩
 rw [<-htx2.o] at eD
 have aV:tx.data.toList=mQ x:=by rw [htx2.o]
 have iY:tx.size<=1000:=by
  have:=sW au;rw [<-aV] at this;exact ko5
 obtain ⟨g,cap,aT⟩:=HD.o.1.row.aab;have HX:Aside (wt x=0):=au;rw [ex]
 obtain ⟨cd,sx,hcs⟩:∃cd sx,Aside (pN st x=(cd,sx)):=⟨(pN st x).1,(pN st x).2,rfl⟩
 rw [hcs.o];unfold IR;rw [hx.o];dsimp only;clear e0 ex au;go_enter func117,ntmps117;go_wp2_with fail;rw [<-hU.o];refine eD.mono ?_;clear eD;rintro e w1 ⟨rfl,hb1⟩;have hD1:=HD.o.2.1.later hb1;have ee:=HD.o.2.2.2.1.later hb1;have hrc:=DA tx w1 zj ee.O.deb;go_wp2_with fail;refine hrc.mono ?_;clear hrc;rintro e w2 ⟨r,hr,rfl,hb2⟩;have hD2:=hD1.later hb2;have cu:Below w.heap.size w w2:=HD.o.2.2.2.2.2.trans ((zi hb1 hb2).mono HD.o.2.2.2.2.2.size);rw [aV] at hr
 have H2:Aside (t6 w2 d v st/\N5 B ad w2/\Below w.heap.size w w2/\r.data.toList=nB (mQ x)):=⟨hD2,ee.later hb2,cu,hr⟩
 have hrs:r.size=(nB (mQ x)).length:=by rw [<-hr];simp
 have hr1:r.size<=1010:=by
  rw [hrs,nD];have:=sW HX.o;omega
 obtain ⟨c0,c1,c2,c3,cf⟩:=hD2.c;rw [aT] at c0;have e7:=(ee.later hb2).O.aa3.c7;have HRS:Aside (r.size=(nB (mQ x)).length):=hrs;clear hb1 hb2 hD1 hD2 ee cu hr c1 c2 c3 cf hrs aV aT
 obtain ⟨tot,ib⟩:∃tot:Nat,Aside (tot=st.1.length+r.size):=⟨_,rfl⟩
 have hwr:IntKind.i64.wrap ((st.1.length:Int)+(r.size:Int))=(tot:Int):=by rw [IntKind.wrap_i64,ib.o];omega
 by_cases dP:65536<st.1.length+r.size
 ·have d1:decide ((65536:Int)<(tot:Int))=true:=by have:=ib.o;simp;omega
  have dr:decide (65536<tot)=true:=vF
  have HA:Aside (eV ad cd= .iface 437 (.pointer (some (ad 7)))/\D7 d v w sx w2):=by
   have ha:pN st x=(8,st):=by
    unfold pN;rw [if_neg (fun q=>q HX.o),if_pos (by rw [<-HRS.o];exact dP)]
   rw [hcs.o] at ha
   cases ha
   exact ⟨rfl,(D7.start H2.o.1).from H2.o.2.2.1 HD.o.1⟩
  clear dP;go_wp2;go_ret;exact ⟨by rw [HA.o.1];rfl,HA.o.2⟩
 have d1:decide ((65536:Int)<(tot:Int))=false:=vF;have dr:decide (65536<tot)=false:=vF
 have HA:Aside (∀z st',pZ st (nB (mQ x))=(z,st')->(z=true->cd=0/\sx=st')/\(z=false->cd=11/\sx=st')):=fun z st' hz=>by
  have ha:pN st x=if (pZ st (nB (mQ x))).1=true then (0,(pZ st (nB (mQ x))).2) else (11,(pZ st (nB (mQ x))).2):=by
   unfold pN;rw [if_neg (fun q=>q HX.o),if_neg (by rw [<-HRS.o];exact dP)]
  rw [hcs.o,hz] at ha;refine ⟨fun q=> ?_,fun q=> ?_⟩
  ·subst q;cases ha;exact ⟨rfl,rfl⟩
  subst q;cases ha;exact ⟨rfl,rfl⟩
 go_wp2;clear c0 e7 d1 dr hwr;go_loopg [34] r.size (fun kx s34 W=>∃(k:Nat) (sk:DSt),s34= .int .i64 (k:Int)/\k<=r.size/\r.size - k<=kx/\Aside (D7 d v w2 sk W/\pZ st (nB (mQ x))=pZ sk ((nB (mQ x)).drop k)/\sk.1.length<=st.1.length+k))
 case atStart=>exact ⟨0,st,rfl,uW _,uL _,D7.start H2.o.1,rfl,uL _⟩
 case round=>
  obtain ⟨k,sk,rfl,hk,aY,A⟩:=hrel;by_cases hlt:k<r.size
  ·have d2:decide ((k:Int)<(r.size:Int))=true:=by simp;omega
   have d2n:decide (k<r.size)=true:=zm;obtain ⟨vk,hDk,-,-⟩:=A.o.1.I8 H2.o.2.1.size HD.o.2.2.2.2.1;obtain ⟨Bk,ofk,wtk,lfk⟩:=sk
   obtain ⟨ch,lg⟩:∃ch:UInt8,Aside (ch=r[k]):=⟨r[k],rfl⟩
   obtain ⟨z,sn,jt⟩:∃z sn,Aside (wr1 (Bk,ofk,wtk,lfk) ch=(z,sn)):=⟨_,_,rfl⟩
   have hwb:Calls prog 162 #[.pointer (some ⟨d,0,none⟩),.int .u8 (r[k].toNat:Int)] wr fun e w'=>e= .returned (.bool z)/\Aside (D7 d v w2 sn w'):=by
    obtain ⟨vk,hDk,h2,h3⟩:=A.o.1;refine (Kj wr r[k] hDk (by have:=A.o.2.2;show Bk.length<1000000;dsimp only at this;omega)).mono ?_;rintro e w' ⟨he,H⟩;rw [<-lg.o,jt.o] at he H;refine ⟨he,D7.next ⟨vk,hDk,h2,h3⟩ (fun v'' hv''=> ?_)⟩
    have:v''=vk:=by
     have e1:=hDk.cell;rw [hv''.cell] at e1;simpa using e1
    rw [this];exact H.o
   have hdr:(nB (mQ x)).drop k=ch::(nB (mQ x)).drop (k+1):=by
    have:=pF r k hlt;rw [H2.o.2.2.2] at this;rw [lg.o];exact this
   have HW:Aside (pZ st (nB (mQ x))=if z=true then pZ sn ((nB (mQ x)).drop (k+1)) else (false,sn)):=by
    show _=_
    rw [A.o.2.1,hdr,pZ,jt.o]
   have HL:Aside (sn.1.length<=st.1.length+(k+1)):=by
    have:=zaB (Bk,ofk,wtk,lfk) ch;rw [jt.o] at this;have h3:=A.o.2.2
    show sn.1.length<=_
    dsimp only at this h3;omega
   clear hDk hdr;go_wp2_with fail;refine hwb.mono ?_;clear hwb;rintro e w3 ⟨rfl,H3⟩
   cases z with
   | true=>
    have HR:Aside (D7 d v w2 sn w3/\pZ st (nB (mQ x))=pZ sn ((nB (mQ x)).drop (k+1))/\sn.1.length<=st.1.length+(k+1)):=⟨H3.o,HW.o,HL.o⟩
    clear A HW HL H3;go_wp2;go_roundg (r.size - (k+1))
    case measure=>omega
    case rel=>exact ⟨k+1,sn,zN,zj,uL _,HR.o⟩
   | false=>
    have hc:=(HA.o false sn HW.o).2 rfl;have e10:=(H2.o.2.1.mono (H3.o.m8 H2.o.2.1.size HD.o.2.2.2.2.1)).O.aa3.c10
    have HF:Aside (eV ad cd= .iface 437 (.pointer (some (ad 10)))/\D7 d v w sx w3):=by
     refine ⟨by rw [hc.1];rfl,?_⟩;rw [hc.2]
     exact D7.from H2.o.2.2.1 HD.o.1 H3.o
    clear A HW HL H3 hc;go_wp2;go_ret;exact ⟨by rw [HF.o.1];rfl,HF.o.2⟩
  have d2:decide ((k:Int)<(r.size:Int))=false:=zm;have d2n:decide (k<r.size)=false:=zm
  have HF:Aside (eV ad cd= .nilIface/\D7 d v w sx wr):=by
   have hd:(nB (mQ x)).drop k= []:=by
    rw [List.drop_eq_nil_iff,<-HRS.o];omega
   have hw:=A.o.2.1;rw [hd] at hw;have hc:=(HA.o true sk hw).1 rfl;refine ⟨by rw [hc.1];rfl,?_⟩;rw [hc.2]
   exact D7.from H2.o.2.2.1 HD.o.1 A.o.1
  clear A;go_wp2;go_ret;exact ⟨by rw [HF.o.1];rfl,HF.o.2⟩
end
section
open ChangeShapes WideShapes ChangeAt RowKit Joins
def Pd:List Int:=[0,1,56,2,57,49,28,3,61,58,42,50,38,29,17,4,62,47,59,36,45,43,51,22,53,39,33,30,24,18,12,5,63,55,48,27,60,41,37,16,46,35,44,21,52,32,23,11,54,26,40,15,34,20,31,10,25,14,19,9,13,8,7,6]
theorem gDeb:prog.globalNamed "math/bits.deBruijn64tab" =some 18:=zk
theorem tDeb:(prog.globals[18]?).map (·.type)=some 406:=zk
theorem UB:prog.cellsOf 406=64:=zk
theorem Xq:prog.cellsOf 5=1:=zk
theorem XW{W}(h:Lib.VarReads prog W "math/bits.deBruijn64tab" (Lib.tabData .u8 Pd)):Lib.TabIs prog W "math/bits.deBruijn64tab" .u8 Pd:=by
 obtain ⟨g,t,cs,fuel,p,hg,ht,dW,hd⟩:=h;obtain rfl:=Option.some.inj (gDeb.symm.trans hg);obtain rfl:=Option.some.inj (tDeb.symm.trans ht);unfold Lib.TabIs;rw [dW,<-Lib.cells_of_tab underlying406 underlying5 Xq UB hd]
theorem zck{W}(h:Lib.VarReads prog W "math/bits.deBruijn64tab" Rows.laid_math_bits_deBruijn64tab):DeB W:=by
 have h':Lib.VarReads prog W "math/bits.deBruijn64tab" (Lib.tabData .u8 Pd):=h;have ht:=XW h';unfold Lib.TabIs at ht;exact (YR gDeb ht 15).trans (show _=some (Value.int .u8 4) by kernel_rfl)
theorem aaC.later{ad}{w w'}(h:aaC ad w)(hb:qL w w'):aaC ad w':=by
 obtain ⟨m,hm⟩:=h.mx;exact ⟨h.txt.later hb,⟨lU hb h.aa3.c1,lU hb h.aa3.c2,lU hb h.aa3.c7,lU hb h.aa3.c10⟩,h.deb.later hb,lU hb h.et,m,lU hb hm⟩
theorem WB{ad}{w}(h:aaC ad w):N5 w.heap.size ad w:=⟨uL _,fun _ hb=>h.later hb⟩

end