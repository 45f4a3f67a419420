import Derived.Test.YtjclejjkganhfaaGreatDoorSA02
import Derived.Test.YtjclejjkganhfaaGreatDoorSA03
import Derived.Test.YtjclejjkganhfaaGreatDoorSA04
import Derived.Shelf.SlSortCmp.WholeK
import Derived.Shelf.SlSortCmp.NoneTotal
import Derived.Laws.BitsAllLaws
import Derived.Laws.Cover1
import Derived.Deep.CutRange
import Derived.Deep.DeepCutAuto
import Derived.Lib.AppendZeros
set_option linter.unusedSimpArgs false
set_option linter.unusedVariables false
set_option maxRecDepth 100000
set_option maxHeartbeats 64000000
namespace Go.Proofs.YtjclejjkganhfaaGreatDoor
open Go.Proofs.Tryz
variable {v:Nat}
section
open Shelf RowKit Lib Go.Sort
def zdp(a b:Int):Int:=if a<b then -1 else if b<a then 1 else 0
theorem OL(a)(w):qC 242 #[qI a] w fun e w'=>e= .returned (.bool false)/\w'=w:=by
 go_enter func242,ntmps242;exact ka7
theorem JJ(a b)(w):qC 178 #[qI a,qI b] w fun e w'=>e= .returned (qI (zdp a b))/\w'=w:=by
 unfold zdp;by_cases h1:a<b
 ·have d1:=decide_eq_true h1;rw [if_pos h1];exact ke3
 have d1:=decide_eq_false h1;rw [if_neg h1];by_cases h2:b<a
 ·have d2:=decide_eq_true h2;rw [if_pos h2];exact ke3
 have d2:=decide_eq_false h2;rw [if_neg h2];exact ke3
def zaC(x y:Plc):Int:=zdp x.1 y.1
theorem AZ(x y):ltOf zaC x y=decide (x.1<y.1):=by
 unfold ltOf zaC zdp
 grind
theorem Uf:SWO (ltOf zaC) where
 irrefl x:=by rw [AZ];simp
 trans x y z h1 h2:=by rw [AZ] at*;simp at*;omega
 ntrans x y z h1 h2:=by rw [AZ] at*;simp at*;omega
theorem Vc(x y)(w):qC 177 (#[.agg (mW x).toArray,.agg (mW y).toArray]++ #[]) w fun e w'=>e= .returned (qI (zaC x y))/\∃q os',w'=grow (w.drewN q) os':=by
 have hc:∀w',qC 178 #[qI x.1,qI y.1] w' fun e w''=>e= .returned (qI (zaC x y))/\w''=w':=fun w'=>JJ _ _ _
 unfold mW;go_enter func177,ntmps177;go_wp2_with (go_at_call 178;refine (hc _).mono ?_;rintro e w' ⟨rfl,rfl⟩);exact ki7
theorem Pn(blk off size)(w):CmpLays prog 177 #[] mW 3 zaC blk off size w:=fun _ _ _ _ x y=>Vc x y _
theorem zaG:∀args w,(callFunc 177 args).run prog w= .ok (.enter 177 args) w:=enters_of func177 zk rfl
theorem mG(x):(mW x).length=3:=rfl
theorem sF(x):∀v∈mW x,v.oneCell'=true:=by
 intro v hv;simp only [mW,uZ,ZS,or_false] at hv
 rcases hv with rfl | rfl | rfl<;>rfl
theorem sO(w)(g n)(d)(os):m7 (fun k=>k=g) w (sortWorldK mW 3 w g 0 n d os):=by
 refine ⟨rfl,rfl,rfl,?_,fun k hk hs=> ?_⟩
 ·exact kl4
 exact kh1
theorem zcz{w}{l9 g cap n}{ps}(h:w.ownsRow l9 212 3 (qG g n cap) n (mN mW ps))(hn:n=ps.length):HoldsK mW 3 w g 0 ps.toArray:=fun j hj=>by
 rw [size_flatK] at hj;simp only [Zn] at hj;have h1:j / 3<ps.length:=zj;have h2:j / 3*3+j % 3=j:=zj;refine ⟨?_,yT⟩;rw [Ze,h.cellAt j zj,get_flatK _ _ _ _ yD];have:=me (enc:=mW) mG (L:=ps) (i:=j / 3) (c:=j % 3) (x:=ps[j / 3]) (uL h1) zj
 grind [uL,mG]
theorem Jy{w}{g}{d}(h:HoldsK mW 3 w g 0 d)(j)(u)(hj:(mN mW d.toList)[j]? =some u):w.cell? (qA g j)=some u:=by
 have hl:=(uK.1 hj).1;rw [mv mG,ZP] at hl;have h1:j / 3<d.size:=zj;have h2:j / 3*3+j % 3=j:=zj;have H:=(h j xc).1;rw [Ze,get_flatK _ _ _ _ zj] at H;have:=me (enc:=mW) mG (L:=d.toList) (i:=j / 3) (c:=j % 3) (x:=d[j / 3]) (by rw [Qe,Yf h1]) zj
 grind
theorem zdk(w)(l9 g cap)(ps)(hown:w.ownsRow l9 212 3 (qG g ps.length cap) ps.length (mN mW ps))(hl:ps.length<=200000):
  qC 191 #[qG g ps.length cap,.func (.func 177) #[] #[]] w fun e w'=>e=qT #[]/\∃qs:List Plc,qs.Perm ps/\qs.Pairwise (fun a b=>¬b.1<a.1)/\(∀j u,(mN mW qs)[j]? =some u->w'.cell? (qA g j)=some u)/\m7 (fun k=>k=g) w w':=by
 have hH:=zcz hown rfl;have hblk:=(hown.lt g rfl).2;have h:=AnyQ.slices_SortFunc FX 3 isAgg212 sizeOf212 mW mG sF zaC Uf 177 #[] g 0 cap ps.toArray w zaG (Pn g 0 ps.toArray.size w) hH hblk zl;refine Calls.mono h ?_;rintro e w' ⟨rfl,d',n,os,hp,hs,rfl⟩;simp only [Zn] at hp hs;have hsz:d'.size=ps.length:=qv
 have hperm:d'.toList.Perm ps:=by
  exact kb3
 refine ⟨rfl,d'.toList,hperm,?_,?_,sO w g n d' os⟩
 ·rw [ZJ];intro i j hi hj ay;have hi':i<d'.size:=xM;have hj':j<d'.size:=yD;have:=hs i j (uW _) ay zj;rw [AZ,getElem!_pos d' i hi',getElem!_pos d' j hj'] at this;exact ko1
 exact kl8
theorem Cj(p)(cap)(fv)(w):qC 191 #[.slice p 0 cap,fv] w fun e w'=>e=qT #[]/\w'=w:=
 AnyF.slices_SortFunc_none FX p cap fv w
end
section
open RowKit Maps
structure E9 (w:qW) (bc bm n:Nat) (f:ER):Prop where
 cell:w.heap[bc]? =some (.cells #[.map (some bm)] 191 (0,0))
 map:L9 w bm n f
theorem E9.c0{w}{bc bm n}{f}(h:E9 w bc bm n f):w.cell? (qB bc)=some (.map (some bm)):=by simp [World.cell?,h.cell]
theorem E9.lt{w}{bc bm n}{f}(h:E9 w bc bm n f):bc<w.heap.size/\bm<w.heap.size:=⟨(uN.1 h.cell).1,h.map.lt⟩
theorem E9.ne{w}{bc bm n}{f}(h:E9 w bc bm n f):bc≠bm:=fun e=>by
 obtain ⟨⟨D,⟨es,aM,hb,_⟩,_⟩,_⟩:=h.map;have:=h.cell
 simp_all
theorem E9.same{w w'}{bc bm n}{f}(h:E9 w bc bm n f)(h1:w'.heap[bc]? =w.heap[bc]?)(h2:w'.heap[bm]? =w.heap[bm]?):E9 w' bc bm n f:=⟨h1.trans h.cell,h.map.same h2⟩
theorem E9.later{w w'}{bc bm n}{f}(h:E9 w bc bm n f)(hb:qL w w'):E9 w' bc bm n f:=h.same (hb.block _ h.lt.1) (hb.block _ h.lt.2)
theorem E9.mono{w}{bc bm n n'}{f}(h:E9 w bc bm n f)(hn:n<=n'):E9 w bc bm n' f:=⟨h.cell,h.map.mono hn⟩
theorem UA(w):qC 79 #[] w fun e w'=>e= .returned (qP (w.heap.size+1))/\w'=(w.alloc (.map #[] 0)).alloc (.cells #[.map (some w.heap.size)] 191):=by
 have ff:= @run_makeMap prog;go_enter func79,ntmps79;exact ka7
theorem Xw(w)(bc bm)(h:w.cell? (qB bc)=some (.map (some bm))):qC 183 #[qP bc] w fun e w'=>e= .returned (.map (some bm))/\w'=w:=by
 go_enter func183,ntmps183;exact ka7
theorem CK(a b):pY a.1 a.2 b.1 b.2=decide (CLt a b):=by
 unfold pY CLt
 grind
def Dq(w:qW)(bc bm n:Nat)(f:ER)(m:DB×pl)(w':qW):Prop:=E9 w' bc bm (n+1) (Ft f m)/\m7 (fun j=>j=bm) w w'
theorem XA(w)(bc bm n)(f)(a)(s c)(t b)(h:E9 w bc bm n f)(hn:n<=1000000)(hk:WfK (a,s)):
  qC 282 #[qP bc,.agg #[qI a,.string s],.agg #[.string c,qI t,qI b]] w fun e w'=>e= .returned (.bool (tz f (a,s) (c,(t,b))))/\Dq w bc bm n f ((a,s),(c,(t,b))) w':=by
 obtain ⟨S,hS⟩:=za w.heap.size;obtain ⟨U,hU⟩:=za ((w.alloc (.cells #[qI a,.string s] 274)).alloc (.cells #[.string c,qI t,qI b] 276))
 have hKU:m7 (fun _=>False) w U:=by rw [hU];exact ((m7.refl _ w).alloc _).alloc _
 have hsU:U.heap.size=S+2:=by rw [hU,hS];simp
 have cw:U.heap[S+1]? =some (.cells #[.string c,qI t,qI b] 276 (0,0)):=by
  have:=heap_alloc_new (w.alloc (.cells #[qI a,.string s] 274)) (.cells #[.string c,qI t,qI b] 276);exact km0
 have b9:U.heap[S]? =some (.cells #[qI a,.string s] 274 (0,0)):=by
  exact kf5
 have hA:=h.same (hKU.block _ h.lt.1 (fun e=>e)) (hKU.block _ h.lt.2 (fun e=>e));obtain ⟨Z,hZ⟩:=za (U.alloc (.cells #[.string ⟨#[]⟩,qI 0,qI 0] 276))
 have hbZ:qL U Z:=by rw [hZ];exact zh U _
 have hAZ:=hA.later hbZ;have c0:=hA.c0;have c1:=hAZ.c0;have l0:=(hA.later (uO _ U).drew).map.A hk;have l1:=(hAZ.later (uO _ Z).drew).map.A hk
 have k0:U.cell? (qB S)=some (qI a):=by simp [World.cell?,b9]
 have k1:U.cell? (qA S 1)=some (.string s):=by simp [World.cell?,b9]
 have j0:=(hbZ.cell (p:=(qB S)) yj).trans k0;have j1:=(hbZ.cell (p:=(qA S 1)) yj).trans k1;unfold Fs at l0 l1
 cases hf:f (a,s) with
 | none=>
  have hg:tz f (a,s) (c,(t,b))=true:=by unfold tz;rw [hf]
  rw [hg];rw [hf] at l0 l1;simp only [Option.getD_none,YB] at l0 l1;unfold Jw Lv at l0 l1;dsimp only at l0 l1
  have HA:Aside (E9 U bc bm n f/\m7 (fun _=>False) w U/\U.heap.size=S+2/\U.heap[S]? =some (.cells #[qI a,.string s] 274 (0,0))/\U.heap[S+1]? =some (.cells #[.string c,qI t,qI b] 276 (0,0))):=⟨hA,hKU,hsU,b9,cw⟩
  subst hZ;go_enter func282,ntmps282;go_wp2_with fail;rw [<-hU,<-hS];have HS:Aside (S=w.heap.size):=hS;clear hU hS;have lE:=HA.o.2.2.2.2;have ai:=(uO U.heap.size U).alloc zg (.cells #[.string ⟨#[]⟩,qI 0,qI 0] 276);have m0:(U.alloc (.cells #[.string ⟨#[]⟩,qI 0,qI 0] 276)).cell? (qB (S+1))=some (.string c):=(ai.cell (p:=(qB (S+1))) yj).trans vu;have m1:(U.alloc (.cells #[.string ⟨#[]⟩,qI 0,qI 0] 276)).cell? (qA (S+1) 1)=some (qI t):=(ai.cell (p:=(qA (S+1) 1)) yj).trans vu;have m2:(U.alloc (.cells #[.string ⟨#[]⟩,qI 0,qI 0] 276)).cell? (qA (S+1) 2)=some (qI b):=(ai.cell (p:=(qA (S+1) 2)) yj).trans vu;obtain ⟨w2,ae,gC,hT2⟩:=((HA.o.1.later ai).later (uO _ _).drew |>.later (uO _ _).drew).map.store zB hk (c,(t,b))
  have HP:Aside (Dq w bc bm n f ((a,s),(c,(t,b))) w2):=by
   have hKV:=lS hT2.grown;have hne:=HA.o.1.ne;have hlt:=HA.o.1.lt;refine ⟨⟨?_,?_⟩,?_⟩
   ·rw [hKV.block bc (by simp [World.drew];omega) (fun e=>hne yG)];exact (ai.block bc hlt.1).trans HA.o.1.cell
   ·have:Ft f ((a,s),(c,(t,b)))=fun x=>if x=(a,s) then some (c,(t,b)) else f x:=Fl (by unfold tz;rw [hf])
    rw [this];exact gC
   exact ((HA.o.2.1.mono (fun _ _ e=>e.elim)).then (((lW ai).drew).drew) (fun i hi e=>by have:=HA.o.2.1.size;omega)).then hKV (fun i hi e=>yG)
  unfold Fs Jw at ae;dsimp only at ae;go_region
  all_goals
   go_wp2_with fail;go_region
  all_goals
   go_wp2;go_ret;exact ⟨rfl,HP.o⟩
 | some o=>
  obtain ⟨vo,tO,bo⟩:=o;rw [hf] at l0 l1;simp only [YS,YC] at l0 l1;unfold Jw at l0 l1;dsimp only at l0 l1;obtain ⟨V,hV⟩:=za ((U.alloc (.cells #[.string vo,qI tO,qI bo] 276)).drew)
  have ai:qL U V:=by rw [hV];exact ((uO U.heap.size U).alloc zg _).drew
  have gk:=(ai.block _ zj).trans cw;have hv0:=(ai.block _ zj).trans b9
  have dh:V.heap[S+2]? =some (.cells #[.string vo,qI tO,qI bo] 276 (0,0)):=by
   rw [hV,<-hsU];exact heap_alloc_new U _
  have hKV:=(hKU.then (lW ai) (fun i hi e=>zj))
  have hAV:=hA.later ai
  have hsV:V.heap.size=S+3:=by rw [hV];show (U.alloc _).heap.size=_;rw [Zv,hsU]
  have hg:tz f (a,s) (c,(t,b))=pY tO bo t b:=by unfold tz;rw [hf];exact (CK (tO,bo) (t,b)).symm
  rw [hg]
  have HA:Aside (E9 V bc bm n f/\m7 (fun _=>False) w V/\V.heap.size=S+3/\V.heap[S]? =some (.cells #[qI a,.string s] 274 (0,0))/\V.heap[S+1]? =some (.cells #[.string c,qI t,qI b] 276 (0,0))/\V.heap[S+2]? =some (.cells #[.string vo,qI tO,qI bo] 276 (0,0))/\tz f (a,s) (c,(t,b))=pY tO bo t b):=⟨hAV,hKV,hsV,hv0,gk,dh,hg⟩
  have x1:V.cell? (qA (S+1) 1)=some (qI t):=by simp [World.cell?,gk]
  have x2:V.cell? (qA (S+1) 2)=some (qI b):=by simp [World.cell?,gk]
  have y1:V.cell? (qA (S+2) 1)=some (qI tO):=yU;have y2:V.cell? (qA (S+2) 2)=some (qI bo):=yU;subst hZ;go_enter func282,ntmps282;go_wp2_with fail;rw [<-hU,<-hS];have HS:Aside (S=w.heap.size):=hS;clear hU hS;go_region
  all_goals
   rw [<-hV];clear l0 l1 c0 c1 k0 k1 j0 j1 hV;go_wp2_with fail;refine (Ec tO bo t b _).mono ?_;rintro e w3 ⟨rfl,hb3⟩;have hA3:=HA.o.1.later hb3
   have hK3:=HA.o.2.1.then (lW hb3) (fun i hi e=>by have:=HA.o.2.1.size;omega)
   cases hl:pY tO bo t b with
   | false=>
    have HP:Aside (Dq w bc bm n f ((a,s),(c,(t,b))) w3):=by
     have:Ft f ((a,s),(c,(t,b)))=f:=NB (HA.o.2.2.2.2.2.2.trans hl);exact ⟨by rw [this];exact hA3.mono (Nat.le_succ n),hK3.mono (fun _ _ e=>e.elim)⟩
    go_wp2;go_ret;exact ⟨by rw [hl];rfl,HP.o⟩
   | true=>
    obtain ⟨w2,ae,gC,hT2⟩:=(hA3.later (uO _ _).drew).map.store zB hk (c,(t,b))
    have HP:Aside (Dq w bc bm n f ((a,s),(c,(t,b))) w2):=by
     have hKV:=lS hT2.grown;refine ⟨⟨?_,?_⟩,?_⟩
     ·rw [hKV.block bc hA3.lt.1 (fun e=>hA3.ne yG)];exact hA3.cell
     ·have:Ft f ((a,s),(c,(t,b)))=fun x=>if x=(a,s) then some (c,(t,b)) else f x:=Fl (HA.o.2.2.2.2.2.2.trans hl)
      rw [this];exact gC
     exact ((hK3.mono (fun _ _ e=>e.elim)).drew).then hKV (fun i hi e=>yG)
    have c3:=hA3.c0;have gZ:=HA.o.2.2.1;have k0:w3.cell? (qB S)=some (qI a):=(hb3.cell (p:=(qB S)) yj).trans (by simp [World.cell?,HA.o.2.2.2.1]);have k1:w3.cell? (qA S 1)=some (.string s):=(hb3.cell (p:=(qA S 1)) yj).trans (by simp [World.cell?,HA.o.2.2.2.1]);have m0:w3.cell? (qB (S+1))=some (.string c):=(hb3.cell (p:=(qB (S+1))) yj).trans (by simp [World.cell?,HA.o.2.2.2.2.1]);have m1:w3.cell? (qA (S+1) 1)=some (qI t):=(hb3.cell (p:=(qA (S+1) 1)) yj).trans zj;have m2:w3.cell? (qA (S+1) 2)=some (qI b):=(hb3.cell (p:=(qA (S+1) 2)) yj).trans zj;unfold Fs Jw at ae;dsimp only at ae;go_wp2_with fail;go_region
    all_goals
     go_wp2;go_ret;exact ⟨by rw [hl];rfl,HP.o⟩
end
section
def wR(x:OpX):Nat:=opE x.1 x.2.1 x.2.2.1 x.2.2.2.1 x.2.2.2.2.1 x.2.2.2.2.2.1 x.2.2.2.2.2.2.1.data.toList x.2.2.2.2.2.2.2.data.toList
def We(c:Nat):Nat:=if c % 2=1 then (c / 2)^^^3988292384 else c / 2
def Jq:Nat->Nat->Nat
 | 0,c=>c
 | n+1,c=>Jq n (We c)
theorem Bc:∀(n c:Nat),Jq (n+1) c=We (Jq n c)
 | 0,c=>rfl
 | n+1,c=>by
  show Jq (n+1) (We c)=_
  rw [Bc n (We c)];rfl
def zam(c:Nat):qU->Nat
 | []=>c
 | b::l=>zam (Jq 8 (c^^^b.toNat)) l
def Hj(l:qU):Nat:=4294967295 - zam 4294967295 l
theorem zbG{c}(h:c<4294967296):We c<4294967296:=by
 unfold We;split
 ·exact Nat.xor_lt_two_pow (n:=32) zj zj
 omega
theorem Jg:∀(n:Nat) {c:Nat},c<4294967296->Jq n c<4294967296
 | 0,_,h=>h
 | n+1,_,h=>Jg n (zbG h)
theorem TD{c}(h:c<4294967296)(b:UInt8):c^^^b.toNat<4294967296:=Nat.xor_lt_two_pow (n:=32) zj (by have:=b.toNat_lt;omega)
theorem Gy:∀(l:qU) (c:Nat) (b:UInt8),zam c (l++ [b])=Jq 8 (zam c l^^^b.toNat)
 | [],c,b=>rfl
 | a::l,c,b=>Gy l _ b
theorem Ut(l):Hj l<4294967296:=by unfold Hj;omega
theorem zao{v}(h:v<4294967296):4294967295^^^v=4294967295 - v:=by
 have h1:(BitVec.allOnes 32^^^BitVec.ofNat 32 v).toNat=(~~~ BitVec.ofNat 32 v).toNat:=by rw [BitVec.allOnes_xor]
 grind
def AC:Nat->Nat->qU
 | 0,_=>[]
 | n+1,v=>AC n (v / 16)++ [AU (v % 16)]
theorem Bq:∀n v,(AC n v).length=n
 | 0,_=>rfl
 | n+1,v=>by simp [AC,Bq n]
theorem Gq:∀n,AC n 0=List.replicate n 48
 | 0=>rfl
 | n+1=>by
  rw [List.replicate_succ']
  show AC n (0 / 16)++ [AU (0 % 16)]=_
  rw [show 0 / 16=0 from rfl,Gq n];rfl
theorem LU:∀(m k v:Nat),v<16^k->AC (m+k) v=List.replicate m 48++AC k v
 | m,0,v,h=>by
  simp_all [ZG,Gq,AC]
 | m,k+1,v,h=>by
  show AC (m+k) (v / 16)++ [AU (v % 16)]=List.replicate m 48++(AC k (v / 16)++ [AU (v % 16)])
  rw [LU m k (v / 16) zj,Zr]
theorem Nc:∀n:Fin 16,45<=(AU n).toNat:=qb
def nE(t:qU):qU:=t++35::(AC 8 (Hj t)++ [10])
theorem nG(t):(nE t).length=t.length+10:=by
 unfold nE;simp [Bq]
def mO(x:OpX):qU:=ou x.1 x.2.1 x.2.2.1 x.2.2.2.1 x.2.2.2.2.1 x.2.2.2.2.2.1 x.2.2.2.2.2.2.1.data.toList x.2.2.2.2.2.2.2.data.toList
def AW(l:qU):Option OpX:=match nQ l with
 | none=>none
 | some (c,n1,n2,n3,n4,n5,nm,v)=>if opE n1 n2 n3 c.toNat n4 n5 nm v=0 then some ((n1:Int),(n2:Int),(n3:Int),c.toNat,(n4:Int),(n5:Int),⟨nm.toArray⟩,⟨v.toArray⟩) else none
theorem MA{x}(h:wR x=0):AW (mO x)=some x:=by
 obtain ⟨t,b,n,k,nd,o,s,v⟩:=x;have h':opE t b n k nd o s.data.toList v.data.toList=0:=h;have hp:=Lw h';obtain ⟨h1,h2,h3,h4,h5,h6,hk,h7,h8,h9,kU,-⟩:=mP h';have e1:((t.toNat:Nat):Int)=t:=zj;have e2:((b.toNat:Nat):Int)=b:=zj;have e3:((n.toNat:Nat):Int)=n:=zj;have e4:((nd.toNat:Nat):Int)=nd:=zj;have e5:((o.toNat:Nat):Int)=o:=zj
 have ek:(UInt8.ofNat k).toNat=k:=by rcases hk with rfl | rfl | rfl | rfl<;>rfl
 unfold AW mO;dsimp only;rw [hp];dsimp only;rw [e1,e2,e3,e4,e5,ek,if_pos h']
theorem NZ{l}{x}(h:AW l=some x):mO x=l/\wR x=0:=by
 unfold AW at h;split at h
 ·cases h
 rename_i c n1 n2 n3 n4 n5 nm v hp;split at h
 ·rename_i he
  cases h
  exact ⟨EL hp,he⟩
 cases h
theorem Uj{t b n}{k}{l8 other}{name value}(h:opE t b n k l8 other name value=0):name= []\/mr name=true:=by
 by_cases hn:mr name=true
 ·exact .inr hn
 by_cases he:name= []
 ·exact .inl he
 exfalso;have hn':mr name=false:=vp;have h4:(if mr name=false then 4 else if value≠ [] then 3 else 0)=4:=if_pos hn';unfold opE AG nC Du FO En at h
 grind
theorem zae{t b n}{k}{l8 other}{name value}(h:opE t b n k l8 other name value=0):∀c∈name,45<=c.toNat:=fun c hc=>by
 rcases Uj h with rfl | hn
 ·simp at hc
 unfold mr at hn;simp only [Yk,decide_eq_true_eq] at hn;have:=List.all_eq_true.1 hn.2 _ hc;unfold oU at this
 grind
theorem zbq(a)(h0:0<=a):∀c∈Lib.itoa a,45<=c.toNat:=fun c hc=>by
 rw [Lib.itoa,if_neg zj] at hc;have:=Hb _ _ hc;omega
theorem PQ:∀(l:qU),∀c∈Co l,45<=c.toNat
 | [],c,h=>by simp [Co] at h
 | a::r,c,h=>by
  have ha:=a.toNat_lt;simp only [Co,uZ] at h
  rcases h with rfl | rfl | h
  ·exact Nc ⟨a.toNat / 16,zj⟩
  ·exact Nc ⟨a.toNat % 16,zj⟩
  exact PQ r c h
theorem Kw:∀(x:List qU),(∀l∈x,∀c∈l,45<=c.toNat)->∀c∈pA 124 x,45<=c.toNat
 | [],_,c,h=>by simp [pA] at h
 | [a],hx,c,h=>by
  grind [pA]
 | a::b::r,hx,c,h=>by
  simp only [pA] at h
  rcases uU.1 h with q | q
  ·simp_all
  rcases uZ.1 q with rfl | q
  ·decide
  exact Kw (b::r) (fun l hl=>hx l (Za _ hl)) c q
theorem Ib{x}(h:wR x=0):∀c∈mO x,45<=c.toNat:=by
 obtain ⟨t,b,n,k,nd,o,s,v⟩:=x;have h':opE t b n k nd o s.data.toList v.data.toList=0:=h;obtain ⟨h1,h2,h3,h4,h5,h6,hk,h7,h8,h9,kU,-⟩:=mP h';unfold mO ou;dsimp only;refine Kw _ (fun l hl=> ?_);simp only [uZ,ZS,or_false] at hl
 rcases hl with rfl | rfl | rfl | rfl | rfl | rfl | rfl | rfl
 ·intro c hc;rw [Zc.1 hc]
  rcases hk with rfl | rfl | rfl | rfl<;>decide
 ·exact ko5
 ·exact ko5
 ·exact ko5
 ·exact ko5
 ·exact ko5
 ·exact zae h'
 exact PQ _
theorem rb{x}(h:wR x=0):(mO x).length<=1000:=by
 exact kc0
def ahead:qU->qU
 | []=>[]
 | c::l=>if c=35 then [] else c::ahead l
theorem AE:∀ {t:qU} (r:qU),(∀c∈t,45<=c.toNat)->ahead (t++35::r)=t
 | [],r,_=>rfl
 | c::t,r,h=>by
  have hc:c≠35:=fun e=>zM
  show (if c=35 then [] else c::ahead (t++35::r))=c::t
  rw [if_neg hc,AE r (fun d hd=>h d (by simp [hd]))]
theorem Dp:∀ {l:qU},(35:UInt8)∉l->ahead l=l
 | [],_=>rfl
 | c::l,h=>by
  have hc:c≠35:=fun e=>h (by simp [e])
  show (if c=35 then [] else c::ahead l)=c::l
  rw [if_neg hc,Dp (fun q=>h (by simp [q]))]
theorem Hn:∀(l:qU),(ahead l).length<=l.length
 | []=>uM _
 | c::l=>by
  unfold ahead;split
  ·simp
  have:=Hn l;simp;omega
def nB(b:qU):Option (OpX×Nat):=match AW (ahead b) with
 | none=>none
 | some x=>if nE (ahead b)<+:b then some (x,(nE (ahead b)).length) else none
theorem Pp{x}(h:wR x=0)(r):nB (nE (mO x)++r)=some (x,(nE (mO x)).length):=by
 have ha:ahead (nE (mO x)++r)=mO x:=by
  unfold nE;rw [Zr];exact AE _ (Ib h)
 simp_all [nB,MA,if_pos]
theorem Db{b}{x}{n}(h:nB b=some (x,n)):wR x=0/\n=(nE (mO x)).length/\∃r,b=nE (mO x)++r:=by
 unfold nB at h;split at h
 ·cases h
 rename_i y hy;obtain ⟨h1,h2⟩:=NZ hy;split at h
 ·rename_i hp
  cases h
  obtain ⟨r,hr⟩:=hp
  grind
 cases h
theorem RY{x}(h:wR x=0){n}(hn:n<(nE (mO x)).length):nB ((nE (mO x)).take n)=none:=by
 unfold nB;split
 ·rfl
 rename_i y hy;rw [if_neg];rintro ⟨r,hr⟩;have hl:=congrArg List.length hr;rw [uS,Zp,nG] at hl;by_cases hq:n<=(mO x).length
 ·have e:(nE (mO x)).take n=(mO x).take n:=by
   unfold nE;rw [Yn hq]
  have h35:(35:UInt8)∉(nE (mO x)).take n:=by
   rw [e];intro q;have:=Ib h 35 (Yw q);revert this;decide
  grind [Dp,Zp]
 have ha:ahead ((nE (mO x)).take n)=mO x:=by
  obtain ⟨m,rfl⟩:∃m,n=(mO x).length+(m+1):=⟨n - (mO x).length - 1,zj⟩
  unfold nE;rw [List.take_length_add_append,List.take_succ_cons];exact AE _ (Ib h)
 grind [nG,mO]
theorem Ci:nB []=none:=by
 have:AW []=none:=zt
 grind [nB,ahead]
def CR:Nat->qU->List OpX×Nat
 | 0,_=>([],0)
 | k+1,b=>match nB b with
  | none=>([],0)
  | some (x,n)=>(x::(CR k (b.drop n)).1,n+(CR k (b.drop n)).2)
def mp(b:qU):List OpX×Nat:=CR b.length b
theorem wN{b}{x}{n}(h:nB b=some (x,n)):10<=n/\n<=b.length:=by
 obtain ⟨_,h2,r,h3⟩:=Db h
 simp_all [nG,congrArg,uS]
theorem Df:∀(k m:Nat) (b:qU),b.length<=k->b.length<=m->CR k b=CR m b
 | 0,0,b,_,_=>rfl
 | 0,m+1,b,h,_=>by
  grind [CR,Ci]
 | k+1,0,b,_,h=>by
  grind [CR,Ci]
 | k+1,m+1,b,h1,h2=>by
  cases hr:nB b with
  | none=>simp only [CR,hr]
  | some p=>
   obtain ⟨x,n⟩:=p;have:=wN hr;simp only [CR,hr];rw [Df k m (b.drop n) zN zN]
theorem AT{b}(h:nB b=none):mp b=([],0):=by
 unfold mp
 cases hb:b.length with
 | zero=>rfl
 | succ k=>simp only [CR,h]
theorem AI{b}{x}{n}(h:nB b=some (x,n)):mp b=(x::(mp (b.drop n)).1,n+(mp (b.drop n)).2):=by
 have hp:=wN h;unfold mp
 cases hb:b.length with
 | zero=>omega
 | succ k=>
  simp only [CR,h];rw [Df k (b.drop n).length (b.drop n) zN zg]
def oM:List OpX->qU
 | []=>[]
 | x::l=>nE (mO x)++oM l
theorem BW:∀(a b:qX),oM (a++b)=oM a++oM b
 | [],b=>rfl
 | x::a,b=>by
  show nE (mO x)++oM (a++b)=_
  rw [BW a b,<-Zr];rfl
theorem AK:∀(l:qX) (r:qU),(∀x∈l,wR x=0)->nB r=none->mp (oM l++r)=(l,(oM l).length)
 | [],r,_,h=>by
  show mp r=([],0)
  exact AT h
 | x::l,r,hl,h=>by
  have e:oM (x::l)++r=nE (mO x)++(oM l++r):=by
   show nE (mO x)++oM l++r=_
   rw [Zr]
  rw [e,AI (Pp (hl x zq) _),List.drop_left,AK l r (fun y hy=>hl y (by simp [hy])) h]
  grind [nE,mO,oM,uS]
theorem KO:∀(k:Nat) (b:qU),b.length<=k->∃r,b=oM (mp b).1++r/\nB r=none/\(mp b).2=(oM (mp b).1).length/\∀x∈(mp b).1,wR x=0
 | k,b,hk=>by
  cases hr:nB b with
  | none=>
   rw [AT hr];exact ⟨b,rfl,hr,rfl,fun x hx=>ya⟩
  | some p=>
   obtain ⟨x,n⟩:=p;have hp:=wN hr;obtain ⟨h1,h2,r,h3⟩:=Db hr;rw [AI hr]
   have hd:b.drop n=r:=by rw [h3,h2,List.drop_left]
   match k,hk with
   | 0,hk=>omega
   | k+1,hk=>
    obtain ⟨r',q1,q2,q3,q4⟩:=KO k (b.drop n) (by rw [ZL];omega)
    grind [nE,mO,oM,mp,Zr,uS]
end
section
open RowKit Lib Go.Sort
theorem Xj(h:v<4294967296):bits .and .u32 (v:Int) 1=((v % 2:Nat):Int):=by
 have:=u32_and_nat v 1 h zj;rwa [Nat.and_one_is_mod] at this
theorem VW(h:v<4294967296):bits .xor .u32 (v:Int) 3988292384=((v^^^3988292384:Nat):Int):=u32_xor_nat v 3988292384 h zj
theorem zbC(h:v<4294967296):bits .xor .u32 IntKind.u32.max (v:Int)=((4294967295 - v:Nat):Int):=by
 have e:IntKind.u32.max=((4294967295:Nat):Int):=zo;rw [e,u32_xor_nat _ _ zj h,zao h]
theorem NX(c:Nat)(w)(hc:c<4294967296):
  qC 340 #[.int .u32 (c:Int)] w fun e w'=>e= .returned (.int .u32 ((Jq 8 c:Nat):Int))/\w'=w:=by
 go_enter func340,ntmps340;go_wp2;go_loopg [0,4] 8 (fun kx s0 s4 wr=>∃(j v:Nat),s0= .int .u32 (v:Int)/\s4=qN j/\j<=8/\8 - j<=kx/\v<4294967296/\Aside (v=Jq j c/\wr=w))
 case atStart=>exact ⟨0,c,rfl,rfl,zj,zj,hc,rfl,rfl⟩
 case round=>
  obtain ⟨j,v,rfl,rfl,hj,hjx,hv,A⟩:=hrel;by_cases hlt:j<8
  ·have d1:qlt j 8=true:=by simp;omega
   have dg:decide (j<8)=true:=zl;have ha:=Xj hv
   obtain ⟨hf,hhf⟩:∃hf:Nat,Aside (hf=v / 2):=⟨_,rfl⟩
   have hh:(v:Int) / 2=(hf:Int):=by rw [hhf.o];omega
   by_cases hb:v % 2=1
   ·rw [hb] at ha;have hx:=VW (v:=hf) (by rw [hhf.o];omega)
    have lB:hf^^^3988292384=Jq (j+1) c:=by rw [Bc,<-A.o.1,hhf.o];unfold We;rw [if_pos hb]
    obtain ⟨v',hv'⟩:∃v':Nat,Aside (v'=hf^^^3988292384):=⟨_,rfl⟩
    rw [<-hv'.o] at hx lB
    have HV:Aside (v'=Jq (j+1) c/\wr=w/\v'<4294967296):=⟨lB,A.o.2,by rw [lB];exact Jg _ hc⟩
    clear A lB;go_wp2;go_roundg (8 - (j+1))
    case measure=>omega
    case rel=>exact ⟨j+1,v',rfl,zJ,zj,uM _,HV.o.2.2,HV.o.1,HV.o.2.1⟩
   rw [show v % 2=0 by omega] at ha
   have lB:hf=Jq (j+1) c:=by rw [Bc,<-A.o.1,hhf.o];unfold We;rw [if_neg hb]
   have HV:Aside (hf=Jq (j+1) c/\wr=w/\hf<4294967296):=⟨lB,A.o.2,zj⟩
   clear A lB;go_wp2;go_roundg (8 - (j+1))
   case measure=>omega
   case rel=>exact ⟨j+1,hf,rfl,zJ,zj,uM _,HV.o.2.2,HV.o.1,HV.o.2.1⟩
  have d1:qlt j 8=false:=zl;have dg:decide (j<8)=false:=zl
  have HV:Aside (v=Jq 8 c/\wr=w):=by
   have e8:j=8:=zj;have:=A.o;rwa [e8] at this
  clear A;go_wp2;go_ret;exact ⟨by rw [HV.o.1];rfl,HV.o.2⟩
theorem zav(s)(w)(hs:s.size<=1000000):
  qC 284 #[.string s] w fun e w'=>e= .returned (.int .u32 ((Hj s.data.toList:Nat):Int))/\w'=w:=by
 go_enter func284,ntmps284;go_wp2;go_loopg [3,7] s.size (fun kx s3 s7 wr=>∃(j v:Nat),s3= .int .u32 (v:Int)/\s7=qN j/\j<=s.size/\s.size - j<=kx/\v<4294967296/\Aside (v=zam 4294967295 (s.data.toList.take j)/\wr=w))
 case atStart=>exact ⟨0,4294967295,rfl,rfl,zj,zj,zj,rfl,rfl⟩
 case round=>
  obtain ⟨j,v,rfl,rfl,hj,hjx,hv,A⟩:=hrel;by_cases hlt:j<s.size
  ·have d1:qlt j s.size=true:=by simp;omega
   have dg:decide (j<s.size)=true:=zl
   obtain ⟨x,hx⟩:∃x:Nat,Aside (x=v^^^s[j].toNat):=⟨v^^^s[j].toNat,rfl⟩
   have hb:=s[j].toNat_lt
   have i7:IntKind.u32.wrap (s[j].toNat:Int)=(s[j].toNat:Int):=by rw [IntKind.wrap_u32'];omega
   have hxx:bits .xor .u32 (v:Int) (s[j].toNat:Int)=(x:Int):=by rw [hx.o];exact u32_xor_nat v s[j].toNat hv zj
   have hx32:x<4294967296:=by rw [hx.o];exact TD hv s[j]
   have hdv:=NX x wr hx32
   obtain ⟨v',hv'⟩:∃v':Nat,Aside (v'=Jq 8 x):=⟨_,rfl⟩
   rw [<-hv'.o] at hdv
   have HV:Aside (v'=zam 4294967295 (s.data.toList.take (j+1))/\wr=w/\v'<4294967296):=⟨by rw [<-Qs s j hlt,Gy,<-A.o.1,hv'.o,hx.o],A.o.2,by rw [hv'.o];exact Jg 8 hx32⟩
   clear A;go_wp2_with fail;refine hdv.mono ?_;clear hdv;rintro e w1 ⟨rfl,rfl⟩;go_wp2;go_roundg (s.size - (j+1))
   case measure=>omega
   case rel=>exact ⟨j+1,v',rfl,zJ,zj,uM _,HV.o.2.2,HV.o.1,HV.o.2.1⟩
  have d1:qlt j s.size=false:=zl;have dg:decide (j<s.size)=false:=zl
  have hvv:v=zam 4294967295 s.data.toList:=by
   have:=A.o.1;rwa [Zl zl] at this
  have HV:Aside (Hj s.data.toList=4294967295 - v/\wr=w):=⟨by rw [hvv];rfl,A.o.2⟩
  clear A hvv;go_wp2;go_ret;refine ⟨?_,HV.o.2⟩;rw [HV.o.1]
  show Ending.returned (Value.int .u32 _)=_
  rw [zbC hv]
theorem zer(w)(hz:w.cell? (qA 18 15)=some (.int .u8 4)):
  qC 291 #[.int .u64 16] w fun e w'=>e= .returned (qI 4)/\w'=w:=by
 have e0:IntKind.u64.wrap (-16)=18446744073709551600:=zo;have e1:bits .and .u64 16 18446744073709551600=16:=zo;have e2:IntKind.u64.wrap 4573923408821661840=4573923408821661840:=zo;go_enter func291,ntmps291;exact ka7
theorem zeC(w)(hz:w.cell? (qA 18 15)=some (.int .u8 4)):
  qC 238 #[.int .u64 16] w fun e w'=>e= .returned (qI 4)/\w'=w:=by
 have h:=zer w hz;go_enter func238,ntmps238;go_wp2_with fail;refine h.mono ?_;rintro e w1 ⟨rfl,rfl⟩;exact ka7
theorem zd4(w):qC 237 #[qI 16] w fun e w'=>e= .returned (.bool true)/\w'=w:=by
 have e1:bits .and .i64 16 15=0:=zo;go_enter func237,ntmps237;exact ka7
theorem EW:∀(k v:Nat),AC (k+1) v=AU (v / 16^k % 16)::AC k v
 | 0,v=>by simp [AC]
 | k+1,v=>by
  show AC (k+1) (v / 16)++ [AU (v % 16)]=AU (v / 16^(k+1) % 16)::(AC k (v / 16)++ [AU (v % 16)])
  rw [EW k (v / 16),Nat.div_div_eq_div_mul,Nat.pow_succ,Nat.mul_comm 16];rfl
def U4(W:qW)(b k v:Nat):Prop:=∃arr:Array Value,W.heap[b]? =some (.cells arr 324 (0,0))/\arr.size=65/\∀(j:Nat) (c:UInt8),(AC k v)[j]? =some c->arr[65 - k+j]? =some (.int .u8 (c.toNat:Int))
theorem U4.start{W}{b}(v)(h:W.heap[b]? =some (.cells zeroCells324 324 (0,0))):U4 W b 0 v:=⟨_,h,zk,fun j c hj=>by simp [AC] at hj⟩
theorem U4.cell{W}{b k v}(h:U4 W b k v){i}(hi:i<65):(∃o,W.cell? (qA b i)=some o)/\W.frozen? (qA b i)=false:=by
 obtain ⟨arr,h1,h2,_⟩:=h;refine ⟨⟨arr[i],?_⟩,by simp [World.frozen?,h1]⟩;simp [World.cell?,h1,h2,hi]
theorem U4.put{W}{b k v i}(h:U4 W b k v)(hi:i+(k+1)=65):U4 (W.setCell (qA b i) (.int .u8 ((AU (v / 16^k % 16)).toNat:Int))) b (k+1) v:=by
 obtain ⟨arr,h1,h2,h3⟩:=h;refine ⟨_,heap_setCell_same W b i _ _ _ h1,by simp [h2],fun j c hj=> ?_⟩;rw [EW] at hj
 grind
theorem zcf(x:Nat)(w)(h1:x<16):(Instr.index 9 (.string ⟨#[48,49,50,51,52,53,54,55,56,57,97,98,99,100,101,102,103,104,105,106,107,108,109,110,111,112,113,114,115,116,117,118,119,120,121,122]⟩) (.int .u64 (x:Int))).run prog w= .ok (.int .u8 ((AU x).toNat:Int)) w:=by
 rcases (show x=0\/x=1\/x=2\/x=3\/x=4\/x=5\/x=6\/x=7\/x=8\/x=9\/x=10\/x=11\/x=12\/x=13\/x=14\/x=15 by omega) with rfl | rfl | rfl | rfl | rfl | rfl | rfl | rfl | rfl | rfl | rfl | rfl | rfl | rfl | rfl | rfl
 all_goals kernel_rfl
theorem zdh{u:Nat}(h:u<4294967296):bits .and .u64 (u:Int) 15=((u % 16:Nat):Int):=by
 have:=u64_and_nat u 15 zj zj;rw [show (15:Nat)=2^4 - 1 from rfl,Nat.and_two_pow_sub_one_eq_mod] at this;exact this
theorem U4.conv{W}{b k v i}(h:U4 W b k v)(hi:i+k=65):Sem.run prog (convert 141 9 (.slice (some (qA b i)) k k)) W= .ok (.string ⟨(AC k v).toArray⟩) W:=by
 obtain ⟨arr,h1,h2,h3⟩:=h;have hl:=Bq k v
 have:=run_convert_bytes_back (P:=prog) W 141 9 5 (qA b i) k (AC k v) underlying141 underlying5 underlying9 (fun j hj=>by
  have e:=h3 j _ (uL hj)
  rw [show 65 - k+j=i+j by omega] at e
  rw [Addr.add_lit]
  simp [World.cell?,h1,e])
 simp_all
theorem zd3(v:Nat)(w)(hv:v<4294967296)(hz:w.cell? (qA 18 15)=some (.int .u8 4)):
  qC 173 #[qE,.int .u64 (v:Int),qI 16,.bool false,.bool false] w fun e w'=>∃k,(1<=k/\k<=8/\v<16^k)/\e=qT #[qE,.string ⟨(AC k v).toArray⟩]/\qL w w':=by
 obtain ⟨b,hb⟩:=ze w.heap.size;obtain ⟨U,hU⟩:=ze (w.alloc (.cells zeroCells324 324));have ah:qL w U:=yC
 have H0:Aside (U4 U b 0 v/\qL w U):=⟨U4.start v (by rw [hU.o,hb.o];exact heap_alloc_new w _),ah⟩
 have hp:=zd4 U;have ht:=zeC U (by rw [uV (a:=(qA 18 15)) (ah.block _ (uP w (qA 18 15) hz))];exact hz);clear ah hz;go_enter func173,ntmps173;go_upto_region 7 with fail;rw [<-hU.o,<-hb.o];go_wp2_with fail;refine hp.mono ?_;clear hp;rintro e w1 ⟨rfl,rfl⟩;go_wp2_with fail;refine ht.mono ?_;clear ht;rintro e w2 ⟨rfl,rfl⟩;go_wp2;go_loopg [1,13] 8 (fun kx s1 gO wr=>∃(k u i:Nat),s1= .int .u64 (u:Int)/\gO=qN i/\i+k=65/\k<=7/\8 - k<=kx/\u<4294967296/\Aside (u=v / 16^k/\U4 wr b k v/\qL w wr))
 case atStart=>exact ⟨0,v,65,rfl,rfl,rfl,zj,zj,hv,zq,H0.o⟩
 case round=>
  obtain ⟨k,u,i,rfl,rfl,hik,hk,aY,hu,A⟩:=hrel;clear H0
  obtain ⟨j,hj⟩:∃j,i=j+1:=⟨i - 1,zj⟩
  subst hj;have hw1:IntKind.i64.wrap (((j+1:Nat):Int) - 1)=(j:Int):=zw;obtain ⟨⟨o,c1⟩,c2⟩:=A.o.2.1.cell (i:=j) zj;have pj:(0:Int)<=(j:Int):=zj;have lj:(j:Int)<65:=zj;by_cases hlt:16<=u
  ·have d1:decide ((16:Int)<=(u:Int))=true:=by simp;omega
   have dg:decide (16<=u)=true:=zl;have ha:=zdh hu
   obtain ⟨r,hr⟩:∃r:Nat,Aside (r=u % 16):=⟨u % 16,rfl⟩
   rw [<-hr.o] at ha;have hx:=zcf r
   have hr16:r<16:=by rw [hr.o];omega
   have hxr:∀w:World,(Instr.index 9 (.string ⟨#[48,49,50,51,52,53,54,55,56,57,97,98,99,100,101,102,103,104,105,106,107,108,109,110,111,112,113,114,115,116,117,118,119,120,121,122]⟩) (.int .u64 (r:Int))).run prog w= .ok (.int .u8 ((AU r).toNat:Int)) w:=fun w=>hx w hr16
   obtain ⟨u',hu'⟩:∃u':Nat,Aside (u'=u / 16):=⟨u / 16,rfl⟩
   have cl:(u:Int) / 16=(u':Int):=by rw [hu'.o];omega
   obtain ⟨hd,hhd⟩:∃hd:Int,Aside (hd=((AU r).toNat:Int)):=⟨_,rfl⟩
   have HN:Aside (u'=v / 16^(k+1)/\U4 (wr.setCell (qA b j) (.int .u8 hd)) b (k+1) v/\qL w (wr.setCell (qA b j) (.int .u8 hd))/\k+1<=7/\u'<4294967296):=by
    have e1:=A.o.1
    have cV:k+1<=7:=by
     by_cases q:k=7
     ·subst q;omega
     omega
    refine ⟨?_,?_,?_,cV,by rw [hu'.o];omega⟩
    ·rw [hu'.o,e1,Nat.div_div_eq_div_mul,<-Nat.pow_succ]
    ·rw [hhd.o,hr.o,e1];exact A.o.2.1.put zj
    exact kj5
   rw [<-hhd.o] at hxr;clear A hx;go_wp2;go_roundg (8 - (k+1))
   case measure=>omega
   case rel=>exact ⟨k+1,u',j,rfl,rfl,zj,HN.o.2.2.2.1,uM _,HN.o.2.2.2.2,HN.o.1,HN.o.2.1,HN.o.2.2.1⟩
  have d1:decide ((16:Int)<=(u:Int))=false:=zl;have dg:decide (16<=u)=false:=zl;have hx:=zcf u
  have hxr:∀w:World,(Instr.index 9 (.string ⟨#[48,49,50,51,52,53,54,55,56,57,97,98,99,100,101,102,103,104,105,106,107,108,109,110,111,112,113,114,115,116,117,118,119,120,121,122]⟩) (.int .u64 (u:Int))).run prog w= .ok (.int .u8 ((AU u).toNat:Int)) w:=fun w=>hx w zj
  obtain ⟨hd,hhd⟩:∃hd:Int,Aside (hd=((AU u).toNat:Int)):=⟨_,rfl⟩
  have HN:Aside (U4 (wr.setCell (qA b j) (.int .u8 hd)) b (k+1) v/\qL w (wr.setCell (qA b j) (.int .u8 hd))/\v<16^(k+1)):=by
   have e1:=A.o.1;refine ⟨?_,?_,?_⟩
   ·have e2:u=v / 16^k % 16:=by omega
    rw [hhd.o,e2];exact A.o.2.1.put zj
   ·exact kj5
   have q:=(Nat.div_lt_iff_lt_mul (Nat.pow_pos (n:=k) (show 0<16 by omega))).1 (show v / 16^k<16 by rw [<-e1];omega);omega
  have i7:=HN.o.1.conv (i:=j) zj;rw [<-hhd.o] at hxr;have lkn:65 - j=k+1:=zj
  have gG:∀W:World,(Instr.sliceAt 324 (qP b) (some (qN j)) none none).run prog W= .ok (.slice (some (qA b j)) (k+1) (k+1)) W:=fun W=>by
   have e:prog.arrayLen 324=65:=zk;rw [run_sliceAt_array_l W 324 (qB b) zk .i64 (j:Int) zj (by rw [e];omega),e];have hj65:¬65=j:=zj;simp [go_sem,slicedAt,hj65,lkn,Addr.add];omega
  clear A hx;go_wp2;go_ret2;exact ⟨k+1,⟨zj,zj,HN.o.2.2⟩,rfl,HN.o.2.1⟩
def DeB(w:qW):Prop:=w.cell? (qA 18 15)=some (.int .u8 4)
theorem DeB.later{w w'}(h:DeB w)(hb:qL w w'):DeB w':=by
 unfold DeB at*;rw [uV (a:=(qA 18 15)) (hb.block _ (uP w (qA 18 15) h))];exact h
theorem WZ(v:Nat)(w)(hv:v<4294967296)(hz:DeB w):
  qC 339 #[.int .u64 (v:Int),qI 16] w fun e w'=>∃k,(1<=k/\k<=8/\v<16^k)/\e= .returned (.string ⟨(AC k v).toArray⟩)/\qL w w':=by
 have h:=zd3 v w hv hz;go_enter func339,ntmps339;exact kh4
theorem UR(v:Nat)(w)(hv:v<4294967296)(hz:DeB w):
  qC 283 #[.int .u64 (v:Int),qI 16] w fun e w'=>∃k,(1<=k/\k<=8/\v<16^k)/\e= .returned (.string ⟨(AC k v).toArray⟩)/\qL w w':=by
 have h:=WZ v w hv hz;go_enter func283,ntmps283;exact kh4
theorem tN:∀n,Lib.repeatL [48] n=List.replicate n 48
 | 0=>rfl
 | n+1=>by
  show [48]++Lib.repeatL [48] n=_
  rw [tN n];rfl
theorem Iv(s)(w)(hs:s.size<=1000000)(hz:DeB w):
  qC 231 #[.string s] w (qR (.string ⟨(AC 8 (Hj s.data.toList)).toArray⟩) w):=by
 have jk:=zav s w hs
 obtain ⟨v,hv⟩:∃v:Nat,Aside (v=Hj s.data.toList):=⟨_,rfl⟩
 rw [<-hv.o] at jk |-
 have hv32:v<4294967296:=by rw [hv.o];exact Ut _
 have i7:IntKind.u64.wrap (v:Int)=(v:Int):=by rw [IntKind.wrap_u64];omega
 have hf:=UR v w hv32 hz;go_enter func231,ntmps231;go_wp2_with fail;refine jk.mono ?_;rintro e w1 ⟨rfl,rfl⟩;go_wp2_with fail;refine hf.mono ?_;rintro e w2 ⟨k,hk,rfl,hb⟩
 obtain ⟨D,hD⟩:∃D:ByteArray,Aside (D=⟨(AC k v).toArray⟩):=⟨_,rfl⟩
 rw [<-hD.o];have hDs:D.size=k:=uj
 obtain ⟨m,hm⟩:∃m:Nat,m+k=8:=⟨8 - k,zj⟩
 have hw:IntKind.i64.wrap (8 - (D.size:Int))=(m:Int):=by rw [IntKind.wrap_i64,hDs];omega
 have hr:=Tryz.strings_Repeat ⟨#[48]⟩ m w2 zj (by show 1*m<=_;omega);obtain ⟨E,hE,hEs,ha⟩:=Et ⟨(Lib.repeatL [48] m).toArray⟩ D (by rw [hDs,tN];simp [ByteArray.size];omega)
 have HE:Aside (E=⟨(AC 8 v).toArray⟩):=by
  apply Ox;rw [hE,hD.o,<-hm,LU m k v hk.2.2,tN]
 have H:Aside (qL w1 w2):=hb
 obtain ⟨Z,hZ⟩:∃Z:ByteArray,Aside (Z=⟨(Lib.repeatL [48] m).toArray⟩):=⟨_,rfl⟩
 have hr2:qC 285 #[.string ⟨#[48]⟩,qN m] w2 (qR (.string Z) w2):=by rw [hZ.o];exact hr
 rw [<-hZ.o] at ha;clear hE hEs hk hDs hb hr;go_wp2_with fail;refine hr2.mono ?_;rintro e w3 ⟨rfl,hb3⟩;have H3:Aside (qL w1 w3):=zi H.o hb3;go_wp2;go_ret;exact ⟨by rw [HE.o];rfl,H3.o⟩
theorem Dw(s)(w)(hs:s.size<=1000000)(hz:DeB w):
  qC 161 #[.string s] w fun e w'=>∃r:ByteArray,r.data.toList=nE s.data.toList/\e= .returned (.string r)/\qL w w':=by
 have hst:=Iv s w hs hz
 obtain ⟨D,hD⟩:∃D:ByteArray,Aside (D=⟨(AC 8 (Hj s.data.toList)).toArray⟩):=⟨_,rfl⟩
 rw [<-hD.o] at hst;have hDs:D.size=8:=uj;obtain ⟨E1,h1,h1s,a1⟩:=Et s ⟨#[35]⟩ (by show s.size+1<=_;omega);have hE1s:E1.size=s.size+1:=h1s;obtain ⟨E2,h2,h2s,a2⟩:=Et E1 D zj;obtain ⟨E3,h3,h3s,a3⟩:=Et E2 ⟨#[10]⟩ (by show E2.size+1<=_;omega)
 have HE:Aside (E3.data.toList=nE s.data.toList):=by
  show _=_
  rw [h3,h2,h1,hD.o];unfold nE;simp
 go_enter func161,ntmps161;go_wp2_with fail;refine hst.mono ?_;rintro e w1 ⟨rfl,hb⟩;have H:Aside (qL w w1):=hb;go_wp2;go_ret;exact ⟨E3,HE.o,rfl,H.o⟩
def Q0(w:qW)(v:Value)(B:qU):Prop:=∃(g cap:Nat) (cur:Array Value) (fr:Nat×Nat),v=qG g B.length cap/\w.heap[g]? =some (.cells cur 5 fr)/\(fr=(0,0)\/cur.size<=fr.1)/\B.length<=cap/\cap<=maxLen/\cur.size=cap/\cur.toList.take B.length=nr B
theorem MN(B):(nr B).length=B.length:=by simp [nr]
theorem Q0.lt{w}{v}{B}(h:Q0 w v B){g}(hg:v.ownBlock=some g):g<w.heap.size:=by
 obtain ⟨g',cap,cur,fr,rfl,h1,_⟩:=h
 cases hg
 grind
theorem Q0.same{w w'}{v}{B}(h:Q0 w v B)(e:∀g,v.ownBlock=some g->w'.heap[g]? =w.heap[g]?):Q0 w' v B:=by
 obtain ⟨g',cap,cur,fr,rfl,h1,h2⟩:=h;exact ⟨g',cap,cur,fr,rfl,(e g' rfl).trans h1,h2⟩
theorem Q0.aag{w}{v}{B}(h:Q0 w v B):∃g cap,v=qG g B.length cap:=by
 obtain ⟨g',cap,cur,fr,rfl,_⟩:=h
 simp_all
theorem Q0.cells{w}{g cap}{B}(h:Q0 w (qG g B.length cap) B):∀j u,(nr B)[j]? =some u->w.cell? (((qB g):Addr).add j)=some u:=by
 obtain ⟨g',cap',cur,fr,e,h1,h2,h3,h4,h5,h6⟩:=h
 cases e
 intro j u hu;rw [Addr.add_lit]
 have:cur[j]? =some u:=by
  rw [<-h6,Yj] at hu;split at hu
  ·simpa using hu
  cases hu
 simp [World.cell?,h1,this]
theorem Q0.P9{w}{v}{B}(h:Q0 w v B):Sem.run prog (convert 141 9 v) w= .ok (.string ⟨B.toArray⟩) w:=by
 obtain ⟨g,cap,rfl⟩:=h.aag;have hc:=h.cells
 grind [run_convert_bytes_back,underlying141,underlying5,underlying9,nr,uL]
theorem VD(w)(s)(hs:s.size<=1000000):∃v w',Sem.run prog (convert 9 141 (.string s)) w= .ok v w'/\Q0 w' v s.data.toList/\qL w w'/\∀g,v.ownBlock=some g->w.heap.size<=g:=by
 have hge:=grownCap_ge w s.size 0 5;have hle:=grownCap_le_maxLen w s.size 0 5 zB;obtain ⟨cap,hcap⟩:=za (grownCap w s.size 0 5);rw [<-hcap] at hge hle;refine ⟨_,_,run_bytes_of_string w 9 141 5 s underlying9 underlying141 underlying5,?_,?_,?_⟩
 ·rw [<-hcap]
  have hbs:(bytesRow s cap).size=cap:=by
   unfold bytesRow;simp;have:s.data.size=s.size:=rfl;omega
  refine ⟨w.heap.size,cap,bytesRow s cap,_,zq,heap_alloc_new w.drew _,.inr zg,by simpa using hge,hle,hbs,?_⟩;unfold bytesRow nr
  simp_all
 ·exact ((uO _ w).drew).alloc zq _
 intro g hg
 cases hg
 exact uM _
theorem Q0.cut{w}{g cap}{B}(h:Q0 w (qG g B.length cap) B){n}(hn:n<=B.length):Q0 w (qG g n cap) (B.take n):=by
 obtain ⟨g',cap',cur,fr,e,h1,h2,h3,h4,h5,h6⟩:=h
 cases e
 refine ⟨g,cap,cur,fr,zM,h1,h2,zN,h4,h5,?_⟩;rw [Zp,YW hn]
 have:(cur.toList.take B.length).take n=(nr B).take n:=by rw [h6]
 rw [List.take_take,YW hn] at this;rw [this];simp [nr]
theorem Mq(w)(g n)(cur)(fr)(c:UInt8)(hg:w.heap[g]? =some (.cells cur 5 fr))(hf:fr=(0,0)\/cur.size<=fr.1)(hn:n<cur.size):(storeCells (qA g n) [.int .u8 (c.toNat:Int)] 0).run prog w= .ok () (w.setRow g (cur.setIfInBounds n (.int .u8 (c.toNat:Int)))):=by
 have hadd:((qA g n):Addr).add 0=(qA g n):=rfl
 have hcell:w.cell? (qA g n)=some cur[n]:=by simp [World.cell?,hg,hn]
 have hfro:w.frozen? (qA g n)=false:=by
  obtain ⟨lo,hi⟩:=fr;simp only [World.frozen?,hg,Bool.and_eq_false_iff,decide_eq_false_iff_not]
  rcases hf with hf | hf
  ·simp_all
  omega
 have hst:(store (((qA g n):Addr).add 0) (.int .u8 (c.toNat:Int))).run prog w= .ok () (w.setRow g (cur.setIfInBounds n (.int .u8 (c.toNat:Int)))):=by
  rw [hadd,run_store prog w _ _ _ rfl,hcell];simp [hfro,setCell_eq_setRow w g n cur 5 fr _ hg]
 simp only [storeCells,Sem.run_bind,hst,Result.andThen_ok];rfl
theorem NA{w}{v}{B}(h:Q0 w v B)(a)(ty)(c)(hc:w.cell? a=some (.int .u8 (c.toNat:Int)))(hB:B.length<1000000):
  ∃v' w',(Builtin.append_ #[141,141] ty #[v,.slice (some a) 1 1]).run prog w= .ok v' w'/\Q0 w' v' (B++ [c])/\w.grownBy w' v.ownBlock/\∀g,v'.ownBlock=some g->v.ownBlock=some g\/w.heap.size<=g:=by
 obtain ⟨i0,hi,aD,aw,aJ⟩:=info_parts infoByte
 have bq:∀j u,[Value.int .u8 (c.toNat:Int)][j]? =some u->w.cell? (a.add j)=some u:=fun j u hj=>by
  match j,hj with
  | 0,hj=>
   cases hj
   rw [show a.add 0=a from rfl];exact hc
  | j+1,hj=>simp at hj
 obtain ⟨g,cap,hv⟩:=h.aag;subst hv;have hcells:=h.cells;obtain ⟨g',cap',cur,fr,e,h1,h2,h3,h4,h5,h6⟩:=h
 cases e
 by_cases au:B.length+1<=cap
 ·have hf:=run_firstCells_some (P:=prog) w 1 1 a 1 1 [.int .u8 (c.toNat:Int)] rfl bq;have hst:=Mq w g B.length cur fr c h1 h2 zj;refine ⟨qG g (B.length+1) cap,w.setRow g (cur.setIfInBounds B.length (.int .u8 (c.toNat:Int))),?_,?_,⟨rfl,rfl,rfl,zq,fun k _ hk=>setRow_other w g k _ (fun e=>hk (by simp [Value.ownBlock,e]))⟩,fun g hg=>.inl hg⟩
  ·simp [Builtin.append_,run_underlying underlying141,sizeOf,typeInfo,hi,aw,Builtin.lenOf,au,hf,Addr.add_lit,hst]
  refine ⟨g,cap,_,fr,zq,setRow_heap w g cur _ _ _ h1,by simpa using h2,by simpa using au,h4,by simpa using h5,?_⟩;rw [uS,ZO,Array.toList_setIfInBounds,oe,<-h6];have hl:B.length<cur.toList.length:=zl;have eK:B.length<(cur.toList.set B.length (Value.int .u8 (c.toNat:Int))).length:=qx;rw [List.take_succ_eq_append_getElem eK,List.take_set_of_le zg,List.getElem_set_self];rfl
 have hr:=run_append_grow (P:=prog) w 141 ty 5 i0 (.int .u8 0) underlying141 hi aD (qB g) B.length cap (nr B) zN hcells a 1 1 [.int .u8 (c.toNat:Int)] (by rw [aw];rfl) bq zj zj (by rw [aJ];exact growslice_fits zj zj);have hge:=grownCap_ge w (B.length+1) cap 5;have hcm2:=grownCap_le_maxLen w (B.length+1) cap 5 zB;refine ⟨_,_,hr,⟨w.heap.size,_,_,(0,0),zq,heap_alloc_new w.drew _,.inl rfl,by simpa using hge,hcm2,?_,?_⟩,⟨rfl,rfl,rfl,zq,fun k hk _=>uT w.drew _ k (by simpa using hk)⟩,fun k hk=> ?_⟩
 ·have hz1':(Value.int IntKind.u8 0).cells.size=1:=rfl
  grind [Array.size_append,Zn,size_zeroCells,MN]
 ·grind [Array.toList_append,Zr,oe,nr,Zl]
 cases hk
 simp_all
end
section
open RowKit
abbrev IL:=List Int×List Int×List ByteArray
def Nu(n:Int):Value:=qI n
def rz(s:qY):Value:=.string s
structure J9 (w:qW) (B b:Nat) (v0 v1 v2:Value) (s:IL):Prop where
 F9:o9 w b 84 [v0,v1,v2]
 r0:w.ownsRow B 3 1 v0 s.1.length (s.1.map Nu)
 r1:w.ownsRow B 3 1 v1 s.2.1.length (s.2.1.map Nu)
 r2:w.ownsRow B 9 1 v2 s.2.2.length (s.2.2.map rz)
 apart:v0.ownBlock=none\/v0.ownBlock≠v1.ownBlock
theorem WC:(prog.info? 3).map (fun i=>(i.zero,i.size,i.bytes))=some (some (qI 0),1,8):=zk
theorem Gd:(prog.info? 9).map (fun i=>(i.zero,i.size,i.bytes))=some (some (.string ⟨#[]⟩),1,16):=zk
theorem AR{S T}{z}{bytes}(hS:prog.underlying S=some (.slice T))(bX:(prog.info? T).map (fun i=>(i.zero,i.size,i.bytes))=some (some z,1,bytes))(hb1:bytes<=16)(hz:z.cells.size=1)
  {w:qW} {B n} {v} {xs} (h:w.ownsRow B T 1 v n xs) (hB:B<=w.heap.size) (hn:n<=1000) (u) (hu:u.oneCell'=true) (ty):
  ∃v' w3,(Builtin.append_ #[S,S] ty #[v,qG w.heap.size 1 1]).run prog (w.alloc (.cells #[u] T))= .ok v' w3/\w3.ownsRow B T 1 v' (n+1) (xs++ [u])/\w.grownBy w3 v.ownBlock/\(v'.ownBlock=v.ownBlock\/∀g,v'.ownBlock=some g->w.heap.size<=g):=by
 cases hi:prog.info? T with
 | none=>simp_all
 | some i=>
  rw [hi] at bX;simp only [YD,Option.some.injEq,Prod.mk.injEq] at bX;have h1:=h.alloc (.cells #[u] T);have hcell:=(mq w [u] T).cell
  obtain ⟨v',w3,ae,hown,hg,hv⟩:=CF (P:=prog) (w.alloc (.cells #[u] T)) B S ty T i z 1 bytes hS hi bX.1 bX.2.1 bX.2.2 hz zj v n xs h1 (qB w.heap.size) 1 1 zj [u] rfl (fun j x hj=>by
   obtain rfl:j=0:=zN
   exact (hcell 0).trans hj) (fun x hx=>zM) yu (by have:(n+1)*bytes<=1001*16:=Nat.mul_le_mul zj hb1;omega) zl
  refine ⟨v',w3,ae,hown,?_,?_⟩
  ·exact ((YK w _ none).but _).trans hg
  rcases hv with hv | hv
  ·exact .inl hv
  simp_all
theorem o9.set{w}{b}{t}{cs}(h:o9 w b t cs)(i)(v):o9 (w.setCell (qA b i) v) b t (cs.set i v):=by
 have:=heap_setCell_same w b i cs.toArray t v h;exact ko1
theorem nI{w}{B b n}{T}{v}{xs}{cs}(h:w.ownsRow B T 1 v n xs)(hb:o9 w b 84 cs)(hT:T≠84):v.ownBlock≠some b:=fun e=>by
 rcases h.2 with ⟨rfl,_⟩ | ⟨g,cap,cur,rfl,_,hg,_⟩
 ·cases e
 cases e
 simp_all
theorem Ez{w:qW}{B C m n}{T U}{v u}{xs ys}(h:w.ownsRow B T 1 v n xs)(k:w.ownsRow C U 1 u m ys)(hT:T≠U):v.ownBlock=none\/v.ownBlock≠u.ownBlock:=by
 rcases h.2 with ⟨rfl,_⟩ | ⟨g,cap,cur,rfl,_,hg,_⟩
 ·exact .inl rfl
 refine .inr (fun e=> ?_)
 rcases k.2 with ⟨rfl,_⟩ | ⟨g',cap',cur',rfl,_,hg',_⟩
 ·cases e
 cases e
 simp_all
theorem mA{w:qW}{B n}{T}{v x}{xs}{a}(h:w.ownsRow B T 1 v n xs)(ha:v.ownBlock≠some a.block):(w.setCell a x).ownsRow B T 1 v n xs:=by
 refine ⟨h.1,h.2.imp id ?_⟩;rintro ⟨g,cap,cur,rfl,h1,hg,h2⟩;exact ⟨g,cap,cur,rfl,h1,(heap_setCell_other w a g x (fun e=>ha (by rw [<-e];rfl))).trans hg,h2⟩
theorem SO{v0 v1 v':Value}{w:qW}{B n}{T}{xs}(h1:w.ownsRow B T 1 v1 n xs)(hv:v'.ownBlock=v0.ownBlock\/∀g,v'.ownBlock=some g->w.heap.size<=g)(h:v0.ownBlock=none\/v0.ownBlock≠v1.ownBlock):v'.ownBlock=none\/v'.ownBlock≠v1.ownBlock:=by
 rcases hv with hv | hv
 ·rw [hv];exact h
 cases e:v'.ownBlock with
 | none=>exact .inl rfl
 | some g=>exact .inr (fun q=>by have:=hv g e;have:=(h1.lt g q.symm).2;omega)
theorem tyI:3≠84:=zo
theorem tyS:9≠84:=zo
theorem zds:3≠9:=zo
section
variable {w w3:qW} {B b:Nat} {v0 v1 v2 v':Value} {s:IL}
theorem J9.adc(h:J9 w B b v0 v1 v2 s)(n)(ho:w3.ownsRow B 3 1 v' (s.1.length+1) (s.1.map Nu++ [Nu n]))(hg:w.grownBy w3 v0.ownBlock)(hv:v'.ownBlock=v0.ownBlock\/∀g,v'.ownBlock=some g->w.heap.size<=g)(hB:B<=b):
  J9 (w3.setCell (qB b) v') B b v' v1 v2 (s.1++ [n],s.2.1,s.2.2)/\(B<=w.heap.size->Below B w (w3.setCell (qB b) v')):=by
 have e0:=nI h.r0 h.F9 tyI;have hb3:o9 w3 b 84 [v0,v1,v2]:=(hg.block b h.F9.lt (fun e=>e0 e.symm)).trans h.F9;have h1:=h.r1.kept hg (h.apart.elim (fun e=>zN) (fun e=>.inr (fun q=>e q.symm)));have h2:=h.r2.kept hg ((Ez h.r2 h.r0 (fun e=>zds e.symm)));refine ⟨⟨hb3.set 0 v',uh,mA h1 (nI h1 hb3 tyI),mA h2 (nI h2 hb3 tyS),SO h.r1 hv h.apart⟩,fun hw=> ?_⟩;exact (((uO B w).mono zg).grown hg hw (fun k hk=>(h.r0.lt k hk).1)).setCell hB _
theorem J9.adm(h:J9 w B b v0 v1 v2 s)(n)(ho:w3.ownsRow B 3 1 v' (s.2.1.length+1) (s.2.1.map Nu++ [Nu n]))(hg:w.grownBy w3 v1.ownBlock)(hv:v'.ownBlock=v1.ownBlock\/∀g,v'.ownBlock=some g->w.heap.size<=g)(hB:B<=b):
  J9 (w3.setCell (qA b 1) v') B b v0 v' v2 (s.1,s.2.1++ [n],s.2.2)/\(B<=w.heap.size->Below B w (w3.setCell (qA b 1) v')):=by
 have e1:=nI h.r1 h.F9 tyI;have hb3:o9 w3 b 84 [v0,v1,v2]:=(hg.block b h.F9.lt (fun e=>e1 e.symm)).trans h.F9;have h0:=h.r0.kept hg h.apart;have h2:=h.r2.kept hg ((Ez h.r2 h.r1 (fun e=>zds e.symm)));refine ⟨⟨hb3.set 1 v',mA h0 (nI h0 hb3 tyI),uh,mA h2 (nI h2 hb3 tyS),?_⟩,fun hw=> ?_⟩
 ·cases e:v0.ownBlock with
  | none=>exact .inl rfl
  | some g=>
   refine .inr (fun q=> ?_)
   rcases hv with hv | hv
   ·exact h.apart.elim (fun x=>by rw [e] at x;cases x) (fun x=>x (by rw [e,q,hv]))
   have:=hv g q.symm;have:=(h.r0.lt g e).2;omega
 exact (((uO B w).mono zg).grown hg hw (fun k hk=>(h.r1.lt k hk).1)).setCell hB _
theorem J9.adl(h:J9 w B b v0 v1 v2 s)(n)(ho:w3.ownsRow B 9 1 v' (s.2.2.length+1) (s.2.2.map rz++ [rz n]))(hg:w.grownBy w3 v2.ownBlock)(hB:B<=b):
  J9 (w3.setCell (qA b 2) v') B b v0 v1 v' (s.1,s.2.1,s.2.2++ [n])/\(B<=w.heap.size->Below B w (w3.setCell (qA b 2) v')):=by
 have e2:=nI h.r2 h.F9 tyS;have hb3:o9 w3 b 84 [v0,v1,v2]:=(hg.block b h.F9.lt (fun e=>e2 e.symm)).trans h.F9;have h0:=h.r0.kept hg (Ez h.r0 h.r2 zds);have h1:=h.r1.kept hg (Ez h.r1 h.r2 zds);refine ⟨⟨hb3.set 2 v',mA h0 (nI h0 hb3 tyI),mA h1 (nI h1 hb3 tyI),by simpa using mA ho (nI ho hb3 tyS),h.apart⟩,fun hw=> ?_⟩;exact (((uO B w).mono zg).grown hg hw (fun k hk=>(h.r2.lt k hk).1)).setCell hB _
end
theorem pP(n)(h0: -9223372036854775808<=n)(h1:n<=9223372036854775807)(w)(aK:Lib.TabIs prog w "internal/strconv.uint64pow10" .u64 Lib.pow10Tab):
  qC 54 #[qI n] w (qR (.string ⟨(Lib.itoa n).toArray⟩) w):=by
 refine (Tryz.strconv_Itoa n h0 h1 w aK).mono ?_;rintro e w' ⟨rfl,k,os,rfl⟩;exact ⟨rfl,Lib.below_grow _ _ zg _ _⟩
structure Q7 (w0:qW) (s0 s1 s2 s3:Value) (w:qW):Prop where
 c0:w.cell? (qB (w0.heap.size+1))=some s0
 c1:w.cell? (qA (w0.heap.size+1) 1)=some s1
 c2:w.cell? (qA (w0.heap.size+1) 2)=some s2
 c3:w.cell? (qA (w0.heap.size+1) 3)=some s3
 f0:w.frozen? (qB (w0.heap.size+1))=false
 f1:w.frozen? (qA (w0.heap.size+1) 1)=false
 f2:w.frozen? (qA (w0.heap.size+1) 2)=false
 f3:w.frozen? (qA (w0.heap.size+1) 3)=false
 b:qL w0 w
 z:w0.heap.size+2<=w.heap.size
theorem Q7.later{w0 w w'}{s0 s1 s2 s3}(h:Q7 w0 s0 s1 s2 s3 w)(hb:qL w w'):Q7 w0 s0 s1 s2 s3 w':=by
 obtain ⟨hc,hf⟩:=(⟨fun b o h=>hb.cell (p:=(qA b o)) h,fun b o h=>hb.frozen (p:=(qA b o)) h⟩:(∀b o,b<w.heap.size->w'.cell? (qA b o)=w.cell? (qA b o))/\(∀b o,b<w.heap.size->w'.frozen? (qA b o)=w.frozen? (qA b o)))
 have z:=h.z
 exact ⟨by rw [hc _ _ zj];exact h.c0,by rw [hc _ _ zj];exact h.c1,by rw [hc _ _ zj];exact h.c2,by rw [hc _ _ zj];exact h.c3,
  by rw [hf _ _ zj];exact h.f0,by rw [hf _ _ zj];exact h.f1,by rw [hf _ _ zj];exact h.f2,by rw [hf _ _ zj];exact h.f3,
  h.b.trans (hb.mono zj),uQ z hb.size⟩
theorem Q7.aaW{w0 w}{s0 s1 s2 s3}(h:Q7 w0 s0 s1 s2 s3 w)(s):Q7 w0 s s1 s2 s3 (w.setCell (qB (w0.heap.size+1)) s):=
 ⟨YM _ _ _ h.c0,(Zs _ _ _ _ zq).trans h.c1,(Zs _ _ _ _ zq).trans h.c2,(Zs _ _ _ _ zq).trans h.c3,by rw [Zu];exact h.f0,by rw [Zu];exact h.f1,by rw [Zu];exact h.f2,by rw [Zu];exact h.f3,h.b.setCell zq _,vB⟩
theorem Q7.abl{w0 w}{s0 s1 s2 s3}(h:Q7 w0 s0 s1 s2 s3 w)(s):Q7 w0 s0 s s2 s3 (w.setCell (qA (w0.heap.size+1) 1) s):=
 ⟨(Zs _ _ _ _ zq).trans h.c0,YM _ _ _ h.c1,(Zs _ _ _ _ zq).trans h.c2,(Zs _ _ _ _ zq).trans h.c3,by rw [Zu];exact h.f0,by rw [Zu];exact h.f1,by rw [Zu];exact h.f2,by rw [Zu];exact h.f3,h.b.setCell zq _,vB⟩
theorem Q7.abI{w0 w}{s0 s1 s2 s3}(h:Q7 w0 s0 s1 s2 s3 w)(s):Q7 w0 s0 s1 s s3 (w.setCell (qA (w0.heap.size+1) 2) s):=
 ⟨(Zs _ _ _ _ zq).trans h.c0,(Zs _ _ _ _ zq).trans h.c1,YM _ _ _ h.c2,(Zs _ _ _ _ zq).trans h.c3,by rw [Zu];exact h.f0,by rw [Zu];exact h.f1,by rw [Zu];exact h.f2,by rw [Zu];exact h.f3,h.b.setCell zq _,vB⟩
theorem Q7.abm{w0 w}{s0 s1 s2 s3}(h:Q7 w0 s0 s1 s2 s3 w)(s):Q7 w0 s0 s1 s2 s (w.setCell (qA (w0.heap.size+1) 3) s):=
 ⟨(Zs _ _ _ _ zq).trans h.c0,(Zs _ _ _ _ zq).trans h.c1,(Zs _ _ _ _ zq).trans h.c2,YM _ _ _ h.c3,by rw [Zu];exact h.f0,by rw [Zu];exact h.f1,by rw [Zu];exact h.f2,by rw [Zu];exact h.f3,h.b.setCell zq _,vB⟩
theorem zdB(bk)(x0 x1 x2 x3)(w)(c0:w.cell? (qB bk)=some (.string ⟨x0.toArray⟩))(c1:w.cell? (qA bk 1)=some (.string ⟨x1.toArray⟩))(c2:w.cell? (qA bk 2)=some (.string ⟨x2.toArray⟩))(c3:w.cell? (qA bk 3)=some (.string ⟨x3.toArray⟩))
  (hl:x0.length+x1.length+x2.length+x3.length<=1000000):
  qC 104 #[qG bk 4 4,.string ⟨#[46]⟩] w (qR (.string ⟨(Lib.join [x0,x1,x2,x3] [46]).toArray⟩) w):=by
 have hc:∀(j:Nat) x,([⟨x0.toArray⟩,⟨x1.toArray⟩,⟨x2.toArray⟩,⟨x3.toArray⟩]:List ByteArray)[j]? =some x->w.cell? (qA bk (0+j))=some (.string x):=by
  intro j x hx
  match j,hx with
  | 0,hx=>simp at hx;subst hx;simpa using c0
  | 1,hx=>simp at hx;subst hx;simpa using c1
  | 2,hx=>simp at hx;subst hx;simpa using c2
  | 3,hx=>simp at hx;subst hx;simpa using c3
  | n+4,hx=>simp at hx
 refine (Tryz.strings_Join bk 0 4 [⟨x0.toArray⟩,⟨x1.toArray⟩,⟨x2.toArray⟩,⟨x3.toArray⟩] ⟨#[46]⟩ w hc (uP w (qB bk) c0) zq zq ?_).mono ?_
 ·simp [Lib.join_cons,Lib.joinTail];omega
 rintro e w' ⟨rfl,hb⟩;exact ⟨zq,hb⟩
def QL(a0 a1 a2 a3:Int):qU:=Lib.join [Lib.itoa a0,Lib.itoa a1,Lib.itoa a2,Lib.itoa a3] [46]
theorem So(a0 a1 a2 a3)(w)(aK:Lib.TabIs prog w "internal/strconv.uint64pow10" .u64 Lib.pow10Tab)
  (l0: -9223372036854775808<=a0) (g0:a0<=9223372036854775807) (l1: -9223372036854775808<=a1) (g1:a1<=9223372036854775807) (l2: -9223372036854775808<=a2) (g2:a2<=9223372036854775807) (l3: -9223372036854775808<=a3) (g3:a3<=9223372036854775807):
  qC 67 #[.agg #[qI a0,qI a1,qI a2,qI a3]] w (qR (.string ⟨(QL a0 a1 a2 a3).toArray⟩) w):=by
 have i0:∀w:World,(Instr.index 103 (.agg #[qI a0,qI a1,qI a2,qI a3]) (qI 0)).run prog w= .ok (qI a0) w:=fun _=>zk
 have i1:∀w:World,(Instr.index 103 (.agg #[qI a0,qI a1,qI a2,qI a3]) (qI 1)).run prog w= .ok (qI a1) w:=fun _=>zk
 have i2:∀w:World,(Instr.index 103 (.agg #[qI a0,qI a1,qI a2,qI a3]) (qI 2)).run prog w= .ok (qI a2) w:=fun _=>zk
 have i3:∀w:World,(Instr.index 103 (.agg #[qI a0,qI a1,qI a2,qI a3]) (qI 3)).run prog w= .ok (qI a3) w:=fun _=>zk
 have HT:Hid (Lib.TabBelow prog w.heap.size w "internal/strconv.uint64pow10" .u64 Lib.pow10Tab):=Lib.tabBelow_of_tabIs aK
 have S0:Q7 w (.string ⟨#[]⟩) (.string ⟨#[]⟩) (.string ⟨#[]⟩) (.string ⟨#[]⟩) ((w.alloc (.cells #[qI a0,qI a1,qI a2,qI a3] 103)).alloc (.cells #[.string ⟨#[]⟩,.string ⟨#[]⟩,.string ⟨#[]⟩,.string ⟨#[]⟩] 168)):=
  ⟨zY,zY,zY,zY,zY,zY,zY,zY,(zh _ _).alloc zq _,zq⟩
 go_enter func67,ntmps67;go_wp2;refine wp_loop_rounds 5 ?_;rw [rounds_succ];go_wp2_with fail;refine (pP a0 l0 g0 _ (HT.o _ S0.b)).mono ?_;rintro e w1 ⟨rfl,hb⟩;have T0:=S0.later hb;have S1:=T0.aaW (.string ⟨(Lib.itoa a0).toArray⟩);obtain ⟨c0,c1,c2,c3,f0,f1,f2,f3,-,-⟩:=T0;go_wp2
 generalize w1.setCell (qB (w.heap.size+1)) (.string ⟨(Lib.itoa a0).toArray⟩)=v1 at S1 |-
 rw [rounds_succ];go_wp2_with fail;refine (pP a1 l1 g1 _ (HT.o _ S1.b)).mono ?_;rintro e w2 ⟨rfl,hb⟩;have T1:=S1.later hb;have S2:=T1.abl (.string ⟨(Lib.itoa a1).toArray⟩);obtain ⟨c0,c1,c2,c3,f0,f1,f2,f3,-,-⟩:=T1;go_wp2
 generalize w2.setCell (qA (w.heap.size+1) 1) (.string ⟨(Lib.itoa a1).toArray⟩)=v2 at S2 |-
 rw [rounds_succ];go_wp2_with fail;refine (pP a2 l2 g2 _ (HT.o _ S2.b)).mono ?_;rintro e w3 ⟨rfl,hb⟩;have T2:=S2.later hb;have S3:=T2.abI (.string ⟨(Lib.itoa a2).toArray⟩);obtain ⟨c0,c1,c2,c3,f0,f1,f2,f3,-,-⟩:=T2;go_wp2
 generalize w3.setCell (qA (w.heap.size+1) 2) (.string ⟨(Lib.itoa a2).toArray⟩)=v3 at S3 |-
 rw [rounds_succ];go_wp2_with fail;refine (pP a3 l3 g3 _ (HT.o _ S3.b)).mono ?_;rintro e w4 ⟨rfl,hb⟩;have T3:=S3.later hb;have S4:=T3.abm (.string ⟨(Lib.itoa a3).toArray⟩);obtain ⟨c0,c1,c2,c3,f0,f1,f2,f3,-,-⟩:=T3;go_wp2
 generalize w4.setCell (qA (w.heap.size+1) 3) (.string ⟨(Lib.itoa a3).toArray⟩)=v4 at S4 |-
 rw [rounds_succ];go_wp2_with fail;refine (zdB (w.heap.size+1) (Lib.itoa a0) (Lib.itoa a1) (Lib.itoa a2) (Lib.itoa a3) _ S4.c0 S4.c1 S4.c2 S4.c3 ?_).mono ?_
 ·have e0:=Lib.itoa_length_le _ l0 g0;have e1:=Lib.itoa_length_le _ l1 g1;have e2:=Lib.itoa_length_le _ l2 g2;have e3:=Lib.itoa_length_le _ l3 g3;omega
 rintro e w5 ⟨rfl,hb⟩;have B5:=S4.b.trans (hb.mono (by have:=S4.z;omega));go_wp2;go_ret;exact ⟨rfl,B5⟩

end