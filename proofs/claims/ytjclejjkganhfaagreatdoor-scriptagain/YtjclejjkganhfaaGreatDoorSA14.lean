import Derived.Test.YtjclejjkganhfaaGreatDoorSA10
import Derived.Test.YtjclejjkganhfaaGreatDoorSA12
import Derived.Deep.RegionWith
import Derived.Sort.MapsRangeIn
import Derived.RangeFuncMany
set_option linter.unusedSimpArgs false
set_option linter.unusedVariables false
set_option maxRecDepth 100000
set_option maxHeartbeats 64000000
namespace Go.Proofs.YtjclejjkganhfaaGreatDoor
open Go.Proofs.Tryz
section
open RowKit Maps
open scoped Classical
def zbE(x:Ent):List Value:=[qI x.1.1.1,qI x.1.1.2,qI x.1.2.1,qI x.1.2.2.1,.string x.1.2.2.2]
theorem Ds(m)(fr):tH (m,fr)=zbE (m,fr)++mW fr:=rfl
theorem PC{L}{i}{x}(hx:L[i]? =some x)(fr):∃A C,A.length=i*8+5/\mN tH L=A++mW x.2++C/\mN tH (L.set i (x.1,fr))=A++mW fr++C:=by
 obtain ⟨hl,he⟩:=uK.1 hx;have h1:=Bt (enc:=tH) (k:=8) rK L i hl (x.1,fr);have h2:=Bt (enc:=tH) (k:=8) rK L i hl (x.1,x.2)
 have hs:L.set i (x.1,x.2)=L:=by
  rw [show ((x.1,x.2):Ent)=x from rfl,<-he];exact List.set_getElem_self hl
 rw [hs] at h2;refine ⟨(mN tH L).take (i*8)++zbE x,(mN tH L).drop ((i+1)*8),?_,?_,?_⟩
 ·grind [uS,Zp,mv,rK,zbE]
 ·grind [Ds,Zr]
 rw [h1,Ds];simp only [Zr];rfl
theorem Oh{w:qW}{l9 g n cap o}{A C}{q}(p)(h:w.ownsRow l9 348 8 (qG g n cap) n (A++mW q++C))(ho:A.length=o):
  (((w.setCell (qA g o) (qI p.1)).setCell (qA g (o+1)) (qI p.2.1)).setCell (qA g (o+2)) (.string p.2.2)).ownsRow l9 348 8 (qG g n cap) n (A++mW p++C):=by
 subst ho;exact Hu (vs:=mW p) h rfl
theorem IJ(w)(g o1 o2 o3)(v1 v2 v3):m7 (fun k=>k=g) w (((w.setCell (qA g o1) v1).setCell (qA g o2) v2).setCell (qA g o3) v3):=
 ((lZ g [v1] o1 w).trans (lZ g [v2] o2 _)).trans (lZ g [v3] o3 _)
def t8(w:qW)(bt bm:Nat)(v:Value):Prop:=w.heap[bt]? =some (.cells #[.map (some bm),v] 188 (0,0))
theorem t8.c0{w}{bt bm}{v}(h:t8 w bt bm v):w.cell? (qB bt)=some (.map (some bm)):=um
theorem t8.c1{w}{bt bm}{v}(h:t8 w bt bm v):w.cell? (qA bt 1)=some v:=um
theorem t8.fz{w}{bt bm}{v}(h:t8 w bt bm v)(o):w.frozen? (qA bt o)=false:=by unfold t8 at h;simp [World.frozen?,h]
theorem t8.lt{w}{bt bm}{v}(h:t8 w bt bm v):bt<w.heap.size:=(uN.1 h).1
theorem t8.abr{w}{bt bm n}{v}{f}(h:t8 w bt bm v)(hM:sE prog 3 w bm n f):bt≠bm:=by
 intro e;obtain ⟨es,ck,hb⟩:=hM.block
 grind [t8]
theorem wL{w:qW}{l9 n}{g cap k}{xs}(h:w.ownsRow l9 348 8 (qG g n cap) k xs):∃cur,w.heap[g]? =some (.cells cur 348 (0,0)):=by
 rcases h.2 with ⟨hc,_⟩ | ⟨g',cap',cur,hc,_,hg,_⟩
 ·cases hc
 simp_all
theorem rU{w}{l9 n g cap k bm nn}{xs}{f}(h:w.ownsRow l9 348 8 (qG g n cap) k xs)(hM:sE prog 3 w bm nn f):g≠bm:=by
 intro e;obtain ⟨cur,hc⟩:=wL h;obtain ⟨es,ck,hb⟩:=hM.block
 simp_all
theorem tu{w}{l9 n g cap k bt bm}{xs}{v}(h:w.ownsRow l9 348 8 (qG g n cap) k xs)(hT:t8 w bt bm v):g≠bt:=by
 grind [wL,t8]
theorem LY{w}{l9 g cap n}{L}(h:w.ownsRow l9 348 8 (qG g n cap) n (mN tH L)):V6 w g 0 L:=fun j u hj=>by
 have:=h.cells (g:=g) rfl j u hj;rw [Addr.add_lit] at this;exact this
theorem RC{w:qW}{l9 g cap n k}{xs}(h:w.ownsRow l9 348 8 (qG g n cap) k xs)(j):w.frozen? (qA g j)=false:=by
 obtain ⟨cur,hc⟩:=wL h;simp [World.frozen?,hc]
theorem wZ{w w':qW}{l9 g cap n k}{xs}(h:w.ownsRow l9 348 8 (qG g n cap) k xs)(e:w'.heap[g]? =w.heap[g]?):w'.ownsRow l9 348 8 (qG g n cap) k xs:=by
 refine ⟨h.1,?_⟩
 rcases h.2 with ⟨hc,_⟩ | ⟨g',cap',cur,hc,h1,hg,h2⟩
 ·cases hc
 cases hc;exact .inr ⟨g,cap,cur,rfl,h1,e.trans hg,h2⟩
theorem zc6(w)(bt bm l9 g cap p8 n)(L)(ms)(hT:t8 w bt bm (qG g ms.length cap))(hown:w.ownsRow l9 348 8 (qG g ms.length cap) ms.length (mN tH L))(hL:N6 ms p8 L)
  (hM:sE prog 3 w bm n (mX (ms.take p8))) (cY:∀m∈ms,P1 m.2) (aI:p8<=ms.length) (hlen:ms.length<=1000) (hn:n<=1000000):
  qC 277 #[qP bt,qN p8] w fun e w'=>(∃u,e= .returned u)/\∃L' n',N6 ms ms.length L'/\w'.ownsRow l9 348 8 (qG g ms.length cap) ms.length (mN tH L')/\sE prog 3 w' bm n' (mX ms)/\n'<=n+ms.length/\m7 (fun k=>k=bm\/k=g) w w':=by
 have ke:=hT.abr hM;have kC:=rU hown hM;have hgt:=tu hown hT;have hbt:=hT.lt;have dE:=(uN.1 (wL hown).choose_spec).1;have hbm:=hM.lt;go_enter func277,ntmps277;go_wp2;go_loopg [4] (ms.length - p8) (fun kx s4 wr=>∃(i:Nat) (L:List Ent) (n':Nat),s4=qN i/\i<=ms.length/\ms.length - i<=kx/\N6 ms i L/\wr.ownsRow l9 348 8 (qG g ms.length cap) ms.length (mN tH L)/\sE prog 3 wr bm n' (mX (ms.take i))/\n'<=n+i/\m7 (fun k=>k=bm\/k=g) w wr)
 case atStart=>exact ⟨p8,L,n,rfl,aI,uM _,hL,hown,hM,Nat.le_add_right _ _,m7.refl _ _⟩
 case round=>
  obtain ⟨i,L,n',rfl,hi,aY,hL,hown,hM,hn',hk⟩:=hrel;have hT1:t8 wr bt bm (qG g ms.length cap):=(hk.block bt hbt zj).trans ‹t8 w bt bm _›;have t0:=hT1.c0;have t1:=hT1.c1;have hsz:=hk.size;by_cases hlt:i<ms.length
  ·have aq:qlt i ms.length=true:=by simp;omega
   obtain ⟨x,hx⟩:∃x,L[i]? =some x:=⟨_,uL (by rw [hL.y9];exact hlt)⟩
   have hmx:=hL.mov hx;have hf:=cY _ (uR hmx);have hrow:=LY hown
   have c2:wr.cell? (qA g (i*8+2))=some (qI x.1.2.1):=by have:=hrow.at hx 2 (u:=qI x.1.2.1) rfl;rwa [Ze] at this
   have c3:wr.cell? (qA g (i*8+3))=some (qI x.1.2.2.1):=by have:=hrow.at hx 3 (u:=qI x.1.2.2.1) rfl;rwa [Ze] at this
   have c4:wr.cell? (qA g (i*8+4))=some (.string x.1.2.2.2):=by have:=hrow.at hx 4 (u:=.string x.1.2.2.2) rfl;rwa [Ze] at this
   have ex:((i:Int)).toNat=i:=zj;have px:(0:Int)<=(i:Int):=zj;have bx:(i:Int)<(ms.length:Int):=zj
   have HH:Aside (N6 ms i L/\wr.ownsRow l9 348 8 (qG g ms.length cap) ms.length (mN tH L)/\sE prog 3 wr bm n' (mX (ms.take i))/\m7 (fun k=>k=bm\/k=g) w wr/\t8 wr bt bm (qG g ms.length cap)/\V6 wr g 0 L/\L[i]? =some x/\ms[i]? =some x.1):=⟨hL,hown,hM,hk,hT1,hrow,hx,hmx⟩
   go_wp2;obtain ⟨w1,hw1⟩:=za (wr.alloc (.cells #[qI x.1.2.1,qI x.1.2.2.1,.string x.1.2.2.2] 212))
   have bR:x9 w1 wr.heap.size x.1.2:=by rw [hw1];exact heap_alloc_new wr _
   have hold:∀k,k<wr.heap.size->w1.heap[k]? =wr.heap[k]? :=fun k hk=>by rw [hw1];exact uT wr _ k hk
   have aG:w1.heap.size=wr.heap.size+1:=xY
   have gv:m7 (fun k=>k=bm\/k=g) w w1:=by rw [hw1];exact HH.o.2.2.2.1.alloc _
   have aQ:=wZ HH.o.2.1 (hold g zj);have hT1:t8 w1 bt bm (qG g ms.length cap):=(hold bt zj).trans HH.o.2.2.2.2.1;have cM:=HH.o.2.2.1.same (hold bm zj);obtain ⟨b5,hb5⟩:=za wr.heap.size;rw [<-hw1]
   rw [<-hb5] at bR aG |-
   have hg5:g<b5:=zj;have hb5w:w.heap.size<=b5:=zj;have ft:bm<b5:=zj;have ht5:bt<b5:=zj;clear hw1 hold hb5 t0 t1 c2 c3 c4;have fQ:=LY aQ;have t0:=hT1.c0;have t1:=hT1.c1;have p0:=bR.c0;have p1:=bR.c1;have p2:=bR.c2;have hwn:=(tF hf).1;have l0:=cM.abO hwn;have l1:=(show sE prog 3 w1.drew bm n' (mX (ms.take i)) from cM).abO hwn;unfold pS at l0 l1
   have c5:w1.cell? (qA g (i*8+5))=some (qI x.2.1):=by have:=fQ.at HH.o.2.2.2.2.2.2.1 5 (u:=qI x.2.1) rfl;rwa [Ze] at this
   have c6:w1.cell? (qA g (i*8+6))=some (qI x.2.2.1):=by have:=fQ.at HH.o.2.2.2.2.2.2.1 6 (u:=qI x.2.2.1) rfl;rwa [Ze] at this
   have c7:w1.cell? (qA g (i*8+7))=some (.string x.2.2.2):=by have:=fQ.at HH.o.2.2.2.2.2.2.1 7 (u:=.string x.2.2.2) rfl;rwa [Ze] at this
   have z5:=RC aQ (i*8+5);have z6:=RC aQ (i*8+6);have z7:=RC aQ (i*8+7);obtain ⟨fr,hfr⟩:=za ((mX (ms.take i) x.1.2.1).getD mM);rw [<-hfr] at l0 l1
   have H1:Aside (w1.ownsRow l9 348 8 (qG g ms.length cap) ms.length (mN tH L)/\sE prog 3 w1 bm n' (mX (ms.take i))/\m7 (fun k=>k=bm\/k=g) w w1/\t8 w1 bt bm (qG g ms.length cap)/\x9 w1 b5 x.1.2/\fr=Ae ms i):=⟨aQ,cM,gv,hT1,bR,by rw [hfr,Bb HH.o.2.2.2.2.2.2.2]⟩
   clear aQ cM gv hT1 bR fQ hfr;go_region;obtain ⟨w2,hw2⟩:=za ((((w1.setCell (qA g (i*8+5)) (qI fr.1)).setCell (qA g (i*8+5+1)) (qI fr.2.1)).setCell (qA g (i*8+5+2)) (.string fr.2.2)).drew);rw [<-hw2]
   have gu:m7 (fun k=>k=g) w1 w2:=by rw [hw2];exact (IJ w1 g _ _ _ _ _ _).drew
   obtain ⟨A,C,hA,jD,hf2⟩:=PC HH.o.2.2.2.2.2.2.1 fr
   have dH:w2.ownsRow l9 348 8 (qG g ms.length cap) ms.length (mN tH (L.set i (x.1,fr))):=by
    have:=H1.o.1;rw [jD] at this;rw [hw2,hf2];exact Oh fr this hA
   have gC:=H1.o.2.1.same (gu.block bm zj zj);have hT2:t8 w2 bt bm (qG g ms.length cap):=(gu.block bt zj zj).trans H1.o.2.2.2.1;have gm:=H1.o.2.2.2.2.1.same (gu.block b5 zj zj)
   have hk2:=H1.o.2.2.1.then gu (fun _ _ e=>.inr e)
   have aN:=gu.size
   have hL2:N6 ms (i+1) (L.set i (x.1,fr)):=by rw [H1.o.2.2.2.2.2];exact zct HH.o.1 HH.o.2.2.2.2.2.2.1
   have kr:=Gr HH.o.2.2.2.2.2.2.2;have kB:AV (mX (ms.take i)):=rm (fun m hm=>cY m (Yw hm))
   have H2:Aside (w2.ownsRow l9 348 8 (qG g ms.length cap) ms.length (mN tH (L.set i (x.1,fr)))/\sE prog 3 w2 bm n' (mX (ms.take i))/\m7 (fun k=>k=bm\/k=g) w w2/\t8 w2 bt bm (qG g ms.length cap)/\x9 w2 b5 x.1.2/\N6 ms (i+1) (L.set i (x.1,fr))/\mX (ms.take (i+1))=K8 (mX (ms.take i)) x.1/\w2.heap.size≥w1.heap.size):=⟨dH,gC,hk2,hT2,gm,hL2,kr,aN⟩
   clear hw2 gu hA jD hf2 dH gC hT2 hk2 hL2 kr t0 t1 p0 p1 p2 l0 l1 c5 c6 c7 z5 z6 z7 H1 HH;have p0:=gm.c0;have p1:=gm.c1;have p2:=gm.c2;have t0:=H2.o.2.2.2.1.c0;by_cases he:x.1.2.1=x.1.2.2.1
   ·have d0:(x.1.2.1 !=x.1.2.2.1)=false:=by simp [he]
    have eO:IX (mX (ms.take i)) x.1.2:=.inl he;have HI:Aside (mX (ms.take (i+1))=mX (ms.take i)):=H2.o.2.2.2.2.2.2.1.trans (oF eO);go_wp2;go_roundg (ms.length - (i+1))
    case measure=>omega
    case rel=>exact ⟨i+1,L.set i (x.1,fr),n',zJ,zj,uM _,H2.o.2.2.2.2.2.1,H2.o.1,by rw [HI.o];exact H2.o.2.1,zj,H2.o.2.2.1⟩
   have d0:(x.1.2.1 !=x.1.2.2.1)=true:=by simp [he]
   have hwo:=(tF hf).2;by_cases ar:Ins (mX (ms.take i)) x.1.2.2.1 x.1.2.1
   ·have eO:IX (mX (ms.take i)) x.1.2:=.inr ar;have HI:Aside (mX (ms.take (i+1))=mX (ms.take i)):=H2.o.2.2.2.2.2.2.1.trans (oF eO);have ac:=wX w2 bt bm n' (mX (ms.take i)) x.1.2.2.1 x.1.2.1 true (by simp [ar]) t0 H2.o.2.1 kB hwo;go_wp2_with (go_at_call 143;refine ac.mono ?_;clear ac;rintro e w3 ⟨rfl,hb3⟩)
    have hk3:=H2.o.2.2.1.then (lW hb3) (fun i hi e=>zj)
    have aZ:=wZ H2.o.1 (hb3.block g zj);have gB:=H2.o.2.1.same (hb3.block bm zj);go_roundg (ms.length - (i+1))
    case measure=>omega
    case rel=>exact ⟨i+1,L.set i (x.1,fr),n',zJ,zj,uM _,H2.o.2.2.2.2.2.1,aZ,by rw [HI.o];exact gB,zj,hk3⟩
   have eO:¬IX (mX (ms.take i)) x.1.2:=fun h=>h.elim he ar
   have HI:Aside (mX (ms.take (i+1))=upd (mX (ms.take i)) x.1.2.1 (some x.1.2)):=H2.o.2.2.2.2.2.2.1.trans (ng eO);have ac:=wX w2 bt bm n' (mX (ms.take i)) x.1.2.2.1 x.1.2.1 false (by simp [ar]) t0 H2.o.2.1 kB hwo;go_wp2_with (go_at_call 143;refine ac.mono ?_;clear ac;rintro e w3 ⟨rfl,hb3⟩)
   have hk3:=H2.o.2.2.1.then (lW hb3) (fun i hi e=>zj)
   have aZ:=wZ H2.o.1 (hb3.block g zj);have gB:=H2.o.2.1.same (hb3.block bm zj);have hT3:t8 w3 bt bm (qG g ms.length cap):=(hb3.block bt zj).trans H2.o.2.2.2.1;have lK:=H2.o.2.2.2.2.1.same (hb3.block b5 zj);obtain ⟨w4,ae,hM4,ht4⟩:=(show sE prog 3 w3.drew bm n' (mX (ms.take i)) from gB).store (T:=185) (E:=212) underlying3 underlying185 zB hwn x.1.2;unfold pS at ae;have hg4:=ht4.grown
   have hg4':w3.grownBy w4 (some bm):=⟨hg4.os,hg4.tape,hg4.output,hg4.size,hg4.block⟩
   have hk4:=hk3.then (lS hg4') (fun i _ e=>.inl yG)
   have fU:=wZ aZ (hg4'.block g (by have:=hb3.size;omega) (by simpa using kC))
   have H4:Aside (m7 (fun k=>k=bm\/k=g) w w4/\w4.ownsRow l9 348 8 (qG g ms.length cap) ms.length (mN tH (L.set i (x.1,fr)))/\sE prog 3 w4 bm (n'+1) (mX (ms.take (i+1)))):=⟨hk4,fU,by rw [HI.o];exact hM4⟩
   have q0:=lK.c0;have q1:=lK.c1;have q2:=lK.c2;have u0:=hT3.c0;go_region
   all_goals go_wp2
   go_roundg (ms.length - (i+1))
   case measure=>omega
   case rel=>exact ⟨i+1,L.set i (x.1,fr),n'+1,zJ,zj,uM _,H2.o.2.2.2.2.2.1,H4.o.2.1,H4.o.2.2,zj,H4.o.1⟩
  have aq:qlt i ms.length=false:=zl;have hie:i=ms.length:=zj;subst hie;rw [Yq] at hM;go_wp2;go_end0;exact ⟨⟨_,rfl⟩,L,n',hL,hown,hM,hn',hk⟩
structure I9 (l9:Nat) (w:qW) (bt bm:Nat) (v:Value) (ms:List Mov):Prop where
 cell:t8 w bt bm v
 row:∃L,N6 ms ms.length L/\w.ownsRow l9 348 8 v ms.length (mN tH L)
 map:∃n,n<=600*ms.length/\sE prog 3 w bm n (mX ms)
 o8:ml ms
 Y5:∀m∈ms,P1 m.2
theorem I9.aaa{l9}{w}{bt bm}{v}{ms}(h:I9 l9 w bt bm v ms):AV (mX ms):=rm h.Y5
theorem I9.lt{l9}{w}{bt bm}{v}{ms}(h:I9 l9 w bt bm v ms):bt<w.heap.size/\bm<w.heap.size/\∀g,v.ownBlock=some g->g<w.heap.size:=by
 obtain ⟨n,_,hM⟩:=h.map;obtain ⟨L,_,hR⟩:=h.row;exact ⟨h.cell.lt,hM.lt,fun g hg=>(hR.lt g hg).2⟩
theorem oZ{w w':qW}{l9 n}{e}{k}{v}{xs}(h:w.ownsRow l9 e k v n xs)(hs:∀g,v.ownBlock=some g->w'.heap[g]? =w.heap[g]?):w'.ownsRow l9 e k v n xs:=by
 refine ⟨h.1,?_⟩
 rcases h.2 with h0 | ⟨g,cap,cur,rfl,h1,hg,h2⟩
 ·exact .inl h0
 exact kl7
theorem I9.same{l9}{w w'}{bt bm}{v}{ms}(h:I9 l9 w bt bm v ms)(h1:w'.heap[bt]? =w.heap[bt]?)(h2:w'.heap[bm]? =w.heap[bm]?)(h3:∀g,v.ownBlock=some g->w'.heap[g]? =w.heap[g]?):I9 l9 w' bt bm v ms:=by
 obtain ⟨n,hn,hM⟩:=h.map;obtain ⟨L,hL,hR⟩:=h.row;exact ⟨h1.trans h.cell,⟨L,hL,oZ hR h3⟩,⟨n,hn,hM.same h2⟩,h.o8,h.Y5⟩
theorem I9.later{l9}{w w'}{bt bm}{v}{ms}(h:I9 l9 w bt bm v ms)(hb:qL w w'):I9 l9 w' bt bm v ms:=
 h.same (hb.block _ h.lt.1) (hb.block _ h.lt.2.1) (fun g hg=>hb.block g (h.lt.2.2 g hg))
theorem GR{t b n}{l8 other}{name value:qY}(h:opE t b n 109 l8 other name.data.toList value.data.toList=0):P1 (l8,other,name):=by
 have h0:=mP h;unfold opE at h;rw [if_pos ⟨h0.1,h0.2.1,h0.2.2.1,h0.2.2.2.1,h0.2.2.2.2.1,h0.2.2.2.2.2.1⟩] at h;unfold AG at h;rw [if_pos rfl] at h;unfold nC at h;split at h
 ·cases h
 rename_i hc;have hl:name.data.toList.length=name.size:=zq;obtain ⟨_,_,_,_,_,_,_,_,_,_,_,_,h12,_⟩:=h0;refine ⟨?_,?_,?_,?_,?_,?_⟩<;>dsimp only<;>omega
def Wg:Prop:=∀(w:qW) (l9 bt bm n p8:Nat) (v:Value) (ms:List Mov) (L:List Ent),t8 w bt bm v->N6 ms ms.length L->w.ownsRow l9 348 8 v ms.length (mN tH L)->sE prog 3 w bm n (mX ms)->(∀m∈ms,P1 m.2)->p8<=ms.length->ms.length<=1000->n<=1000000->
  qC 275 #[qP bt,qN p8] w fun e w'=>(∃u,e= .returned u)/\sE prog 3 w' bm (n+(ms.length - p8)) (mX (ms.take p8))/\m7 (fun k=>k=bm) w w'
theorem zaI(w)(l9 bt bm n)(v)(ms)(L)(s)(hT:t8 w bt bm v)(hL:N6 ms ms.length L)(hR:w.ownsRow l9 348 8 v ms.length (mN tH L))(bK:ml ms)(hlen:ms.length<=1000)(_hM:sE prog 3 w bm n (mX ms)):
  qC 274 #[qP bt,.agg #[qI s.1,qI s.2]] w fun e w'=>(∃(i:Nat) (b:Bool),e=qT #[qN i,.bool b]/\Ie ms s i b)/\qL w w':=by
 have jx:=hL.y9
 rcases hR.2 with ⟨hv,h0⟩ | ⟨g,cap,cur,hv,_,hg,hnc,_⟩
 ·have hL0:L= []:=Zi.1 zj;subst hv;exact Km w bt bt 0 none L ms s hL.abk bK zj (by rw [jx,h0];exact hT.c1) (.inl hL0) hT.lt (fun j u hj=>by rw [hL0] at hj;simp [mN] at hj)
 subst hv;exact Km w bt g cap (qS g) L ms s hL.abk bK zj (by rw [jx];exact hT.c1) (.inr rfl) (uN.1 hg).1 (LY hR)
theorem EN(hU:Wg){ad}(w)(l9 bt bm)(v)(ms)(t b n l8 other)(name value)(hE:U9 ad w)(hT:I9 l9 w bt bm v ms)(aj:l9<=w.heap.size)(hlen:ms.length<=250)
  (bO:name.size<=1000000) (dF:value.size<=1000000) (dI:opE t b n 109 l8 other name.data.toList value.data.toList=0) (hnew:∀m∈ms,m.1≠(t,b)):
  qC 226 #[qP bt,.agg #[qI t,qI b,qI n,.int .u8 109,qI l8,qI other,.string name,.string value]] w fun e w'=>e= .returned .nilIface/\∃v' ms',I9 l9 w' bt bm v' ms'/\ms'.Perm (((t,b),(l8,other,name))::ms)/\m7 (fun k=>k=bt\/k=bm\/some k=v.ownBlock) w w'/\(v'.ownBlock=v.ownBlock\/∀g,v'.ownBlock=some g->w.heap.size<=g):=by
 have gK:∀o,qL w (w.alloc o):=fun o=>(uO _ w).alloc zg o
 obtain ⟨w1,hw1⟩:=za (w.alloc (.cells #[qI t,qI b,qI n,.int .u8 109,qI l8,qI other,.string name,.string value] 88))
 have O1:Q5 w1 w.heap.size t b n 109 l8 other name value:=by rw [hw1];exact Q5.GA w t b n 109 l8 other name value 88
 have B1:qL w w1:=by rw [hw1];exact gK _
 have bH:=mn t b n 109 l8 other name value w1 (hE.later B1) bO dF;rw [dI] at bH;have e0:eV ad 0= .nilIface:=rfl;rw [e0] at bH;have s1:w1.heap.size=w.heap.size+1:=xY
 have H1:Aside (Q5 w1 w.heap.size t b n 109 l8 other name value/\I9 l9 w1 bt bm v ms/\qL w w1):=⟨O1,hT.later B1,B1⟩
 have HT:Aside (I9 l9 w bt bm v ms):=hT;go_enter func226,ntmps226;go_wp2_with fail;rw [<-hw1];refine bH.mono ?_;rintro e w2 ⟨rfl,hb2⟩
 have H2:Aside (Q5 w2 w.heap.size t b n 109 l8 other name value/\I9 l9 w2 bt bm v ms/\qL w w2/\w.heap.size+1<=w2.heap.size):=⟨H1.o.1.later hb2,H1.o.2.1.later hb2,zi H1.o.2.2 hb2,by have:=hb2.size;omega⟩
 obtain ⟨c0,c1,c2,c3,c4,c5,c6,c7⟩:=H2.o.1;have c3:w2.cell? (qA w.heap.size 3)=some (.int .u8 109):=c3;go_wp2_with fail;obtain ⟨L,hL,hR⟩:=H2.o.2.1.row;obtain ⟨nn,dJ,hM⟩:=H2.o.2.1.map;refine (zaI w2 l9 bt bm nn v ms L (t,b) H2.o.2.1.cell hL hR H2.o.2.1.o8 zj hM).mono ?_;rintro e w3 ⟨⟨i,bo,rfl,hF⟩,hb3⟩;obtain ⟨rfl,bl,hF1,hF2⟩:=Nf hF hnew
 have H3:Aside (Q5 w3 w.heap.size t b n 109 l8 other name value/\I9 l9 w3 bt bm v ms/\qL w w3/\w.heap.size+1<=w3.heap.size/\(∀x∈ms.take i,SLt x.1 (t,b))/\(∀x∈ms.drop i,SLt (t,b) x.1)):=⟨H2.o.1.later hb3,H2.o.2.1.later hb3,zi H2.o.2.2.1 hb3,by have:=H2.o.2.2.2;have:=hb3.size;omega,hF1,hF2⟩
 go_wp2_with fail;obtain ⟨L,hL,hR⟩:=H3.o.2.1.row;obtain ⟨nn,dJ,hM⟩:=H3.o.2.1.map;refine (hU w3 l9 bt bm nn i v ms L H3.o.2.1.cell hL hR hM H3.o.2.1.Y5 bl zj zj).mono ?_;rintro e w4 ⟨⟨u,rfl⟩,hM4,hk4⟩;have hsz4:=hk4.size;have aV:=H3.o.2.1.lt;have ke:=H3.o.2.1.cell.abr hM
 have hbxm:w.heap.size≠bm:=by
  intro e;obtain ⟨es,ck,hb⟩:=hM.block;have:=H3.o.1.c0;rw [e] at this;simp [World.cell?,hb] at this
 have jK:t8 w4 bt bm v:=(hk4.block bt aV.1 ke).trans H3.o.2.1.cell
 have hR4:=oZ hR (fun g hg=>hk4.block g (aV.2.2 g hg) (by
  rcases hR.2 with ⟨hv,_⟩ | ⟨g',cap',cur,hv,_⟩
  ·rw [hv] at hg;cases hg
  ·subst hv;cases hg;exact rU hR hM))
 have fi:w.heap.size<w3.heap.size:=by have:=H3.o.2.2.2.1;omega
 have hB4:=hk4.block _ fi hbxm
 have O4:Q5 w4 w.heap.size t b n 109 l8 other name value:=by
  have h:=fun o=>uV (a:=(qA w.heap.size o)) hB4
  exact ⟨(h 0).trans H3.o.1.c0,(h 1).trans H3.o.1.c1,(h 2).trans H3.o.1.c2,(h 3).trans H3.o.1.c3,(h 4).trans H3.o.1.c4,(h 5).trans H3.o.1.c5,(h 6).trans H3.o.1.c6,(h 7).trans H3.o.1.c7⟩
 have hK4:m7 (fun k=>k=bt\/k=bm\/some k=v.ownBlock) w w4:=((lW H3.o.2.2.1).mono (fun k hk e=>zj)).then hk4 (fun k _ e=>.inr (.inl e))
 obtain ⟨c0,c1,c2,c3,c4,c5,c6,c7⟩:=O4;have c3:w4.cell? (qA w.heap.size 3)=some (.int .u8 109):=c3;have t1:=jK.c1;have z1:=jK.fz 1;go_wp2_with fail;obtain ⟨B,hB⟩:=za w.heap.size
 rw [<-hB] at c0 c1 c2 c3 c4 c5 c6 c7 fi hbxm |-
 have HB:Aside (B=w.heap.size):=hB;clear hB
 have iE:∀g,v.ownBlock=some g->g≠bt/\g≠bm/\g<w4.heap.size:=fun g hg=>by
  rcases hR4.2 with ⟨hv,_⟩ | ⟨g',cap',cur,hv,_⟩
  ·rw [hv] at hg;cases hg
  subst hv;cases hg;exact ⟨tu hR4 jK,rU hR4 hM4,(hR4.lt _ rfl).2⟩
 have hxw:∀X:World,X=(w4.alloc (.cells #[qI t,qI b,qI l8,qI other,.string name,qI 0,qI 0,.string ⟨#[]⟩] 348)).drew->qC 276 #[v,qN i,qG w4.heap.size 1 1] X
   fun e w'=>∃g' cap',e= .returned (qG g' (ms.length+1) cap')/\Aside (w'.ownsRow l9 348 8 (qG g' (ms.length+1) cap') (ms.length+1) (mN tH (RL L i (((t,b),(l8,other,name)),mM)))/\m7 (fun k=>some k=v.ownBlock) w4 w'/\(some g'=v.ownBlock\/w4.heap.size<=g'))/\w'.cell? (qA bt 1)=some v/\w'.frozen? (qA bt 1)=false/\(w'.cell? (qB B)=some (qI t)/\w'.cell? (qA B 1)=some (qI b)/\w'.cell? (qA B 4)=some (qI l8)/\w'.cell? (qA B 5)=some (qI other)/\w'.cell? (qA B 6)=some (.string name)/\w'.cell? (qA bt 1)=some v):=by
  rintro X rfl;obtain ⟨Y,hY⟩:=za ((w4.alloc (.cells #[qI t,qI b,qI l8,qI other,.string name,qI 0,qI 0,.string ⟨#[]⟩] 348)).drew)
  have hnb:Y.heap[w4.heap.size]? =some (.cells #[qI t,qI b,qI l8,qI other,.string name,qI 0,qI 0,.string ⟨#[]⟩] 348 (0,0)):=by rw [hY];exact heap_alloc_new w4 _
  have hYk:m7 (fun _=>False) w4 Y:=by rw [hY];exact ((m7.refl _ w4).alloc _).drew
  have hYs:Y.heap.size=w4.heap.size+1:=by rw [hY];simp
  have hRY:=oZ (w':=Y) hR4 (fun g hg=>hYk.block g (iE g hg).2.2 (fun e=>e));rw [<-hY];refine (LE Y l9 ms.length i v (mN tH L) (tH (((t,b),(l8,other,name)),mM)) hRY zj w4.heap.size rfl (fun j u hj=> ?_) (Kt _) (sJ Kt L) (fun e=>by have:=(iE _ e.symm).2.2;omega) ?_ (fun j=> ?_) (by have:=hK4.size;omega) bl).mono ?_
  ·simp only [World.cell?,hnb];rw [<-hj];simp [tH,mM]
  ·simp [World.shape?,hnb]
  ·simp [World.frozen?,hnb]
  rintro e w' ⟨v',rfl,ho,hk,hv'⟩;obtain ⟨g',cap',rfl⟩:=ownsRow_succ ho;have gr:=(hYk.mono (fun _ _ e=>e.elim)).trans hk;have hTb:=gr.block bt zj (fun e=>(iE bt e.symm).1 rfl);have hT5:t8 w' bt bm v:=hTb.trans jK;rw [<-Ki rK L i (by rw [hL.y9];exact bl)] at ho;have hBb:=gr.block B zj (fun e=>by have:=HT.o.lt.2.2 B e.symm;have:=HB.o;omega)
  have hBc:=fun o=>uV (a:=(qA B o)) hBb
  refine ⟨g',cap',rfl,⟨ho,gr,?_⟩,hT5.c1,hT5.fz 1,(hBc 0).trans c0,(hBc 1).trans c1,(hBc 4).trans c4,(hBc 5).trans c5,(hBc 6).trans c6,hT5.c1⟩
  rcases hv' with e | e
  ·exact .inl e
  right
  have:g'=Y.heap.size:=by simpa [Value.ownBlock] using e
  omega
 have t1a:∀o,(w4.alloc o).cell? (qA bt 1)=some v:=fun o=>(uV (a:=(qA bt 1)) (uT w4 o bt jK.lt)).trans t1
 have hbtB:bt≠B:=by have:=HT.o.lt.1;have:=HB.o;omega
 have hBl:B<w4.heap.size:=zj
 have htn':w4.heap.size≠bt:=by have:=jK.lt;omega
 refine nT (S:=(fun w'=>w'.cell? (qB B)=some (qI t)/\w'.cell? (qA B 1)=some (qI b)/\w'.cell? (qA B 4)=some (qI l8)/\w'.cell? (qA B 5)=some (qI other)/\w'.cell? (qA B 6)=some (.string name)/\w'.cell? (qA bt 1)=some v)) (z:=20) zk ⟨c0,c1,c4,c5,c6,t1⟩ (fun aa=> ?_);refine lX (i:=0) (v:= ?v0) zo rfl zk zk zk (fun _ _ _ h=>h) (Or.inl ⟨zt,?hy0⟩) aa ?rest0
 case hy0=>(intro w' _;go_simp;try with_reducible rfl)
 simp only [Act.put,uX,Zg,Zh];refine lX (i:=1) (v:= ?v1) zo rfl zk zk zk (fun _ _ _ h=>h) (Or.inl ⟨zt,?hy1⟩) aa ?rest1
 case hy1=>(intro w' _;go_simp;try with_reducible rfl)
 simp only [Act.put,uX,Zg,Zh];refine lX (i:=2) (v:= ?v2) zo rfl zk zk zk (fun _ _ _ h=>h) (Or.inl ⟨zt,?hy2⟩) aa ?rest2
 case hy2=>(intro w' _;go_simp;try with_reducible rfl)
 simp only [Act.put,uX,Zg,Zh];refine lX (i:=3) (v:= ?v3) zo rfl zk zk zk (fun _ _ _ h=>h) (Or.inl ⟨zt,?hy3⟩) aa ?rest3
 case hy3=>(intro w' _;go_simp;try with_reducible rfl)
 simp only [Act.put,uX,Zg,Zh];refine mS (i:=4) (v:= ?v4) zo zk rfl zk zk zk zk (fun _ _ _ h=>h) (Or.inl ⟨zt,?hy4⟩) aa ?rest4
 case hy4=>(intro w' ab;obtain ⟨k0,k1,k4,k5,k6,k7⟩:=ab;go_simp;try with_reducible rfl)
 simp only [Act.put,uX,Zg,Zh];refine lX (i:=5) (v:= ?v5) zo rfl zk zk zk (fun _ _ _ h=>h) (Or.inl ⟨zt,?hy5⟩) aa ?rest5
 case hy5=>(intro w' _;go_simp;try with_reducible rfl)
 simp only [Act.put,uX,Zg,Zh];refine lX (i:=6) (v:= ?v6) zo rfl zk zk zk (fun _ _ _ h=>h) (Or.inl ⟨zt,?hy6⟩) aa ?rest6
 case hy6=>(intro w' _;go_simp;try with_reducible rfl)
 simp only [Act.put,uX,Zg,Zh];refine mS (i:=7) (v:= ?v7) zo zk rfl zk zk zk zk (fun _ _ _ h=>h) (Or.inl ⟨zt,?hy7⟩) aa ?rest7
 case hy7=>(intro w' ab;obtain ⟨k0,k1,k4,k5,k6,k7⟩:=ab;go_simp;try with_reducible rfl)
 simp only [Act.put,uX,Zg,Zh];refine lX (i:=8) (v:= ?v8) zo rfl zk zk zk (fun _ _ _ h=>h) (Or.inl ⟨zt,?hy8⟩) aa ?rest8
 case hy8=>(intro w' _;go_simp;try with_reducible rfl)
 simp only [Act.put,uX,Zg,Zh];refine mS (i:=9) (v:= ?v9) zo zk rfl zk zk zk zk (fun _ _ _ h=>h) (Or.inl ⟨zt,?hy9⟩) aa ?rest9
 case hy9=>(intro w' ab;obtain ⟨k0,k1,k4,k5,k6,k7⟩:=ab;go_simp;try with_reducible rfl)
 simp only [Act.put,uX,Zg,Zh];refine lX (i:=10) (v:= ?v10) zo rfl zk zk zk (fun _ _ _ h=>h) (Or.inl ⟨zt,?hy10⟩) aa ?rest10
 case hy10=>(intro w' _;go_simp;try with_reducible rfl)
 simp only [Act.put,uX,Zg,Zh];refine mS (i:=11) (v:= ?v11) zo zk rfl zk zk zk zk (fun _ _ _ h=>h) (Or.inl ⟨zt,?hy11⟩) aa ?rest11
 case hy11=>(intro w' ab;obtain ⟨k0,k1,k4,k5,k6,k7⟩:=ab;go_simp;try with_reducible rfl)
 simp only [Act.put,uX,Zg,Zh];refine lX (i:=12) (v:= ?v12) zo rfl zk zk zk (fun _ _ _ h=>h) (Or.inl ⟨zt,?hy12⟩) aa ?rest12
 case hy12=>(intro w' _;go_simp;try with_reducible rfl)
 simp only [Act.put,uX,Zg,Zh];refine mS (i:=13) (v:= ?v13) zo zk rfl zk zk zk zk (fun _ _ _ h=>h) (Or.inl ⟨zt,?hy13⟩) aa ?rest13
 case hy13=>(intro w' ab;obtain ⟨k0,k1,k4,k5,k6,k7⟩:=ab;go_simp;try with_reducible rfl)
 simp only [Act.put,uX,Zg,Zh];refine lX (i:=14) (v:= ?v14) zo rfl zk zk zk (fun _ _ _ h=>h) (Or.inl ⟨zt,?hy14⟩) aa ?rest14
 case hy14=>(intro w' _;go_simp;try with_reducible rfl)
 simp only [Act.put,uX,Zg,Zh];refine lX (i:=15) (v:= ?v15) zo rfl zk zk zk (fun _ _ _ h=>h) (Or.inl ⟨zt,?hy15⟩) aa ?rest15
 case hy15=>(intro w' _;go_simp;try with_reducible rfl)
 simp only [Act.put,uX,Zg,Zh];refine mY (i:=16) zk rfl (fun K hK=> ?_);go_simp;refine hK _ _ (.inl ?s16) ?n16
 case s16=>
  have cG:=fun o=>uV (a:=(qA B o)) (uT w4 (.cells #[qI t,qI b,qI l8,qI other,.string name,qI 0,qI 0,.string ⟨#[]⟩] 348) B hBl)
  exact ⟨(cG 0).trans c0,(cG 1).trans c1,(cG 4).trans c4,(cG 5).trans c5,(cG 6).trans c6,t1a _⟩
 refine mY (i:=17) zk rfl (fun K hK=> ?_);go_simp;refine (hxw _ rfl).mono ?_;rintro e w5 ⟨g',cap',rfl,H5,u1,u2,u3⟩;refine hK _ _ (.inl u3) ?_;refine qn ?_;refine lX (i:=18) (v:= ?v18) zo rfl zk zk zk (fun _ _ _ h=>h) (Or.inl ⟨zt,?hy18⟩) u3 ?rest18
 case hy18=>(intro w' _;go_simp;try with_reducible rfl)
 refine qn ?_;refine lX (i:=19) (v:= ?v19) zo rfl zk zk zk (fun _ _ _ h=>h) (Or.inl ⟨zt,?hy19⟩) u3 ?rest19
 case hy19=>(intro w' _;go_simp;try with_reducible rfl)
 refine qn ?_;refine mY (i:=20) zk rfl (fun K hK=> ?_);go_simp;refine hK _ _ (.inr ⟨rfl,zo⟩) ?_;refine ma zk ?_ _;obtain ⟨w6,gj⟩:=za (w5.setCell (qA bt 1) (qG g' (ms.length+1) cap'));rw [<-gj];have jA:=H5.o.2.1;have hT5:t8 w5 bt bm v:=(jA.block bt jK.lt (fun e=>(iE bt e.symm).1 rfl)).trans jK;have hM5:=hM4.same (jA.block bm hM4.lt (fun e=>(iE bm e.symm).2.1 rfl));have hgbt:=tu H5.o.1 hT5;have hgbm:=rU H5.o.1 hM5
 have fw:m7 (fun k=>k=bt) w5 w6:=by rw [gj];exact lZ bt [_] 1 w5
 have hT6:t8 w6 bt bm (qG g' (ms.length+1) cap'):=by rw [gj];exact heap_setCell_same w5 bt 1 _ _ _ hT5
 have hM6:=hM5.same (fw.block bm hM5.lt (fun e=>ke e.symm));have hgl5:=(H5.o.1.lt g' rfl).2;have hR6:=wZ H5.o.1 (fw.block g' hgl5 hgbt);have hlen':(si ms i ((t,b),(l8,other,name))).length=ms.length+1:=Ge _ _ _;have hL6:=VE (m:=((t,b),(l8,other,name))) hL bl mM
 have fx:∀m∈si ms i ((t,b),(l8,other,name)),P1 m.2:=fun m hm=>by
  rcases uZ.1 ((AL ms i _).mem_iff.1 hm) with rfl | hm
  ·exact GR dI
  exact H3.o.2.1.Y5 m hm
 have hdo:=zc6 w6 bt bm l9 g' cap' i (nn+(ms.length - i)) (RL L i (((t,b),(l8,other,name)),mM)) (si ms i ((t,b),(l8,other,name))) (by rw [hlen'];exact hT6) (by rw [hlen'];exact hR6) hL6 (by rw [NV bl];exact hM6) fx zj zj zj
 have hKF:Aside (m7 (fun k=>k=bt\/k=bm\/some k=v.ownBlock) w w6/\t8 w6 bt bm (qG g' (ms.length+1) cap')/\(some g'=v.ownBlock\/w.heap.size<=g')/\g'≠bt/\bm≠bt/\bt<w6.heap.size):=
  ⟨(hK4.then jA (fun _ _ e=>.inr (.inr e))).then fw (fun _ _ e=>.inl e),hT6,H5.o.2.2.imp id (fun h=>by have:=hK4.size;omega),hgbt,fun e=>ke e.symm,hT6.lt⟩
 have hHi:Aside (ml (si ms i ((t,b),(l8,other,name)))/\(∀m∈si ms i ((t,b),(l8,other,name)),P1 m.2)):=⟨UN H3.o.2.1.o8 H3.o.2.2.2.2.1 H3.o.2.2.2.2.2,fx⟩
 clear gj jA hT5 hM5 hgbt hgbm fw hT6 hM6 hgl5 hR6 hL6 H5 u1 u2 u3 hxw c0 c1 c2 c3 c4 c5 c6 c7 t1 z1 t1a fx hK4 hR4 jK hM4 hk4 hB4;go_wp2_with fail;refine hdo.mono ?_;rintro e w7 ⟨⟨u',rfl⟩,L',n',hL',hown',hM',hn',hk'⟩
 have iO:Aside (∃v' ms',I9 l9 w7 bt bm v' ms'/\ms'.Perm (((t,b),(l8,other,name))::ms)/\m7 (fun k=>k=bt\/k=bm\/some k=v.ownBlock) w w7/\(v'.ownBlock=v.ownBlock\/∀g,v'.ownBlock=some g->w.heap.size<=g)):=by
  have hgn:=hKF.o.2.2.2.1;refine ⟨qG g' (ms.length+1) cap',si ms i ((t,b),(l8,other,name)),⟨?_,⟨L',hL',by rw [hlen'] at hown' |-;exact hown'⟩,⟨n',zj,hM'⟩,hHi.o.1,hHi.o.2⟩,AL _ _ _,?_,?_⟩
  ·exact (hk'.block bt hKF.o.2.2.2.2.2 (fun e=>e.elim (fun e=>hKF.o.2.2.2.2.1 e.symm) (fun e=>hgn e.symm))).trans hKF.o.2.1
  ·refine hKF.o.1.then hk' (fun k hk e=> ?_)
   rcases e with e | e
   ·exact .inr (.inl e)
   rcases hKF.o.2.2.1 with h | h
   ·exact .inr (.inr (by rw [e];exact h))
   omega
  rcases hKF.o.2.2.1 with h | h
  ·exact .inl h
  exact .inr (fun g hg=>by cases hg;exact h)
 go_wp2;go_ret;exact ⟨rfl,iO.o⟩
end
section
open RowKit
open scoped Classical
structure EH (c:Nat->Nat) (i:Nat) (w:qW) (c':Nat->Nat) (w':qW):Prop where
 block:∀k,k<w.heap.size->c k=i->w'.heap[k]? =w.heap[k]?
 B9:∀k,k<w.heap.size->c' k=c k
def ni(nd:Int):Nat:=20+nd.toNat
def n7(w:qW)(br:Nat)(T o8:Int)(kv:Nat->Value)(bt bx bc:Nat):Prop:=w.heap[br]? =some (.cells #[qI T,qI o8,kv 0,kv 1,kv 2,kv 3,qP bt,.map (some bx),qP bc] 140 (0,0))
theorem n7.lt{w}{br}{T o8}{kv}{bt bx bc}(h:n7 w br T o8 kv bt bx bc):br<w.heap.size:=(uN.1 h).1
theorem n7.same{w w'}{br}{T o8}{kv}{bt bx bc}(h:n7 w br T o8 kv bt bx bc)(e:w'.heap[br]? =w.heap[br]?):n7 w' br T o8 kv bt bx bc:=e.trans h
theorem n7.c0{w}{br}{T o8}{kv}{bt bx bc}(h:n7 w br T o8 kv bt bx bc):w.cell? (qB br)=some (qI T):=zV
theorem n7.c1{w}{br}{T o8}{kv}{bt bx bc}(h:n7 w br T o8 kv bt bx bc):w.cell? (qA br 1)=some (qI o8):=zV
theorem n7.c2{w}{br}{T o8}{kv}{bt bx bc}(h:n7 w br T o8 kv bt bx bc):w.cell? (qA br 2)=some (kv 0):=zV
theorem n7.c3{w}{br}{T o8}{kv}{bt bx bc}(h:n7 w br T o8 kv bt bx bc):w.cell? (qA br 3)=some (kv 1):=zV
theorem n7.c4{w}{br}{T o8}{kv}{bt bx bc}(h:n7 w br T o8 kv bt bx bc):w.cell? (qA br 4)=some (kv 2):=zV
theorem n7.c5{w}{br}{T o8}{kv}{bt bx bc}(h:n7 w br T o8 kv bt bx bc):w.cell? (qA br 5)=some (kv 3):=zV
theorem n7.c6{w}{br}{T o8}{kv}{bt bx bc}(h:n7 w br T o8 kv bt bx bc):w.cell? (qA br 6)=some (qP bt):=zV
theorem n7.c7{w}{br}{T o8}{kv}{bt bx bc}(h:n7 w br T o8 kv bt bx bc):w.cell? (qA br 7)=some (.map (some bx)):=zV
theorem n7.c8{w}{br}{T o8}{kv}{bt bx bc}(h:n7 w br T o8 kv bt bx bc):w.cell? (qA br 8)=some (qP bc):=zV
theorem n7.fz{w}{br}{T o8}{kv}{bt bx bc}(h:n7 w br T o8 kv bt bx bc)(o):w.frozen? (qA br o)=false:=by unfold n7 at h;simp [World.frozen?,h]
def E6(w:qW)(c:Nat->Nat)(kv:Nat->Value)(R:Rws):Prop:=∀i,i<4->w.ownsRow 0 88 8 (kv i) (R i).length (cellsOf (R i))/\∀g,(kv i).ownBlock=some g->c g=10+i
theorem E6.one{w w'}{c c'}{kv}{R}(h:E6 w c kv R){i}(hi:i<4)(hk:EH c (10+i) w c' w'):w'.ownsRow 0 88 8 (kv i) (R i).length (cellsOf (R i))/\∀g,(kv i).ownBlock=some g->c' g=10+i:=by
 obtain ⟨h1,h2⟩:=h i hi;refine ⟨oZ h1 (fun g hg=>hk.block g (h1.lt g hg).2 (h2 g hg)),fun g hg=> ?_⟩;rw [hk.B9 g (h1.lt g hg).2];exact h2 g hg
theorem E6.kept{w w'}{c c'}{kv}{R}(h:E6 w c kv R)(hk:∀i,i<4->EH c (10+i) w c' w'):E6 w' c' kv R:=fun i hi=>h.one hi (hk i hi)
theorem E6.ops{w}{c}{kv}{R}(h:E6 w c kv R){i}(hi:i<4):N5 w (kv i) (R i):=Cx (h i hi).1
def aal(w:qW)(c:Nat->Nat)(bt:Nat)(A:qX):Prop:=∃bm v ms,I9 0 w bt bm v ms/\ms.Perm (pu A)/\c bt=2/\c bm=2/\∀g,v.ownBlock=some g->c g=2
theorem aal.kept{w w'}{c c'}{bt}{A}(h:aal w c bt A)(hk:EH c 2 w c' w'):aal w' c' bt A:=by
 obtain ⟨bm,v,ms,h1,h2,h3,h4,h5⟩:=h;obtain ⟨l1,l2,l3⟩:=h1.lt;exact ⟨bm,v,ms,h1.same (hk.block _ l1 h3) (hk.block _ l2 h4) (fun g hg=>hk.block g (l3 g hg) (h5 g hg)),h2,(hk.B9 _ l1).trans h3,(hk.B9 _ l2).trans h4,fun g hg=>(hk.B9 g (l3 g hg)).trans (h5 g hg)⟩
def aas(w:qW)(c:Nat->Nat)(p:Nat)(nd:Int)(A:qX):Prop:=∃v L,B6 (p+1) w p v L/\u9 A nd L/\c p=ni nd/\∀g,v.ownBlock=some g->c g=ni nd
theorem B6.kin{l9}{w}{p}{v}{L}(h:B6 l9 w p v L){g}(hg:v.ownBlock=some g):g<w.heap.size:=(h.row.lt g hg).2
theorem aas.kept{w w'}{c c'}{p}{nd}{A}(h:aas w c p nd A)(hk:EH c (ni nd) w c' w'):aas w' c' p nd A:=by
 obtain ⟨v,L,h1,h2,h3,h4⟩:=h;refine ⟨v,L,⟨(hk.block p h1.lt h3).trans h1.cell,FI h1.row (fun g hg=>hk.block g (h1.kin hg) (h4 g hg)),h1.low,h1.I7,h1.pos,h1.aaq⟩,h2,(hk.B9 _ h1.lt).trans h3,fun g hg=>(hk.B9 g (h1.kin hg)).trans (h4 g hg)⟩
def P0(w:qW)(c:Nat->Nat)(bx:Nat)(A:qX):Prop:=∃n tx,n<=A.length/\I6 w bx n tx/\c bx=3/\(∀nd,(tx nd).isSome=true↔m9 A nd)/\∀nd p,tx nd=some p->aas w c p nd A
theorem P0.kept{w w'}{c c'}{bx}{A}(h:P0 w c bx A)(hk:EH c 3 w c' w')(hl:∀nd,m9 A nd->EH c (ni nd) w c' w'):P0 w' c' bx A:=by
 obtain ⟨n,tx,h1,h2,h3,h4,h5⟩:=h;exact ⟨n,tx,h1,h2.same (hk.block _ h2.lt h3),(hk.B9 _ h2.lt).trans h3,h4,fun nd p hp=>(h5 nd p hp).kept (hl nd ((h4 nd).1 uf))⟩
def R9(w:qW)(c:Nat->Nat)(bc:Nat)(A:qX):Prop:=∃cm A',E9 w bc cm A.length (rj A')/\A'.Perm A/\c bc=4/\c cm=4
theorem R9.kept{w w'}{c c'}{bc}{A}(h:R9 w c bc A)(hk:EH c 4 w c' w'):R9 w' c' bc A:=by
 obtain ⟨cm,A',h1,h2,h3,h4⟩:=h;exact ⟨cm,A',h1.same (hk.block _ h1.lt.1 h3) (hk.block _ h1.lt.2 h4),h2,(hk.B9 _ h1.lt.1).trans h3,(hk.B9 _ h1.lt.2).trans h4⟩
structure I2 (w:qW) (c:Nat->Nat) (br:Nat) (T o8:Int) (kv:Nat->Value) (bt bx bc:Nat) (R:Rws) (A:qX):Prop where
 cell:n7 w br T o8 kv bt bx bc
 B9:c br=1
 D6:E6 w c kv R
 Z8:aal w c bt A
 P9:P0 w c bx A
 P5:R9 w c bc A
 time:oA A T
theorem I2.kept{w w'}{c c'}{br}{T o8}{kv}{bt bx bc}{R}{A}(h:I2 w c br T o8 kv bt bx bc R A)(hk:∀i,i≠0->EH c i w c' w'):I2 w' c' br T o8 kv bt bx bc R A:=by
 have k1:=hk 1 zj;exact ⟨h.cell.same (k1.block _ h.cell.lt h.B9),(k1.B9 _ h.cell.lt).trans h.B9,h.D6.kept (fun i _=>hk _ zj),h.Z8.kept (hk 2 zj),h.P9.kept (hk 3 zj) (fun nd _=>hk _ yl),h.P5.kept (hk 4 zj),h.time⟩
theorem I2.later{w w'}{c}{br}{T o8}{kv}{bt bx bc}{R}{A}(h:I2 w c br T o8 kv bt bx bc R A)(hb:qL w w'):I2 w' c br T o8 kv bt bx bc R A:=
 h.kept (fun i _=>⟨fun k hk _=>hb.block k hk,fun k _=>rfl⟩)
def L0(w:qW)(c:Nat->Nat)(br:Nat)(o8:Int)(R:Rws):Prop:=∃T kv bt bx bc A,I2 w c br T o8 kv bt bx bc R A/\A.Perm (lY R)/\t7 R/\0<=o8/\o8<4
theorem L0.kept{w w'}{c c'}{br}{o8}{R}(h:L0 w c br o8 R)(hk:∀i,i≠0->EH c i w c' w'):L0 w' c' br o8 R:=by
 obtain ⟨T,kv,bt,bx,bc,A,h1,h2⟩:=h;exact ⟨T,kv,bt,bx,bc,A,h1.kept hk,h2⟩
theorem L0.later{w w'}{c}{br}{o8}{R}(h:L0 w c br o8 R)(hb:qL w w'):L0 w' c br o8 R:=
 h.kept (fun i _=>⟨fun k hk _=>hb.block k hk,fun k _=>rfl⟩)
structure M5 (w:qW) (c:Nat->Nat) (w':qW) (c':Nat->Nat):Prop where
 L5:m7 (fun k=>c k≠0) w w'
 B9:∀k,k<w.heap.size->c' k=c k
theorem M5.y{w w'}(c)(hb:qL w w'):M5 w c w' c:=⟨(lW hb).mono (fun k hk e=>absurd hk zj),fun _ _=>rfl⟩
theorem M5.trans{w w1 w2}{c c1 c2}(h:M5 w c w1 c1)(k:M5 w1 c1 w2 c2):M5 w c w2 c2:=
 ⟨h.L5.then k.L5 (fun i hi e=>by rw [h.B9 i hi] at e;exact e),fun i hi=>(k.B9 i (uY hi h.L5.size)).trans (h.B9 i hi)⟩
theorem RN{A}{o}(h:kdO o≠109):pu (o::A)=pu A:=by
 unfold pu;exact List.filterMap_cons_none (if_neg h)
theorem Of{A}{o}(h:kdO o=109):pu (o::A)=((o.1,o.2.1),(mU o,mT o,o.2.2.2.2.2.2.1))::pu A:=by
 unfold pu;exact List.filterMap_cons_some (if_pos h)
theorem aal.skip{w}{c}{bt}{A}(h:aal w c bt A){o}(ho:kdO o≠109):aal w c bt (o::A):=by
 obtain ⟨bm,v,ms,h1,h2,h3⟩:=h;exact ⟨bm,v,ms,h1,by rw [RN ho];exact h2,h3⟩
theorem KR{A}{o}(h:H9 A o){ms:List Mov}(hp:ms.Perm (pu A)):∀m∈ms,m.1≠(o.1,o.2.1):=fun m hm e=>by
 obtain ⟨x,hx,q⟩:=Yr.1 (hp.mem_iff.1 hm);unfold zbm at q;split at q
 ·cases q
  exact h.GA x hx e
 cases q
theorem R9.skip{w}{c}{bc}{A}(h:R9 w c bc A){o}(ho:kdO o≠115):R9 w c bc (o::A):=by
 obtain ⟨cm,A',h1,h2,h3⟩:=h;refine ⟨cm,A'++ [o],?_,(Ys).trans (h2.cons o),h3⟩;rw [Dc];unfold Gw;rw [if_neg (fun q=>ho q.2)];exact h1.mono zq
theorem R9.set{w w'}{c}{bc}{A A'}{cm}{o}(h2:A'.Perm A)(h3:c bc=4/\c cm=4)(h:WV w bc cm A.length (rj A') o w'):R9 w' c bc (o::A):=
 ⟨cm,A'++ [o],by rw [Dc];exact h.1,(Ys).trans (h2.cons o),h3⟩
theorem P0.skip{w}{c}{bx}{A}(h:P0 w c bx A){o}(ho:kdO o≠105/\kdO o≠100)(hn:¬(kdO o=109/\mU o=idO o)):P0 w c bx (o::A):=by
 obtain ⟨n,tx,h1,h2,h3,h4,h5⟩:=h;refine ⟨n,tx,zl,h2,h3,fun nd=>(h4 nd).trans ?_,fun nd p hp=> ?_⟩
 ·grind [Ao]
 obtain ⟨v,L,k1,k2,k3⟩:=h5 nd p hp;exact ⟨v,L,k1,k2.skip (fun q=>q.2.elim ho.1 ho.2),k3⟩
theorem rs{A}(hA:∀x∈A,mz x=0){nd}(h:m9 A nd):4<=nd:=by
 obtain ⟨x,hx,_,_,e⟩:=h;have:=zc8 (hA x hx);omega
theorem za6{a b}(ha:0<=a)(hb:0<=b)(h:ni a=ni b):a=b:=by unfold ni at h;omega
end
section
open Shelf RowKit Lib Go.Sort Maps
open scoped Classical
theorem QU{α:Type}{P}{enc:α->List Value}{k}{S T}{z}{bytes}(hS:P.underlying S=some (.slice T))(bX:(P.info? T).map (fun i=>(i.zero,i.size,i.bytes))=some (some z,k,bytes))(hb1:bytes<=1000)(iW:0<k)(hzc:z.cells.size=k)(hlen:∀x,(enc x).length=k)(eG:∀x,∀v∈enc x,v.oneCell'=true)
  {wr w1} {B n} {v} {xs} (h:wr.ownsRow B T k v n xs) (hB:B<=wr.heap.size) (hb:qL wr w1) (e) (hn:n<=1000) (ty):
  ∃v' w3,(Builtin.append_ #[S,S] ty #[v,qG w1.heap.size 1 1]).run P (w1.alloc (.cells (enc e).toArray T))= .ok v' w3/\Aside (w3.ownsRow B T k v' (n+1) (xs++enc e)/\(∀q,q<w1.heap.size->v.ownBlock≠some q->w3.heap[q]? =w1.heap[q]?)/\w1.heap.size<=w3.heap.size/\Below B wr w3):=by
 have hrow:(w1.alloc (.cells (enc e).toArray T)).ownsRow B T k v n xs:=by
  refine mE h (fun q hq=> ?_);have:=(h.lt q hq).2;rw [uT _ _ _ vO,hb.block q this]
 have ar:N7 enc (w1.alloc (.cells (enc e).toArray T)) (qS w1.heap.size) [e]:=by
  refine .inr ⟨w1.heap.size,0,rfl,fun j u hj=> ?_⟩;have hn:=heap_alloc_new w1 (.cells (enc e).toArray T);exact ki9
 obtain ⟨v',w3,ae,hown,fh⟩:=oR (enc:=enc) (k:=k) (S:=S) (T:=T) hS bX hb1 iW hzc hlen eG hrow zj (by rw [Zv];have:=hb.size;omega) (qS w1.heap.size) 1 [e] zq ar (fun q=>xQ) ty;have cu:qL wr (w1.alloc (.cells (enc e).toArray T)):=hb.alloc hb.size _;refine ⟨v',w3,ae,?_,fun q hq hne=> ?_,?_,?_⟩
 ·simpa [mN] using hown
 ·rw [fh.block q yM (fun q'=>hne q'.symm),uT _ _ _ hq]
 ·have:=fh.size;rw [Zv] at this;omega
 exact (cu.mono hB).grown fh (by have:=cu.size;omega) (fun q hq=>(h.lt q hq).1)
end
section
open RowKit Shelf Maps
open scoped Classical
attribute [local go_sem] Oper.semAt_some
def aaM(f:Sta)(ps:List Plc):Prop:=(ps.map (·.1)).Nodup/\∀p,p∈ps↔f p.1=some p
theorem aaM.abW{f}{ps qs}(h:aaM f ps)(hp:qs.Perm ps)(hs:qs.Pairwise (fun a b=>¬b.1<a.1)):D4 f qs:=by
 refine ⟨?_,fun p=>(hp.mem_iff).trans (h.2 p)⟩;have hn:=(hp.map _).nodup_iff.2 h.1;have hn':=YE.1 hn;exact (hs.and hn').imp (fun {a b} h=>zj)
def aay(D:DataW Unit)(f:Sta)(left:Lit->Bool)(ps:List Plc):Prop:=
 (ps.map (·.1)).Nodup/\(∀p∈ps,f p.1=some p/\left (.int .i64 p.1)=false)/\∀k,Wf k->has D (.int .i64 k)=true->left (.int .i64 k)=false->k∈ps.map (·.1)
theorem IU(D)(f):aay D f (has D) []:=⟨YZ,fun p hp=>by simp at hp,fun k _ h1 h2=>zM⟩
theorem Bv(a b):Lit.sameKey (.int .i64 a) (.int .i64 b)=decide (a=b):=by
 by_cases h:a=b
 ·subst h;rw [WideAt.sameKey_self (show WideAt.IsKeyLit (.int .i64 a) from trivial)];simp
 rw [sameKey_ne (DY h)];simp [h]
theorem aay.K8{D}{f}{left}{ps}(h:aay D f left ps){x}{c}(hl:left (.int .i64 x)=true)(hf:f x=some c)(hk:c.1=x):aay D f (fun z=>left z && !z.sameKey (.int .i64 x)) (ps++ [c]):=by
 obtain ⟨h1,h2,h3⟩:=h;refine ⟨?_,fun p hp=> ?_,fun k hw hh cq=> ?_⟩
 ·rw [Zz,ZM];refine ⟨h1,zq,fun a ha b hb=> ?_⟩;simp only [ZR,Yu,Zc] at hb;subst hb;intro e;obtain ⟨p,hp,rfl⟩:=Zm.1 ha;have:=(h2 p hp).2;rw [e,hk,hl] at this
  cases this
 ·rcases uU.1 hp with hp | hp
  ·have:=h2 p hp;exact ⟨this.1,by show (left (.int .i64 p.1) &&_)=false;rw [this.2];rfl⟩
  simp only [Zc] at hp;subst hp;refine ⟨by rw [hk];exact hf,?_⟩
  show (left (.int .i64 p.1) && !Lit.sameKey (.int .i64 p.1) (.int .i64 x))=false
  rw [hk,Bv];simp
 grind [Bv,Zo]
theorem aay.all{D}{f}{left}{ps}(h:aay D f left ps)(hr:J6 D f)(G:AV f)(hl:∀kl,left kl=false):aaM f ps:=by
 refine ⟨h.1,fun p=>⟨fun hp=>(h.2.1 p hp).1,fun hp=> ?_⟩⟩;have hw:=zcE G hp;have hm:=h.2.2 p.1 hw (by rw [hr.has hw,hp];rfl) (hl _);obtain ⟨q,hq,e⟩:=Zm.1 hm;have:=(h.2.1 q hq).1
 simp_all
theorem zbi{D}{f}(hr:J6 D f)(G:AV f){x}{c}(hw:Wf x)(aI:∀zd,D.atKey (.int .i64 x) zd=dat c):f x=some c/\c.1=x:=by
 have hh:=hr.has hw;rw [has_true_of_atKey aI] at hh
 cases hf:f x with
 | none=>simp_all
 | some p=>
  have:=hr.some hw hf .nil;rw [aI] at this;rw [IM this];exact ⟨rfl,G.T9 x p hf⟩
theorem Lt(F)(n)(h8:F.fn 241)(cO:F.round=none)(hn:1<=n)(l Bm b nn)(D0)(f)(hr:J6 D0 f)(G:AV f)(J Jx:List Plc->World->Prop)
  (hY:∀pre x W,J pre W->pre.length<nn->YieldAt F (n - 1) prog l #[pS x] W fun e W'=>
   (e= .returned (.bool true)/\J (pre++ [x]) W'/\KeepsWalks W W')\/(e= .returned (.bool false)/\Jx (pre++ [x]) W'))
  (W) (hJ:AbidesFrom W.heap.size J) (hm:W.cell? ⟨Bm,0,none⟩=some (.map (some b))) (hown:W.ownsMap prog 3 XQ b nn D0) (h0:J [] W):
  CallsIn F n prog 241 #[.func (.yield l) #[] #[],.pointer (some ⟨Bm,0,none⟩)] W fun e W'=>(∃v,e= .returned v)/\
   ((∃xs,aaM f xs/\J xs W')\/(∃pre,True/\Jx pre W')):=by
 refine callsIn_of_wp func241 rfl h8 ?_ cO;simp only [ntmps241,Zn,Zd,Zt,Nat.reduceAdd,Nat.reduceSub,Zx,Zy,ZH,ZC,ZE,ZI];have bO:=hown.size_le
 gi_wp2_with (first
  | (gi_at_range;refine wpListIn_range_own _ rfl _ 185 rfl 3 212 (int_keyed underlying3) underlying185 _ b nn _ rfl hown ?_;intro w0 dX hg0 fP)
  | gi_in)
 go_frame
 gi_loopw [4] (fun _ wr=>∃(left:Lit->Bool) (eW:Nat) (ps:List Plc),wr.ranges prog 3 XQ b W.heap.size nn D0 left eW/\ps.length+eW<=nn/\aay D0 f left ps/\J ps wr)
  (fun _ wr=>wr.rangeLeft b W.heap.size)
 case atStart=>
  exact ⟨_,_,[],dX,by simpa using bO,IU D0 f,hJ [] W w0 none h0 hg0 (fun r e=>yN)⟩
 case round=>
  obtain ⟨left,eW,ps,fT,hcs,hC,jd⟩:=hrel
  gi_wp2_with (first
   | (gi_at_next;refine wpListIn_next_ranges _ rfl _ rfl 3 (int_keyed underlying3) XQ (Value.int .i64) pS (fun T9 kl hk=>ue) (fun v y hv=>by grind [BD]) b W.heap.size nn _ _ _ rfl fT ?_ ?_)
   | gi_in)
  ·exact km3
  intro x c1 c2 c3 kl yd yp w2 bd eL cq hv aI dW hlt hg2 aN iC;obtain ⟨x',ex,rfl,gE⟩:=Maps.keyOf_int_inv underlying3 eL
  obtain rfl:x=x':=by simpa using ex
  obtain ⟨c',ec,ez⟩:=BD hv;obtain rfl:(c1,c2,c3)=c':=Uu ec;obtain rfl:yd=dat (c1,c2,c3):=(Prod.mk.inj ez).1;obtain ⟨hfx,hcx⟩:=zbi hr G gE aI;have hcx:c1=x:=hcx;subst hcx;have hJ2:=hJ ps wr w2 (some W.heap.size) jd hg2 (fun r e=>vK);have hJ3:J ps (w2.alloc (.cells #[.int .i64 c1,.int .i64 c2,.string c3] 212)):=hJ ps w2 _ none hJ2 (YK w2 _ none) (fun r e=>yN);obtain ⟨fn,tmps,assign,body,hy,hR⟩:=hY ps (c1,c2,c3) _ hJ3 zj;unfold pS at hy iC;dsimp only at hy iC;have jl:=dW.alloc (.cells #[.int .i64 c1,.int .i64 c2,.string c3] 212);have kS:=hC.K8 cq hfx rfl;have H3:Aside (RoundIn F (n - 1) prog l fn tmps assign body _ _):=hR;clear aN hR hJ2 hJ3;unfold pS;dsimp only;gi_wp2;refine RoundIn.mono H3.o ?_;rintro e W3 (⟨rfl,hJ4,hk4⟩ | ⟨rfl,hJx4⟩)
  ·gi_wp2;have dV:=jl.of_walks hk4;go_roundw
   case rel=>exact ⟨_,bd,ps++ [(c1,c2,c3)],dV,zl,kS,hJ4⟩
   case measure=>rw [dV.left_eq,fT.left_eq];exact hlt
  gi_wp2;refine bodyPost_ret (results_none rfl _ _ _) rfl ?_
  grind
theorem RQ(F)(n)(hf:F.fn 176)(cO:F.round=none)(mb)(w):
  CallsIn F n prog 176 #[.map mb] w fun e w'=>e= .returned (.func (.func 241) #[] #[qP w.heap.size])/\w'=w.alloc (.cells #[.map mb] 185):=by
 refine callsIn_of_wp func176 rfl hf ?_ cO;simp only [ntmps176,Zn,Zd,Zt,Nat.reduceAdd,Nat.reduceSub,Zx,Zy,ZH,ZC,ZE,ZI];gi_wp2;go_ret;exact kh6
theorem Fm(F)(n)(h8:F.fn 241)(cO:F.round=none)(hn:1<=n)(Bm b nn)(f)(G:AV f)(w)(eU:Bm<w.heap.size)(hm:w.cell? (qB Bm)=some (.map (some b)))(hM:sE prog 3 w b nn f):
  SeqStopsK F n prog 241 #[qP Bm] (fun x:Plc=> #[pS x]) KeepsWalks (fun xs=>aaM f xs) (fun _=>True) nn w:=fun l J Jx W hW hJ _ hY h0=>by
 have cG:=hM.lt;obtain ⟨D,hown,hr⟩:=hM.same (hW.block b cG);exact Lt F n h8 cO hn l Bm b nn D f hr G J Jx hY W hJ ((hW.cell (p:=(qB Bm)) eU).trans hm) hown h0
end
section
open RowKit Shelf Maps
attribute [local go_sem] Oper.semAt_some
theorem WA:(prog.info? 212).map (fun i=>(i.zero,i.size,i.bytes))=some (some (.agg #[qI 0,qI 0,.string ⟨#[]⟩]),3,32):=zk
theorem NW(w:qW)(p)(j)(u)(hj:(mW p)[j]? =some u):(w.alloc (.cells #[qI p.1,qI p.2.1,.string p.2.2] 212)).cell? (((qB w.heap.size):Addr).add j)=some u:=by
 simp_all [Addr.add_lit,Ze,heap_alloc_new,mW]
theorem FQ(w)(Bm b nn)(f)(G:AV f)(eU:Bm<w.heap.size)(hm:w.cell? ⟨Bm,0,none⟩=some (.map (some b)))(hM:sE prog 3 w b nn f)(dJ:nn<=2000000):
  Calls prog 292 #[.slice none 0 0,.func (.func 241) #[] #[.pointer (some ⟨Bm,0,none⟩)]] w fun e w'=>∃v ps,e= .returned v/\aaM f ps/\ps.length<=nn/\w'.ownsRow w.heap.size 212 3 v ps.length (mN mW ps)/\Below w.heap.size w w':=by
 obtain ⟨i0,hi,aD,aw,aJ⟩:=info_parts WA;refine (callsIn_wide (n:=4)).1 ?_;refine callsIn_of_wp_marks func292 rfl trivial ?_ rfl;simp only [ntmps292,Zn,Zd,Zt,Nat.reduceAdd,Nat.reduceSub,Zx,Zy,ZH,ZC,ZE,ZI];gi_wp2;obtain ⟨w1,hw1⟩:=za (w.alloc (.cells #[.slice none 0 0] 209));rw [<-hw1];have cg:Below w.heap.size w w1:=qa;have aG:w1.heap.size=w.heap.size+1:=xY;obtain ⟨B,hB⟩:=za w.heap.size;have e1:Boxed w1 B 209 (.slice none 0 0):=xe
 rw [<-hB] at cg aG eU |-
 have HB:Aside (B=w.heap.size):=hB;have bI:B<=w.heap.size:=zj;clear hB;have hm1:=(cg.cell (p:=⟨Bm,0,none⟩) eU).trans hm;have cM:=hM.same (cg.block b (by have:=HB.o;have:=hM.lt;omega));clear hw1 hm hM
 refine wpIn_rangeFunc_ownH rfl zj (gf:=241) (lb:= #[.pointer (some ⟨Bm,0,none⟩)]) rfl trivial (enters_of func241 zk rfl)
  (Fm Fence.wide (4 - 1) trivial rfl zj Bm b nn f G w1 zj hm1 cM) walksK_t (walksK_b (w:=w1)) (uO _ _) (fun _=>rfl)
  (fun pre W=>((∃v,Boxed W B 209 v/\W.ownsRow B 212 3 v pre.length (mN mW pre)/\pre.length<=nn))/\(w1.heap.size<=W.heap.size/\Below B w W))
  (fun _ _ _=>False)
  (OwnFrom.and (Own.from (holdsRow_own B B 209 212 3 (fun pre=>pre.length) (fun pre=>mN mW pre) (fun pre _=>pre.length<=nn)) _) (OwnFrom.and (fun _ X Y row hs hg _=>uQ hs hg.size) (ownFrom_below zj zj)))
  (fun _ _ _ _ _ hs _ _=>hs)
  ⟨⟨_,e1,Zk w1 B _ _,uW _⟩,uM _,cg⟩
  (fun x a' W=>∃Bx,w1.heap.size<=Bx/\x9 W Bx x/\a'= {tmps:= #[.slice none 0 0,.func (.func 241) #[] #[.pointer (some ⟨Bm,0,none⟩)],.pointer (some ⟨B,0,none⟩),undef,.slice none 0 0,.pointer (some ⟨Bx,0,none⟩),.func (.func 241) #[] #[.pointer (some ⟨Bm,0,none⟩)],.agg #[.int .i64 x.1,.int .i64 x.2.1,.string x.2.2],undef,undef,undef,undef,undef],defers:=[]})
  (fun x a'=>Own.from (fun _ X Y row hs hg hr=>zZ) _)
  ?assign ?body ?done ?stop
 case assign=>
  rintro l pre x W K ⟨⟨v,hv,hrow,hpl⟩,hsz,hBW⟩ hK;have df:Aside _:=hK;have bN:B<=W.heap.size:=zj;clear hK;unfold pS;gi_wp2;refine df.o _ _ ((KeepsOthers.alloc _ _).from _) (KeepsOthers.alloc _ _).walks ⟨⟨v,hv.alloc _,hrow.alloc _,hpl⟩,zl,hBW.alloc bN _⟩ ⟨W.heap.size,zj,heap_alloc_new W _,rfl⟩
 case body=>
  rintro l pre x a' W hl _ ⟨⟨v,hv,hrow,hpl⟩,hsz,hBW⟩ ⟨Bx,hBx,hE,rfl⟩ hlt;have g1:=hv.cell;have f0:=hE.c0;have f1:=hE.c1;have f2:=hE.c2;have bN:B<=W.heap.size:=zj;gi_wp2_with (gi_at_builtin;refine wpListIn_append_own _ rfl _ _ 209 rfl B 212 i0 _ 3 32 underlying209 hi aD aw aJ rfl zj _ _ _ rfl (hrow.alloc _) ⟨W.heap.size,0,none⟩ 1 1 (mW x) rfl rfl (NW W x) (sF x) zB zj zl ?_;intro v' w2 hown' ag _;obtain ⟨g',cap',rfl⟩:=ownsRow_succ hown';obtain ⟨gk,dh,hr2,hk2,hb2⟩:=hv.appended zo hrow bN zg hown' ag;have hc1:=gk.cell;have jD:=gk.frozen);exact ⟨hk2.from _,hk2.walks,⟨⟨_,dh,by rw [uS,ZO,nS];simpa [mN] using hr2,zl⟩,uq,hBW.trans hb2⟩⟩
 case done=>
  rintro D ys W hD hall ⟨⟨v,hv,hrow,hpl⟩,hsz,hBW⟩ hK;have g1:=hv.cell;gi_wp2;refine ⟨zq,.inl ⟨_,_,rfl,run_takeDeferred hK,?_⟩⟩;refine ⟨v,by simp [results,f292,go_sem],v,ys,rfl,hall,hpl,?_,?_⟩
  ·exact km4
  exact ke6
 case stop=>
  rintro D c pre W _ _ h _;exact h.elim
def M9(w:qW)(v:Value)(qs:List Plc):Prop:=(v=qE/\qs= [])\/∃g cap,v=qG g qs.length cap/\g<w.heap.size/\∀j u,(mN mW qs)[j]? =some u->w.cell? (qA g j)=some u
theorem M9.later{w w'}{v}{qs}(h:M9 w v qs)(hb:qL w w'):M9 w' v qs:=by
 rcases h with h | ⟨g,cap,h1,h2,h3⟩
 ·exact .inl h
 exact .inr ⟨g,cap,h1,uY h2 hb.size,fun j u hj=>(hb.cell (p:=(qA g j)) h2).trans (h3 j u hj)⟩
theorem Id(w)(Bm b nn)(f)(G:AV f)(eU:Bm<w.heap.size)(hm:w.cell? (qB Bm)=some (.map (some b)))(hM:sE prog 3 w b nn f)(dJ:nn<=2000000):
  qC 240 #[.func (.func 241) #[] #[qP Bm]] w fun e w'=>∃v ps,e= .returned v/\aaM f ps/\ps.length<=nn/\w'.ownsRow w.heap.size 212 3 v ps.length (mN mW ps)/\qL w w':=by
 have hc:=FQ w Bm b nn f G eU hm hM dJ;go_enter func240,ntmps240;go_wp2_with fail;refine hc.mono ?_;rintro e w' ⟨v,ps,rfl,H⟩;have HH:Aside (aaM f ps/\ps.length<=nn/\w'.ownsRow w.heap.size 212 3 v ps.length (mN mW ps)/\qL w w'):=H;go_wp2;go_ret;exact ⟨v,ps,rfl,HH.o⟩
theorem Lh(w)(Bm b nn)(f)(G:AV f)(eU:Bm<w.heap.size)(hm:w.cell? (qB Bm)=some (.map (some b)))(hM:sE prog 3 w b nn f)(dJ:nn<=200000):
  qC 175 #[.func (.func 241) #[] #[qP Bm],.func (.func 177) #[] #[]] w fun e w'=>∃v qs,e= .returned v/\D4 f qs/\qs.length<=nn/\M9 w' v qs/\qL w w'/\∀g,v.ownBlock=some g->w.heap.size<=g:=by
 have hc:=Id w Bm b nn f G eU hm hM zj;go_enter func175,ntmps175;go_wp2_with fail;refine hc.mono ?_;rintro e w1 ⟨v,ps,rfl,hall,hpl,hown,hb⟩
 rcases hown.2 with ⟨rfl,h0⟩ | ⟨g,cap,cur,rfl,hbg,-⟩
 ·have bg:=Zi.1 h0
  have HH:Aside (D4 f []/\qL w w1):=⟨by subst bg;exact hall.abW (List.Perm.refl _) List.Pairwise.nil,hb⟩
  go_wp2_with (go_at_call 191;refine (Cj none 0 _ _).mono ?_;rintro e w' ⟨rfl,rfl⟩);go_ret;exact ⟨_,[],rfl,HH.o.1,uW _,.inl ⟨rfl,rfl⟩,HH.o.2,fun g e=>yN⟩
 have hs:=zdk w1 w.heap.size g cap ps hown zj;have ce:=(hown.lt g rfl).2
 have HH:Aside (aaM f ps/\ps.length<=nn/\qL w w1/\w.heap.size<=g/\g<w1.heap.size):=⟨hall,hpl,hb,hbg,ce⟩
 go_wp2_with fail;refine hs.mono ?_;rintro e w2 ⟨rfl,qs,hp,hpw,hcells,hk⟩
 have H2:Aside (D4 f qs/\qs.length=ps.length/\qs.length<=nn/\(∀j u,(mN mW qs)[j]? =some u->w2.cell? (qA g j)=some u)/\qL w w2/\g<w2.heap.size/\w.heap.size<=g):=
  ⟨HH.o.1.abW hp (List.Pairwise.imp (fun {a b} h=>zj) hpw),hp.length_eq,ut,hcells,HH.o.2.2.1.trans (hk.m8 (HH.o.2.2.1.size) (fun k e=>by have:=HH.o.2.2.2.1;omega)),uY HH.o.2.2.2.2 hk.size,HH.o.2.2.2.1⟩
 go_wp2;go_ret;exact ⟨_,qs,rfl,H2.o.1,H2.o.2.2.1,.inr ⟨g,cap,by rw [H2.o.2.1];rfl,H2.o.2.2.2.2.2.1,H2.o.2.2.2.1⟩,H2.o.2.2.2.2.1,fun k e=>by cases e;exact H2.o.2.2.2.2.2.2⟩
theorem EO(w)(bt bm nn)(v0)(f)(G:AV f)(hT:t8 w bt bm v0)(hM:sE prog 3 w bm nn f)(dJ:nn<=200000):
  qC 129 #[qP bt] w fun e w'=>∃v qs,e= .returned v/\D4 f qs/\qs.length<=nn/\M9 w' v qs/\qL w w'/\∀g,v.ownBlock=some g->w.heap.size<=g:=by
 have t0:=hT.c0;have hv:=callsIn_wide.1 (RQ Fence.wide 3 trivial rfl (some bm) w);have hb1:qL w (w.alloc (.cells #[.map (some bm)] 185)):=zh w _;have bL:Boxed (w.alloc (.cells #[.map (some bm)] 185)) w.heap.size 185 (.map (some bm)):=heap_alloc_new w _;have hs:=Lh (w.alloc (.cells #[.map (some bm)] 185)) w.heap.size bm nn f G zq bL.cell (hM.same (hb1.block bm hM.lt)) dJ;go_enter func129,ntmps129;go_wp2_with (go_at_call 176;refine hv.mono ?_;clear hv;rintro e w' ⟨rfl,rfl⟩);refine hs.mono ?_;rintro e w2 ⟨v,qs,rfl,h1,h2,h3,h4,h5⟩
 have HH:Aside (D4 f qs/\qs.length<=nn/\M9 w2 v qs/\qL w w2/\∀g,v.ownBlock=some g->w.heap.size<=g):=⟨h1,h2,h3,hb1.trans (h4.mono zq),fun g hg=>by have:=h5 g hg;simp at this;omega⟩
 go_wp2;go_ret;exact ⟨v,qs,rfl,HH.o⟩
theorem Ld(w)(bt bm nn)(v0)(f)(G:AV f)(hT:t8 w bt bm v0)(hM:sE prog 3 w bm nn f)(dJ:nn<=200000):
  qC 129 #[qP bt] w fun e w'=>∃v qs,e= .returned v/\D4 f qs/\qs.length<=nn/\M9 w' v qs/\qL w w':=
 (EO w bt bm nn v0 f G hT hM dJ).mono fun _ _ ⟨v,qs,h1,h2,h3,h4,h5,_⟩=>⟨v,qs,h1,h2,h3,h4,h5⟩
end
section
open RowKit Shelf Maps
attribute [local go_sem] Oper.semAt_some
def U5(W:qW)(g off:Nat)(L:qX):Prop:=∀j u,(cellsOf L)[j]? =some u->W.cell? (qA g (off+j))=some u
theorem U5.same{W W'}{g off}{L}(h:U5 W g off L)(e:W'.heap[g]? =W.heap[g]?):U5 W' g off L:=fun j u hj=>by
 rw [<-h j u hj]
 grind [uV]
theorem U5.at{W}{g off}{L}(h:U5 W g off L){i}{x}(hx:L[i]? =some x)(c){u}(hu:(nD x)[c]? =some u):W.cell? (qA g (off+i*8+c))=some u:=by
 have ar:F2 W (some (qA g off)) L:=.inr ⟨g,off,rfl,h⟩;obtain ⟨b,o,e,hc⟩:=ar.e hx
 simp_all
theorem SE{W W':qW}{g}(h:g<W.heap.size)(e:W'.heap[g]? =W.heap[g]?):g<W'.heap.size:=by
 grind
theorem NE(F)(n)(h7:F.fn 270)(cO:F.round=none)(hn:1<=n)(l Bs g off cap)(ao)(L)(hlen:L.length<=1000)(aH:L= []\/ao=some (qA g off))(J Jx:List OpX->World->Prop)
  (hY:∀pre x W,J pre W->pre.length<L.length->YieldAt F (n - 1) prog l #[mH x] W fun e W'=>
   (e= .returned (.bool true)/\J (pre++ [x]) W'/\E5 g Bs W W')\/(e= .returned (.bool false)/\Jx (pre++ [x]) W'))
  (W) (hJ:AbidesFrom W.heap.size J) (hBl:Bs<W.heap.size) (ce:g<W.heap.size) (bN:W.cell? (qB Bs)=some (.slice ao L.length cap)) (hc:U5 W g off L) (h0:J [] W):
  CallsIn F n prog 270 #[.func (.yield l) #[] #[],qP Bs] W fun e W'=>(∃v,e= .returned v)/\
   ((∃ys,ys=L/\J ys W')\/(∃pre,True/\Jx pre W')):=by
 refine callsIn_of_wp func270 rfl h7 ?_ cO;simp only [ntmps270,Zn,Zd,Zt,Nat.reduceAdd,Nat.reduceSub,Zx,Zy,ZH,ZC,ZE,ZI];gi_wp2
 gi_loopw [4,7] (fun _ i wr=>∃k:Nat,k<=L.length/\i=qN k/\J (L.take k) wr/\E5 g Bs W wr)
  (fun _ i _=>(L.length - (intOf i).toNat))
 case atStart=>exact ⟨0,uW _,zq,by simpa using h0,E5.refl _ _ _⟩
 case round=>
  obtain ⟨k,hk,rfl,jd,cz⟩:=hrel;have iJ:=(uV (a:=(qB Bs)) cz.2).trans bN;by_cases hlt:k<L.length
  ·have iG:=aH.resolve_left (fun e=>zM);subst iG
   obtain ⟨⟨t,b,m,kd,nd,o,s,v⟩,cE⟩:∃x,L[k]? =some x:=⟨L[k],uL hlt⟩
   have hJ3:J (L.take k) (wr.alloc (qOc t b m kd nd o s v)):=hJ _ wr _ none jd (YK wr _ none) (fun r e=>yN);obtain ⟨fn,tmps,assign,body,hy,hR⟩:=hY _ (t,b,m,kd,nd,o,s,v) _ hJ3 zM;have hrow:=hc.same cz.1;unfold mH at hy;have c0:wr.cell? (qA g (off+k*8))=some (qI t):=hrow.at cE 0 (u:=qI t) rfl;have c1:=hrow.at cE 1 (u:=qI b) rfl;have c2:=hrow.at cE 2 (u:=qI m) rfl;have c3:=hrow.at cE 3 (u:=.int .u8 (kd:Int)) rfl;have c4:=hrow.at cE 4 (u:=qI nd) rfl;have c5:=hrow.at cE 5 (u:=qI o) rfl;have c6:=hrow.at cE 6 (u:=.string s) rfl;have c7:=hrow.at cE 7 (u:=.string v) rfl;have dY:(0:Int)<=(k:Int):=zj;have hib:(k:Int)<(L.length:Int):=zj;have wk:((k:Int)).toNat=k:=zj;have d1:qlt k L.length=true:=zl
   have htake:L.take (k+1)=L.take k++ [(t,b,m,kd,nd,o,s,v)]:=by
    rw [ZF,cE];rfl
   have HK:Aside (k<L.length/\E5 g Bs W (wr.alloc (qOc t b m kd nd o s v))/\L.take (k+1)=L.take k++ [(t,b,m,kd,nd,o,s,v)]):=⟨hlt,cz.trans ⟨uT _ _ _ (SE ce cz.1),uT _ _ _ (SE hBl cz.2)⟩,htake⟩
   have hR':Aside (RoundIn F (n - 1) prog l fn tmps assign body (wr.alloc (qOc t b m kd nd o s v)) fun e W'=>(e= .returned (.bool true)/\J (L.take k++ [(t,b,m,kd,nd,o,s,v)]) W'/\E5 g Bs (wr.alloc (qOc t b m kd nd o s v)) W')\/(e= .returned (.bool false)/\Jx (L.take k++ [(t,b,m,kd,nd,o,s,v)]) W')):=hR;gi_wp2;refine hR'.o.mono ?_;rintro e W3 (⟨rfl,hJ3,hk3⟩ | ⟨rfl,hJx3⟩)
   ·gi_wp2;go_roundw
    case rel=>exact ⟨k+1,by have:=HK.o.1;omega,zJ,by rw [HK.o.2.2];exact hJ3,HK.o.2.1.trans hk3⟩
    grind [intOf]
   gi_wp2;refine bodyPost_ret (results_none rfl _ _ _) rfl ?_;exact ⟨⟨_,rfl⟩,.inr ⟨_,trivial,hJx3⟩⟩
  obtain rfl:k=L.length:=zj;have d1:qlt L.length L.length=false:=zq;gi_wp2;go_end0
  simp_all
theorem GO(F)(n)(h7:F.fn 270)(cO:F.round=none)(hn:1<=n)(Bs g off cap)(ao)(L)(hlen:L.length<=1000)(aH:L= []\/ao=some (qA g off))(w)(bN:Bs<w.heap.size)(hg:g<w.heap.size)
  (hc:w.cell? (qB Bs)=some (.slice ao L.length cap)) (hI:U5 w g off L):
  SeqStopsK F n prog 270 #[qP Bs] (fun x:OpX=> #[mH x]) (E5 g Bs) (fun ys=>ys=L) (fun _=>True) L.length w:=fun l J Jx W hW hJ _ hY h0=>by
 have fC:=(hW.cell (p:=(qB Bs)) bN).trans hc;exact NE F n h7 cO hn l Bs g off cap ao L hlen aH J Jx hY W hJ (uY bN hW.size) (uY hg hW.size) fC (hI.same (hW.block g hg)) h0
theorem Mc(a)(y9 cap)(w):qC 216 #[.slice a y9 cap] w fun e w'=>e= .returned (.func (.func 270) #[] #[qP w.heap.size])/\w'=w.alloc (.cells #[.slice a y9 cap] 136):=by
 go_enter func216,ntmps216;exact ka7
theorem Ep(w)(Bs g off cap)(ao)(L)(hlen:L.length<=1000)(aH:L= []\/ao=some ⟨g,off,none⟩)(bN:Bs<w.heap.size)(hg:g<w.heap.size)(hc:w.cell? ⟨Bs,0,none⟩=some (.slice ao L.length cap))(hI:U5 w g off L):
  Calls prog 327 #[.slice none 0 0,.func (.func 270) #[] #[.pointer (some ⟨Bs,0,none⟩)]] w fun e w'=>∃v,e= .returned v/\w'.ownsRow w.heap.size 88 8 v L.length (cellsOf L)/\Below w.heap.size w w':=by
 obtain ⟨i0,hi,aD,aw,aJ⟩:=info_parts rD;refine (callsIn_wide (n:=4)).1 ?_;refine callsIn_of_wp_marks func327 rfl trivial ?_ rfl;simp only [ntmps327,Zn,Zd,Zt,Nat.reduceAdd,Nat.reduceSub,Zx,Zy,ZH,ZC,ZE,ZI];gi_wp2;obtain ⟨w1,hw1⟩:=za (w.alloc (.cells #[.slice none 0 0] 136));rw [<-hw1];have cg:Below w.heap.size w w1:=qa;have aG:w1.heap.size=w.heap.size+1:=xY;obtain ⟨B,hB⟩:=za w.heap.size;have e1:Boxed w1 B 136 (.slice none 0 0):=xe
 rw [<-hB] at cg aG bN hg |-
 have HB:Aside (B=w.heap.size):=hB;have bI:B<=w.heap.size:=zj;clear hB;have hc1:=(cg.cell (p:=⟨Bs,0,none⟩) bN).trans hc;have hI1:=hI.same (cg.block g hg);clear hw1 hc hI
 refine wpIn_rangeFunc_ownH rfl zj (gf:=270) (lb:= #[.pointer (some ⟨Bs,0,none⟩)]) rfl trivial (enters_of func270 zk rfl)
  (GO Fence.wide (4 - 1) trivial rfl zj Bs g off cap ao L hlen aH w1 zj zj hc1 hI1) E5.trans (fun W l o o' hl _ _ _=>E5.put (N:=w1.heap.size) zj zj W l o' hl) (uO _ _) (fun _=>rfl)
  (fun pre W=>((∃v,Boxed W B 136 v/\W.ownsRow B 88 8 v pre.length (cellsOf pre)/\pre.length<=L.length))/\(w1.heap.size<=W.heap.size/\Below B w W))
  (fun _ _ _=>False)
  (OwnFrom.and (Own.from (holdsRow_own B B 136 88 8 (fun pre=>pre.length) (fun pre=>cellsOf pre) (fun pre _=>pre.length<=L.length)) _) (OwnFrom.and (fun _ X Y row hs hg _=>uQ hs hg.size) (ownFrom_below zj zj)))
  (fun _ _ _ _ _ hs _ _=>hs)
  ⟨⟨_,e1,Zk w1 B _ _,uW _⟩,uM _,cg⟩
  (fun x a' W=>∃Bx,w1.heap.size<=Bx/\m6 W Bx x/\a'= {tmps:= #[.slice none 0 0,.func (.func 270) #[] #[.pointer (some ⟨Bs,0,none⟩)],.pointer (some ⟨B,0,none⟩),undef,.slice none 0 0,.pointer (some ⟨Bx,0,none⟩),.func (.func 270) #[] #[.pointer (some ⟨Bs,0,none⟩)],mH x,undef,undef,undef,undef,undef],defers:=[]})
  (fun x a'=>Own.from (fun _ X Y row hs hg hr=>zZ) _)
  ?assign ?body ?done ?stop
 case assign=>
  rintro l pre x W K ⟨⟨v,hv,hrow,hpl⟩,hsz,hBW⟩ hK;have df:Aside _:=hK;have iJ:B<=W.heap.size:=zj;clear hK;unfold mH;gi_wp2;refine df.o _ _ ((KeepsOthers.alloc _ _).from _) ⟨uT _ _ _ zj,uT _ _ _ zj⟩ ⟨⟨v,hv.alloc _,hrow.alloc _,hpl⟩,zl,hBW.alloc iJ _⟩ ⟨W.heap.size,zj,heap_alloc_new W _,rfl⟩
 case body=>
  rintro l pre x a' W hl _ ⟨⟨v,hv,hrow,hpl⟩,hsz,hBW⟩ ⟨Bx,hBx,hE,rfl⟩ hlt;have g1:=hv.cell;obtain ⟨f0,f1,f2,f3,f4,f5,f6,f7,-⟩:=hE.cells;have iJ:B<=W.heap.size:=zj;obtain ⟨t,b,m,kd,nd,o,s,v0⟩:=x;dsimp only at f0 f1 f2 f3 f4 f5 f6 f7;unfold mH;gi_wp2_with (gi_at_builtin;refine wpListIn_append_own _ rfl _ _ 136 rfl B 88 i0 _ 8 80 underlying136 hi aD aw aJ rfl zj _ _ _ rfl (hrow.alloc _) ⟨W.heap.size,0,none⟩ 1 1 (nD (t,b,m,kd,nd,o,s,v0)) rfl rfl (pU W (t,b,m,kd,nd,o,s,v0) _) (oY _) zB zj zl ?_;intro v' w2 hown' ag _;obtain ⟨g',cap',rfl⟩:=ownsRow_succ hown';obtain ⟨gk,dh,hr2,hk2,hb2⟩:=hv.appended zo hrow iJ zg hown' ag;have hc1:=gk.cell;have jD:=gk.frozen);refine ⟨hk2.from _,⟨hb2.block g hg,hb2.block Bs bN⟩,⟨⟨_,dh,?_,zl⟩,uq,hBW.trans hb2⟩⟩;rw [uS,ZO,oL]
  have:cellsOf [(t,b,m,kd,nd,o,s,v0)]=nD (t,b,m,kd,nd,o,s,v0):=by simp [cellsOf]
  rw [this];exact hr2
 case done=>
  rintro D ys W hD hall ⟨⟨v,hv,hrow,hpl⟩,hsz,hBW⟩ hK;have g1:=hv.cell;gi_wp2;refine ⟨zq,.inl ⟨_,_,rfl,run_takeDeferred hK,?_⟩⟩;subst hall;refine ⟨v,by simp [results,f327,go_sem],v,rfl,?_,?_⟩
  ·exact km4
  exact ke6
 case stop=>
  rintro D c pre W _ _ h _;exact h.elim
theorem DE(w)(Bs g off cap)(ao)(L)(hlen:L.length<=1000)(aH:L= []\/ao=some (qA g off))(bN:Bs<w.heap.size)(hg:g<w.heap.size)(hc:w.cell? (qB Bs)=some (.slice ao L.length cap))(hI:U5 w g off L):
  qC 268 #[.func (.func 270) #[] #[qP Bs]] w fun e w'=>∃v,e= .returned v/\w'.ownsRow w.heap.size 88 8 v L.length (cellsOf L)/\qL w w':=by
 have dN:=Ep w Bs g off cap ao L hlen aH bN hg hc hI;go_enter func268,ntmps268;go_wp2_with fail;refine dN.mono ?_;rintro e w' ⟨v,rfl,H⟩;have HH:Aside (w'.ownsRow w.heap.size 88 8 v L.length (cellsOf L)/\qL w w'):=H;go_wp2;go_ret;exact ⟨v,rfl,HH.o⟩
end
section
open RowKit Shelf Maps
theorem rX{P}(w)(l9)(t ty e)(i)(z)(size bytes)(ht:P.underlying t=some (.slice e))(hi:P.info? e=some i)(hz:i.zero=some z)
  (eC:i.size=size) (bK:i.bytes=bytes) (fL:z.cells.size=size) (hsz:0<size)
  (v) (n) (xs) (hown:w.ownsRow l9 e size v n xs)
  (a) (m c) (hm0:0<m) (news) (hl:news.length=m*size) (bq:∀j u,news[j]? =some u->w.cell? (a.add j)=some u) (h1:∀u∈news,u.oneCell'=true)
  (h63:n+m<=maxLen) (de:(n+m)*bytes<=140737488355328) (aj:l9<=w.heap.size):
  ∃v' w',(Builtin.append_ #[t,t] ty #[v,.slice (some a) m c]).run P w= .ok v' w'/\w'.ownsRow l9 e size v' (n+m) (xs++news)/\w.grownBy w' v.ownBlock/\
   ((∃g cap,v=qG g n cap/\v'=qG g (n+m) cap)\/(v'.ownBlock=some w.heap.size/\w.grownBy w' none)):=by
 obtain ⟨v',w',ae,h',hg',-⟩:=run_append_own (P:=P) w l9 t ty e i z size bytes ht hi hz eC bK fL hsz v n xs hown a m c news hl bq h1 h63 de aj;refine ⟨v',w',ae,h',hg',?_⟩;subst eC;subst bK
 have lH:n+m<=9223372036854775807:=by simp only [maxLen] at h63;omega
 rcases hown.2 with ⟨rfl,rfl⟩ | ⟨g,cap,cur,rfl,hbg,hg,hnc,hcm,hcs,htake⟩
 ·have hr:=run_append_nil (P:=P) w t ty e i z ht hi hz a m c news hl bq zj zj zN;exact ki4
 by_cases au:n+m<=cap
 ·have jC:n*i.size+news.length<=cur.size:=by rw [hl,hcs,<-YG];exact ZK _ au
  grind [run_append_room,Result.ok.injEq]
 have holds:=hown.cells (g:=g) rfl;have hr:=run_append_grow (P:=P) w t ty e i z ht hi hz (qB g) n cap xs hown.1 holds a m c news hl bq zj zj (growslice_fits zj de);exact ki4
theorem Ih{w:qW}{l9 g cap n m}{xs ys}(h:w.ownsRow l9 88 8 (qG g m cap) m (cellsOf (xs++ys)))(hn:n=xs.length)(hm:m=n+ys.length):w.ownsRow l9 88 8 (qG g n cap) n (cellsOf xs):=by
 refine ⟨by rw [mo,hn],.inr ?_⟩
 rcases h.2 with ⟨h1,_⟩ | ⟨g',cap',cur,e,h1,h2,h3,h4,h5,h6⟩
 ·cases h1
 cases e
 refine ⟨g,cap,cur,rfl,h1,h2,zj,h4,h5,?_⟩;have:=congrArg (List.take (n*8)) h6
 grind [YW,oL,mo,Zl]
theorem EG(w)(Bs g off cap)(ao)(L)(hlen:L.length<=1000)(aH:L= []\/ao=some (qA g off))(bN:Bs<w.heap.size)(hg:g<w.heap.size)(hc:w.cell? (qB Bs)=some (.slice ao L.length cap))(hI:U5 w g off L):
  qC 215 #[.func (.func 270) #[] #[qP Bs],.func (.func 217) #[] #[]] w fun e w'=>∃fa fc qs,e= .returned (.slice fa L.length fc)/\qs.Perm L/\qs.Pairwise (fun a b=>mB a<=mB b)/\F2 w' fa qs/\(∀a,fa=some a->w.heap.size<=a.block)/\qL w w':=by
 have dN:=DE w Bs g off cap ao L hlen aH bN hg hc hI;go_enter func215,ntmps215;go_wp2_with fail;refine dN.mono ?_;rintro e w1 ⟨v,rfl,hown,hb⟩
 rcases hown.2 with ⟨rfl,h0⟩ | ⟨g',cap',cur,rfl,hbg,-⟩
 ·have bg:=Zi.1 h0
  have HB:Aside (qL w w1/\L= []):=⟨hb,bg⟩
  go_wp2_with (go_at_call 269;refine (ID none 0 _ _).mono ?_;rintro e w' ⟨rfl,rfl⟩);go_ret;exact ⟨none,0,[],by rw [HB.o.2];rfl,by rw [HB.o.2],List.Pairwise.nil,.inl rfl,fun a e=>absurd e zq,HB.o.1⟩
 have hs:=zcJ w1 w.heap.size g' cap' L hown zj;have ce:=(hown.lt g' rfl).2
 have HH:Aside (qL w w1/\w.heap.size<=g'/\g'<w1.heap.size):=⟨hb,hbg,ce⟩
 go_wp2_with fail;refine hs.mono ?_;rintro e w2 ⟨rfl,qs,hp,hpw,hcells,hk⟩
 have H2:Aside (qs.Perm L/\qs.Pairwise (fun a b=>mB a<=mB b)/\F2 w2 (qS g') qs/\qL w w2):=⟨hp,hpw,.inr ⟨g',0,rfl,fun j u hj=>by rw [Ze];exact hcells j u hj⟩,HH.o.1.trans (hk.m8 HH.o.1.size (fun k e=>by have:=HH.o.2.1;omega))⟩
 go_wp2;go_ret;exact ⟨_,_,qs,rfl,H2.o.1,H2.o.2.1,H2.o.2.2.1,fun a e=>by cases e;exact HH.o.2.1,H2.o.2.2.2⟩
theorem M8.G8{S F G}(h:M8 S F)(e:G.Perm F):M8 S G:=
 ⟨fun x hx=>h.ok x (e.mem_iff.1 hx),fun x hx=>h.off x (e.mem_iff.1 hx),(e.pairwise_iff (fun {a b} h q=>h ⟨q.1.symm,q.2.symm⟩)).2 h.one⟩
end
section
open RowKit Lib Go.Sort
def S7(w:qW)(ao:qO)(qs:List Plc):Prop:=qs= []\/∃g off,ao=some (qA g off)/\∀j u,(mN mW qs)[j]? =some u->w.cell? (qA g (off+j))=some u
theorem S7.later{w w'}{ao}{qs}(h:S7 w ao qs)(hb:qL w w'):S7 w' ao qs:=by
 rcases h with h | ⟨g,o,h1,h2⟩
 ·exact .inl h
 exact kk8
theorem M9.abJ{w}{v}{qs}(h:M9 w v qs):∃ao cap,v= .slice ao qs.length cap/\S7 w ao qs:=by
 rcases h with ⟨h,e⟩ | ⟨g,cap,h,_,hc⟩
 ·exact ⟨none,0,by rw [h,e];rfl,.inl e⟩
 exact kp4
theorem S7.e{w}{ao}{qs}(h:S7 w ao qs){k}{p}(hk:qs[k]? =some p):∃g off,ao=some (qA g off)/\w.cell? (qA g (off+k*3))=some (qI p.1)/\w.cell? (qA g (off+k*3+1))=some (qI p.2.1)/\w.cell? (qA g (off+k*3+2))=some (.string p.2.2):=by
 rcases h with h | ⟨g,off,h1,h2⟩
 ·simp_all
 refine ⟨g,off,h1,?_,?_,?_⟩
 ·exact h2 (k*3) _ (by have:=me mG hk (c:=0) zj;rw [ZG] at this;rw [this];rfl)
 ·rw [Yx];exact h2 (k*3+1) _ vL
 rw [Yx];exact h2 (k*3+2) _ vL
def RJ(g:Nat)(lb:Array Value)(xs:List Plc)(p:Plc->Bool)(l9:Nat)(w:qW):Prop:=
 ∀(W:qW) (x:Plc),x∈xs->Below l9 w W->Calls prog g (#[pS x]++lb) W (qR (.bool (p x)) W)
def zew(p:Plc->Bool)(zs:List Plc)(r:Int):Prop:=
 (r= -1/\∀x∈zs,p x=false)\/∃k x,r=((k:Nat):Int)/\zs[k]? =some x/\p x=true/\∀j y,j<k->zs[j]? =some y->p y=false
theorem CW(p)(g:Nat)(lb)(eg:∀args w,(callFunc g args).run prog w= .ok (.enter g args) w)(ao)(cap l9)(zs)(w)(aj:l9<=w.heap.size)(hp:RJ g lb zs p l9 w)(fD:zs.length<=1000000)(ar:S7 w ao zs):
  qC 248 #[.slice ao zs.length cap,.func (.func g) #[] lb] w fun e w'=>∃r:Int,e= .returned (qI r)/\Aside (zew p zs r/\qL w w'):=by
 have HP:Aside (RJ g lb zs p l9 w/\l9<=w.heap.size):=⟨hp,aj⟩
 have HI:Aside (S7 w ao zs):=ar;go_enter func248,ntmps248;go_wp2;go_loopg [5,8] zs.length (fun kx _ s8 wr=>∃(k:Nat),s8=qN k/\k<=zs.length/\zs.length - k<=kx/\Aside (qL w wr/\∀j l,j<k->zs[j]? =some l->p l=false))
 case atStart=>exact ⟨0,rfl,uW _,uM _,⟨uO _ w,fun j l hj=>zj⟩⟩
 case round=>
  obtain ⟨k,rfl,hk,aY,A⟩:=hrel;by_cases hlt:k<zs.length
  ·have aq:qlt k zs.length=true:=by simp;omega
   have ek:((k:Int)).toNat=k:=zj;have pk:(0:Int)<=(k:Int):=zj;have bk:(k:Int)<(zs.length:Int):=zj
   obtain ⟨⟨nd,i,s⟩,hl⟩:∃l,Aside (zs[k]? =some l):=⟨zs[k],uL hlt⟩
   obtain ⟨blk,off,aH,r0,r1,r2⟩:=(HI.o.later A.o.1).e hl.o;subst aH;dsimp only at r0 r1 r2;have ac:=HP.o.1 wr (nd,i,s) (uR hl.o) (A.o.1.mono HP.o.2);unfold pS at ac;dsimp only at ac
   cases hq:p (nd,i,s) with
   | true=>
    exact kg0
   | false=>
    rw [hq] at ac;have HQ:=Lib.hid hq;go_wp2_with (go_at_fn g;refine ac.mono ?_;rintro e w' ⟨rfl,hb'⟩);go_roundg (zs.length - (k+1))
    case measure=>omega
    case rel=>
     refine ⟨k+1,zJ,zj,uM _,⟨zi A.o.1 hb',fun j l hj e=> ?_⟩⟩
     rcases Yv j k with h | h
     ·exact A.o.2 j l h e
     exact kg3
  exact kb5
theorem QG(p)(g:Nat)(lb)(eg:∀args w,(callFunc g args).run prog w= .ok (.enter g args) w)(ao)(cap l9)(zs)(w)(aj:l9<=w.heap.size)(hp:RJ g lb zs p l9 w)(fD:zs.length<=1000000)(ar:S7 w ao zs):
  qC 201 #[.slice ao zs.length cap,.func (.func g) #[] lb] w (qR (.bool (zs.any p)) w):=by
 have ac:=CW p g lb eg ao cap l9 zs w aj hp fD ar;go_enter func201,ntmps201;go_wp2_with fail;refine ac.mono ?_;rintro e w' ⟨r,rfl,H⟩
 rcases H.o.1 with ⟨hr,ha⟩ | ⟨k,x,hr,hx,hpx,_⟩
 ·exact kg8
 exact kj0
def re(S:qX)(nd:Int):Bool:=S.any (fun x=>decide (kdO x=109/\mU x=nd/\idO x=nd))
theorem knownB_iff{S}{nd} :re S nd=true↔m9 S nd:=by
 unfold re m9;simp
def SJ(S:qX)(nd:Int):Bool:=decide (nd=0) ||(decide (nd=1) ||re S nd)

end