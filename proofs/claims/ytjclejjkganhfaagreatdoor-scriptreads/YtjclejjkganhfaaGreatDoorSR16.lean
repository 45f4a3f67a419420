import Derived.Test.YtjclejjkganhfaaGreatDoorSR10
import Derived.Test.YtjclejjkganhfaaGreatDoorSR11
import Derived.Test.YtjclejjkganhfaaGreatDoorSR12
import Derived.Test.YtjclejjkganhfaaGreatDoorSR13
import Derived.Lib.IndexMore
set_option linter.unusedSimpArgs false
set_option linter.unusedVariables false
set_option maxRecDepth 100000
set_option maxHeartbeats 64000000
namespace Go.Proofs.YtjclejjkganhfaaGreatDoor
open Go.Proofs.Tryz
section
open RowKit
open scoped Classical
structure EK (c:Nat->Nat) (i:Nat) (w:qW) (c':Nat->Nat) (w':qW):Prop where
 block:∀k,k<w.heap.size->c k=i->w'.heap[k]? =w.heap[k]?
 y9:∀k,k<w.heap.size->c' k=c k
def nc(nd:Int):Nat:=20+nd.toNat
def n7(w:qW)(br:Nat)(T o9:Int)(kv:Nat->Value)(bt bx bc:Nat):Prop:=w.heap[br]? =some (.cells #[qI T,qI o9,kv 0,kv 1,kv 2,kv 3,qP bt,.map (some bx),qP bc] 140 (0,0))
theorem n7.lt{w}{br}{T o9}{kv}{bt bx bc}(h:n7 w br T o9 kv bt bx bc):br<w.heap.size:=(uK.1 h).1
theorem n7.same{w w'}{br}{T o9}{kv}{bt bx bc}(h:n7 w br T o9 kv bt bx bc)(e:w'.heap[br]? =w.heap[br]?):n7 w' br T o9 kv bt bx bc:=e.trans h
theorem n7.c0{w}{br}{T o9}{kv}{bt bx bc}(h:n7 w br T o9 kv bt bx bc):w.cell? (qB br)=some (qI T):=zV
theorem n7.c1{w}{br}{T o9}{kv}{bt bx bc}(h:n7 w br T o9 kv bt bx bc):w.cell? (qA br 1)=some (qI o9):=zV
theorem n7.c2{w}{br}{T o9}{kv}{bt bx bc}(h:n7 w br T o9 kv bt bx bc):w.cell? (qA br 2)=some (kv 0):=zV
theorem n7.c3{w}{br}{T o9}{kv}{bt bx bc}(h:n7 w br T o9 kv bt bx bc):w.cell? (qA br 3)=some (kv 1):=zV
theorem n7.c4{w}{br}{T o9}{kv}{bt bx bc}(h:n7 w br T o9 kv bt bx bc):w.cell? (qA br 4)=some (kv 2):=zV
theorem n7.c5{w}{br}{T o9}{kv}{bt bx bc}(h:n7 w br T o9 kv bt bx bc):w.cell? (qA br 5)=some (kv 3):=zV
theorem n7.c6{w}{br}{T o9}{kv}{bt bx bc}(h:n7 w br T o9 kv bt bx bc):w.cell? (qA br 6)=some (qP bt):=zV
theorem n7.c7{w}{br}{T o9}{kv}{bt bx bc}(h:n7 w br T o9 kv bt bx bc):w.cell? (qA br 7)=some (.map (some bx)):=zV
theorem n7.c8{w}{br}{T o9}{kv}{bt bx bc}(h:n7 w br T o9 kv bt bx bc):w.cell? (qA br 8)=some (qP bc):=zV
theorem n7.fz{w}{br}{T o9}{kv}{bt bx bc}(h:n7 w br T o9 kv bt bx bc)(o):w.frozen? (qA br o)=false:=by unfold n7 at h;simp [World.frozen?,h]
def E4(w:qW)(c:Nat->Nat)(kv:Nat->Value)(R:Rws):Prop:=∀i,i<4->w.ownsRow 0 88 8 (kv i) (R i).length (cellsOf (R i))/\∀g,(kv i).ownBlock=some g->c g=10+i
theorem E4.one{w w'}{c c'}{kv}{R}(h:E4 w c kv R){i}(hi:i<4)(hk:EK c (10+i) w c' w'):w'.ownsRow 0 88 8 (kv i) (R i).length (cellsOf (R i))/\∀g,(kv i).ownBlock=some g->c' g=10+i:=by
 obtain ⟨h1,h2⟩:=h i hi;refine ⟨nh h1 (fun g hg=>hk.block g (h1.lt g hg).2 (h2 g hg)),fun g hg=> ?_⟩;rw [hk.y9 g (h1.lt g hg).2];exact h2 g hg
theorem E4.kept{w w'}{c c'}{kv}{R}(h:E4 w c kv R)(hk:∀i,i<4->EK c (10+i) w c' w'):E4 w' c' kv R:=fun i hi=>h.one hi (hk i hi)
theorem E4.ops{w}{c}{kv}{R}(h:E4 w c kv R){i}(hi:i<4):M1 w (kv i) (R i):=Cg (h i hi).1
def aaj(w:qW)(c:Nat->Nat)(bt:Nat)(A:qX):Prop:=∃bm v ms,I9 0 w bt bm v ms/\ms.Perm (pz A)/\c bt=2/\c bm=2/\∀g,v.ownBlock=some g->c g=2
theorem aaj.kept{w w'}{c c'}{bt}{A}(h:aaj w c bt A)(hk:EK c 2 w c' w'):aaj w' c' bt A:=by
 obtain ⟨bm,v,ms,h1,h2,h3,h4,h5⟩:=h;obtain ⟨l1,l2,l3⟩:=h1.lt;exact ⟨bm,v,ms,h1.same (hk.block _ l1 h3) (hk.block _ l2 h4) (fun g hg=>hk.block g (l3 g hg) (h5 g hg)),h2,(hk.y9 _ l1).trans h3,(hk.y9 _ l2).trans h4,fun g hg=>(hk.y9 g (l3 g hg)).trans (h5 g hg)⟩
def aar(w:qW)(c:Nat->Nat)(p:Nat)(nd:Int)(A:qX):Prop:=∃v L,x9 (p+1) w p v L/\u7 A nd L/\c p=nc nd/\∀g,v.ownBlock=some g->c g=nc nd
theorem x9.kin{l9}{w}{p}{v}{L}(h:x9 l9 w p v L){g}(hg:v.ownBlock=some g):g<w.heap.size:=(h.row.lt g hg).2
theorem aar.kept{w w'}{c c'}{p}{nd}{A}(h:aar w c p nd A)(hk:EK c (nc nd) w c' w'):aar w' c' p nd A:=by
 obtain ⟨v,L,h1,h2,h3,h4⟩:=h;refine ⟨v,L,⟨(hk.block p h1.lt h3).trans h1.cell,EB h1.row (fun g hg=>hk.block g (h1.kin hg) (h4 g hg)),h1.low,h1.J2,h1.pos,h1.aaq⟩,h2,(hk.y9 _ h1.lt).trans h3,fun g hg=>(hk.y9 g (h1.kin hg)).trans (h4 g hg)⟩
def O8(w:qW)(c:Nat->Nat)(bx:Nat)(A:qX):Prop:=∃n tx,n<=A.length/\I5 w bx n tx/\c bx=3/\(∀nd,(tx nd).isSome=true↔m9 A nd)/\∀nd p,tx nd=some p->aar w c p nd A
theorem O8.kept{w w'}{c c'}{bx}{A}(h:O8 w c bx A)(hk:EK c 3 w c' w')(hl:∀nd,m9 A nd->EK c (nc nd) w c' w'):O8 w' c' bx A:=by
 obtain ⟨n,tx,h1,h2,h3,h4,h5⟩:=h;exact ⟨n,tx,h1,h2.same (hk.block _ h2.lt h3),(hk.y9 _ h2.lt).trans h3,h4,fun nd p hp=>(h5 nd p hp).kept (hl nd ((h4 nd).1 ua))⟩
def R8(w:qW)(c:Nat->Nat)(bc:Nat)(A:qX):Prop:=∃cm A',E9 w bc cm A.length (rm A')/\A'.Perm A/\c bc=4/\c cm=4
theorem R8.kept{w w'}{c c'}{bc}{A}(h:R8 w c bc A)(hk:EK c 4 w c' w'):R8 w' c' bc A:=by
 obtain ⟨cm,A',h1,h2,h3,h4⟩:=h;exact ⟨cm,A',h1.same (hk.block _ h1.lt.1 h3) (hk.block _ h1.lt.2 h4),h2,(hk.y9 _ h1.lt.1).trans h3,(hk.y9 _ h1.lt.2).trans h4⟩
structure G9 (w:qW) (c:Nat->Nat) (br:Nat) (T o9:Int) (kv:Nat->Value) (bt bx bc:Nat) (R:Rws) (A:qX):Prop where
 cell:n7 w br T o9 kv bt bx bc
 y9:c br=1
 GC:E4 w c kv R
 Y7:aaj w c bt A
 P8:O8 w c bx A
 N8:R8 w c bc A
 time:oE A T
theorem G9.kept{w w'}{c c'}{br}{T o9}{kv}{bt bx bc}{R}{A}(h:G9 w c br T o9 kv bt bx bc R A)(hk:∀i,i≠0->EK c i w c' w'):G9 w' c' br T o9 kv bt bx bc R A:=by
 have k1:=hk 1 zj;exact ⟨h.cell.same (k1.block _ h.cell.lt h.y9),(k1.y9 _ h.cell.lt).trans h.y9,h.GC.kept (fun i _=>hk _ zj),h.Y7.kept (hk 2 zj),h.P8.kept (hk 3 zj) (fun nd _=>hk _ yk),h.N8.kept (hk 4 zj),h.time⟩
theorem G9.later{w w'}{c}{br}{T o9}{kv}{bt bx bc}{R}{A}(h:G9 w c br T o9 kv bt bx bc R A)(hb:qL w w'):G9 w' c br T o9 kv bt bx bc R A:=
 h.kept (fun i _=>⟨fun k hk _=>hb.block k hk,fun k _=>rfl⟩)
def K7(w:qW)(c:Nat->Nat)(br:Nat)(o9:Int)(R:Rws):Prop:=∃T kv bt bx bc A,G9 w c br T o9 kv bt bx bc R A/\A.Perm (lX R)/\u9 R/\0<=o9/\o9<4
theorem K7.kept{w w'}{c c'}{br}{o9}{R}(h:K7 w c br o9 R)(hk:∀i,i≠0->EK c i w c' w'):K7 w' c' br o9 R:=by
 obtain ⟨T,kv,bt,bx,bc,A,h1,h2⟩:=h;exact ⟨T,kv,bt,bx,bc,A,h1.kept hk,h2⟩
theorem K7.later{w w'}{c}{br}{o9}{R}(h:K7 w c br o9 R)(hb:qL w w'):K7 w' c br o9 R:=
 h.kept (fun i _=>⟨fun k hk _=>hb.block k hk,fun k _=>rfl⟩)
structure L7 (w:qW) (c:Nat->Nat) (w':qW) (c':Nat->Nat):Prop where
 L0:m7 (fun k=>c k≠0) w w'
 y9:∀k,k<w.heap.size->c' k=c k
theorem L7.y{w w'}(c)(hb:qL w w'):L7 w c w' c:=⟨(lW hb).mono (fun k hk e=>absurd hk zj),fun _ _=>rfl⟩
theorem L7.trans{w w1 w2}{c c1 c2}(h:L7 w c w1 c1)(k:L7 w1 c1 w2 c2):L7 w c w2 c2:=
 ⟨h.L0.then k.L0 (fun i hi e=>by rw [h.y9 i hi] at e;exact e),fun i hi=>(k.y9 i (uT hi h.L0.size)).trans (h.y9 i hi)⟩
theorem Nt{A}{o}(h:kdO o≠109):pz (o::A)=pz A:=by
 unfold pz;exact List.filterMap_cons_none (if_neg h)
theorem QA{A}{o}(h:kdO o=109):pz (o::A)=((o.1,o.2.1),(mY o,mX o,o.2.2.2.2.2.2.1))::pz A:=by
 unfold pz;exact List.filterMap_cons_some (if_pos h)
theorem aaj.skip{w}{c}{bt}{A}(h:aaj w c bt A){o}(ho:kdO o≠109):aaj w c bt (o::A):=by
 obtain ⟨bm,v,ms,h1,h2,h3⟩:=h;exact ⟨bm,v,ms,h1,by rw [Nt ho];exact h2,h3⟩
theorem Jy{A}{o}(h:G7 A o){ms:List Mov}(hp:ms.Perm (pz A)):∀m∈ms,m.1≠(o.1,o.2.1):=fun m hm e=>by
 obtain ⟨x,hx,q⟩:=Yo.1 (hp.mem_iff.1 hm);unfold Wj at q;split at q
 ·cases q
  exact h.F5 x hx e
 cases q
theorem R8.skip{w}{c}{bc}{A}(h:R8 w c bc A){o}(ho:kdO o≠115):R8 w c bc (o::A):=by
 obtain ⟨cm,A',h1,h2,h3⟩:=h;refine ⟨cm,A'++ [o],?_,(Yp).trans (h2.cons o),h3⟩;rw [Dr];unfold Gy;rw [if_neg (fun q=>ho q.2)];exact h1.mono zr
theorem R8.set{w w'}{c}{bc}{A A'}{cm}{o}(h2:A'.Perm A)(h3:c bc=4/\c cm=4)(h:Su w bc cm A.length (rm A') o w'):R8 w' c bc (o::A):=
 ⟨cm,A'++ [o],by rw [Dr];exact h.1,(Yp).trans (h2.cons o),h3⟩
theorem O8.skip{w}{c}{bx}{A}(h:O8 w c bx A){o}(ho:kdO o≠105/\kdO o≠100)(hn:¬(kdO o=109/\mY o=idO o)):O8 w c bx (o::A):=by
 obtain ⟨n,tx,h1,h2,h3,h4,h5⟩:=h;refine ⟨n,tx,zm,h2,h3,fun nd=>(h4 nd).trans ?_,fun nd p hp=> ?_⟩
 ·grind [AT]
 obtain ⟨v,L,k1,k2,k3⟩:=h5 nd p hp;exact ⟨v,L,k1,k2.skip (fun q=>q.2.elim ho.1 ho.2),k3⟩
theorem ri{A}(hA:∀x∈A,mv x=0){nd}(h:m9 A nd):4<=nd:=by
 obtain ⟨x,hx,_,_,e⟩:=h;have:=zbD (hA x hx);omega
theorem WI{a b}(ha:0<=a)(hb:0<=b)(h:nc a=nc b):a=b:=by unfold nc at h;omega
end
section
open Shelf RowKit Lib Go.Sort Maps
open scoped Classical
theorem Qz{α:Type}{P}{enc:α->List Value}{k}{S T}{z}{bytes}(hS:P.underlying S=some (.slice T))(bX:(P.info? T).map (fun i=>(i.zero,i.size,i.bytes))=some (some z,k,bytes))(hb1:bytes<=1000)(jc:0<k)(hzc:z.cells.size=k)(hlen:∀x,(enc x).length=k)(eJ:∀x,∀v∈enc x,v.oneCell'=true)
  {wr w1} {B n} {v} {xs} (h:wr.ownsRow B T k v n xs) (hB:B<=wr.heap.size) (hb:qL wr w1) (e) (hn:n<=1000) (ty):
  ∃v' w3,(Builtin.append_ #[S,S] ty #[v,qG w1.heap.size 1 1]).run P (w1.alloc (.cells (enc e).toArray T))= .ok v' w3/\Aside (w3.ownsRow B T k v' (n+1) (xs++enc e)/\(∀q,q<w1.heap.size->v.ownBlock≠some q->w3.heap[q]? =w1.heap[q]?)/\w1.heap.size<=w3.heap.size/\Below B wr w3):=by
 have hrow:(w1.alloc (.cells (enc e).toArray T)).ownsRow B T k v n xs:=by
  refine mD h (fun q hq=> ?_);have:=(h.lt q hq).2;rw [uR _ _ _ vO,hb.block q this]
 have hin:N9 enc (w1.alloc (.cells (enc e).toArray T)) (qS w1.heap.size) [e]:=by
  refine .inr ⟨w1.heap.size,0,rfl,fun j u hj=> ?_⟩;have hn:=heap_alloc_new w1 (.cells (enc e).toArray T);exact ki6
 obtain ⟨v',w3,ae,hown,eO⟩:=pV (enc:=enc) (k:=k) (S:=S) (T:=T) hS bX hb1 jc hzc hlen eJ hrow zj (by rw [Zt];have:=hb.size;omega) (qS w1.heap.size) 1 [e] zr hin (fun q=>xP) ty;have cu:qL wr (w1.alloc (.cells (enc e).toArray T)):=hb.alloc hb.size _;refine ⟨v',w3,ae,?_,fun q hq hne=> ?_,?_,?_⟩
 ·simpa [mP] using hown
 ·rw [eO.block q yM (fun q'=>hne q'.symm),uR _ _ _ hq]
 ·have:=eO.size;rw [Zt] at this;omega
 exact (cu.mono hB).grown eO (by have:=cu.size;omega) (fun q hq=>(h.lt q hq).1)
end
section
open RowKit
def Qy(pb:Nat)(T t:Int)(w w':qW):Prop:=(T<t/\∃W,qL w W/\w'.heap=(W.setCell (qB pb) (qI t)).heap/\m7 (fun k=>k=pb) W w')\/(¬T<t/\qL w w')
theorem Wm(pb)(T c t b)(w)(hC:Clk pb T c w)(h1:1<=t)(h2:t<=1073741824)(h3:0<=b)(h4:b<4):
  qC 273 #[qP pb,.agg #[qI t,qI b]] w fun e w'=>e= .returned .nilIface/\Qy pb T t w w':=by
 have C0:=hC.later ((uM _ _).alloc zg (.cells #[qI t,qI b] 86));by_cases hgt:T<t
 ·have HT:Aside (T<t):=hgt;go_enter func273,ntmps273;go_wp2_with fail;refine (BK t b _ h1 h2 h3 h4).mono ?_;rintro e w1 ⟨rfl,hb⟩;have s0:w1.cell? (qB w.heap.size)=some (qI t):=cell_later hb zY;have B1:=(zh _ _).trans (hb.mono zr);have C1:=C0.later hb;obtain ⟨k0,k1,kf⟩:=C1;go_wp2;go_quiet (fail);go_wp2;go_ret;exact ⟨rfl,.inl ⟨HT.o,_,Go.below_drewN B1 _,rfl,lZ pb [_] 0 _⟩⟩
 have HT:Aside (¬T<t):=hgt;go_enter func273,ntmps273;go_wp2_with fail;refine (BK t b _ h1 h2 h3 h4).mono ?_;rintro e w1 ⟨rfl,hb⟩;have s0:w1.cell? (qB w.heap.size)=some (qI t):=cell_later hb zY;have B1:=(zh _ _).trans (hb.mono zr);have C1:=C0.later hb;obtain ⟨k0,k1,kf⟩:=C1;go_wp2;go_quiet (fail);go_wp2;go_ret;exact ⟨rfl,.inr ⟨by have:=HT.o;omega,Go.below_drewN B1 _⟩⟩
theorem ND(pb)(T c t b)(w)(hC:Clk pb T c w)(h1:1<=t)(h2:t<=1073741824)(h3:0<=b)(h4:b<4):
  qC 224 #[qP pb,.agg #[qI t,qI b]] w fun e w'=>(∃u,e= .returned u)/\∃W,qL w W/\Qy pb T t W w':=by
 obtain ⟨S,hS⟩:=za w.heap.size;obtain ⟨U,hU⟩:=za (w.alloc (.cells #[qI t,qI b] 86));have hb:qL w U:=zX
 have hs:U.heap[S]? =some (.cells #[qI t,qI b] 86 (0,0)):=by rw [hU,hS];exact heap_alloc_new w _
 have s0:U.cell? (qB S)=some (qI t):=by simp [World.cell?,hs]
 have s1:U.cell? (qA S 1)=some (qI b):=by simp [World.cell?,hs]
 have ac:∀W,qL U W->qC 273 #[qP pb,.agg #[qI t,qI b]] W fun e w'=>e= .returned .nilIface/\Qy pb T t W w':=fun W hW=>Wm pb T c t b W ((hC.later hb).later hW) h1 h2 h3 h4
 have HB:Aside (qL w U):=hb;clear hb hs hC;go_enter func224,ntmps224;go_wp2_with fail;rw [<-hU,<-hS];clear hU hS;refine nS (S:=(fun w'=>qL U w')) (z:=4) zk (uM _ U).drew (fun aa=> ?_);refine lY (i:=0) (v:= ?va0) zo rfl zk zk zk (fun _ _ _ h=>h) (Or.inl ⟨zt,?hy0⟩) aa ?rest0
 case hy0=>(intro w' _;go_simp;try with_reducible rfl)
 refine qn ?_;refine lY (i:=1) (v:= ?va1) zo rfl zk zk zk (fun _ _ _ h=>h) (Or.inl ⟨zt,?hy1⟩) aa ?rest1
 case hy1=>(intro w' _;go_simp;try with_reducible rfl)
 refine qn ?_;refine lY (i:=2) (v:= ?va2) zo rfl zk zk zk (fun _ _ _ h=>h) (Or.inl ⟨zt,?hy2⟩) aa ?rest2
 case hy2=>(intro w' _;go_simp;try with_reducible rfl)
 refine qn ?_;refine mV (i:=3) (v:= ?va3) zo zk rfl zk zk zk zk (fun _ _ _ h=>h) (Or.inl ⟨zt,?hy3⟩) aa ?rest3
 case hy3=>(intro w' ab;have j0:=cell_later ab s0;have j1:=cell_later ab s1;go_simp;try with_reducible rfl)
 refine qn ?_;refine lN (i:=4) zk rfl (fun K hK=> ?_);go_simp;refine (ac U.drew (uM _ U).drew).mono ?_;clear ac;rintro e w' ⟨rfl,hh⟩;have HH:Aside (Qy pb T t U.drew w'):=hh;clear hh;refine hK _ _ (.inr ⟨rfl,zo⟩) ?_;clear hK K;refine nZ zk ?_ _;go_wp2;go_end0;exact ⟨⟨_,rfl⟩,U.drew,HB.o.drew,HH.o⟩
end
section
open scoped Classical
def AQ(nd:Int)(ws:List qU):qU:=Lib.itoa nd++ [32]++Lib.join ws [32]
def oU(p:Plc):qU:=AQ p.1 [[105,110],Lib.itoa p.2.1,p.2.2.data.toList]
def Ae(t:Int×qU):qU:=AQ t.1 [[116,101,120,116],t.2]
def GG(m:Mrk):qU:=AQ m.1 [[109,97,114,107],m.2.1.data.toList,m.2.2.data.toList]
def sr(t:Int×qU):Bool:=decide (t.2≠ [])
def CK(qs:List Plc)(ts:List (Int×qU))(ms:List Mrk):List qU:=qs.map oU++(ts.filter sr).map Ae++ms.map GG
structure N7 (A:qX) (ts:List (Int×qU)):Prop where
 L3:ts.Pairwise (fun a b=>a.1<b.1)
 U5:∀nd,nd∈ts.map (·.1)↔m9 A nd
 E5:∀t∈ts,∃L,u7 A t.1 L/\t.2=rz L
theorem N7.G4{A B}{ts}(h:N7 A ts)(e:A.Perm B):N7 B ts:=by
 refine ⟨h.L3,fun nd=>(h.U5 nd).trans ⟨fun q=>q.mono (fun x hx=>e.mem_iff.1 hx),fun q=>q.mono (fun x hx=>e.mem_iff.2 hx)⟩,fun t ht=> ?_⟩;obtain ⟨L,h1,h2⟩:=h.E5 t ht;exact ⟨L,h1.G4 e,h2⟩
theorem N7.q{A}{ts us}(h:N7 A ts)(k:N7 A us):ts=us:=by
 have one:∀ {xs ys:List (Int×qU)},N7 A xs->N7 A ys->∀p,p∈xs->p∈ys:=fun {xs ys} hx hy p hp=>by
  have:=(hy.U5 _).2 ((hx.U5 _).1 (Zj.2 ⟨p,hp,rfl⟩));obtain ⟨q,hq,e⟩:=Zj.1 this;obtain ⟨L,l1,l2⟩:=hx.E5 p hp;obtain ⟨M,m1,m2⟩:=hy.E5 q hq;have e':=e;rw [e'] at m1;obtain rfl:=l1.q m1
  grind
 exact tV (R:=fun a b:Int×qU=>a.1<b.1) (fun a=>Int.lt_irrefl _) (fun a b c=>Int.lt_trans) h.L3 k.L3 (fun p=>⟨one h k p,one k h p⟩)
def GB(A:qX)(s:qU):Prop:=∃ms qs ts A' mm,ms.Perm (pz A)/\mn ms/\C3 (lM ms) qs/\N7 A ts/\A'.Perm A/\P9 (rm A') mm/\s=Lib.join (CK qs ts mm) [10]
theorem GB.G4{A B}{s}(h:GB A s)(e:A.Perm B):GB B s:=by
 obtain ⟨ms,qs,ts,A',mm,h1,h2,h3,h4,h5,h6,h7⟩:=h;exact ⟨ms,qs,ts,A',mm,h1.trans (e.filterMap _),h2,h3,h4.G4 e,h5.trans e,h6,h7⟩
theorem D5.adF{A}(h:D5 A):abk A:=fun x hx y hy e1 e2=>h.Y hx hy (by unfold stO;rw [e1,e2])
theorem abk.mono{A B}(h:abk A)(e:∀x,x∈B->x∈A):abk B:=fun x hx y hy=>h x (e x hx) y (e y hy)
theorem MT{A B}(h:abk A)(e:A.Perm B):rm A=rm B:=
 GS (fun m=>(e.filterMap _).mem_iff) h.N8
theorem GB.q{A}{s t}(hA:D5 A)(h:GB A s)(k:GB A t):s=t:=by
 obtain ⟨ms,qs,ts,A',mm,h1,h2,h3,h4,h5,h6,rfl⟩:=h;obtain ⟨ms',qs',ts',A'',mm',k1,k2,k3,k4,k5,k6,rfl⟩:=k;obtain rfl:=sf (h1.trans k1.symm) h2 k2;obtain rfl:=h3.q k3;obtain rfl:=h4.q k4;have e:=MT (hA.adF.mono (fun x hx=>h5.mem_iff.1 hx)) (h5.trans k5.symm);rw [e] at h6;obtain rfl:=h6.q k6;rfl
theorem GB.same{A B}{s t}(hA:D5 A)(e:A.Perm B)(h:GB A s)(k:GB B t):s=t:=h.q hA (k.G4 e.symm)
theorem join_nil(x):Lib.join [] x= []:=rfl
def Al(ys:qX):Prop:=ys.Pairwise (fun a b=>¬CLt (stO b) (stO a))
theorem zb4{x y}(hx:mv x=0)(hy:mv y=0)(h:idO x<idO y):CLt (stO x) (stO y):=by
 have a:=mT hx;have b:=mT hy;unfold idO at h;unfold CLt stO;dsimp only;omega
theorem zb0{x y}(hx:mv x=0)(hy:mv y=0)(h:idO x=idO y):stO x=stO y:=by
 have a:=mT hx;have b:=mT hy
 grind [idO,stO]
theorem OG{ys}(ho:Al ys){c}{x y}(hx:x∈ys.take c)(hy:y∈ys)(h:CLt (stO y) (stO x)):y∈ys.take c:=by
 grind [Zx,Al]
end
section
open RowKit
abbrev Y0(kn g n1 n2 n3 n4 n5:Nat)(c:UInt8)(p6:qY)(w':qW):Prop:=w'.cell? (qB kn)=some (qN n1)/\w'.cell? (qA kn 1)=some (qN n2)/\w'.cell? (qA kn 2)=some (qN n3)/\w'.cell? (qA kn 3)=some (qN n4)/\w'.cell? (qA kn 4)=some (qN n5)/\w'.cell? (qB g)=some (.string ⟨#[c]⟩)/\w'.cell? (qA g 6)=some (.string p6)
theorem Y0.drew{kn g n1 n2 n3 n4 n5}{c}{p6}{w}(h:Y0 kn g n1 n2 n3 n4 n5 c p6 w):Y0 kn g n1 n2 n3 n4 n5 c p6 w.drew:=h
theorem Y0.set{kn g n1 n2 n3 n4 n5 a o}{c}{p6}{w}{v}(h1:a≠kn)(h2:a≠g)(h:Y0 kn g n1 n2 n3 n4 n5 c p6 w):Y0 kn g n1 n2 n3 n4 n5 c p6 (w.setCell (qA a o) v):=by
 simp_all [Zp,congrArg,Y0]
theorem Y0.acf{kn g n1 n2 n3 n4 n5 a o0 o1 o2 o3 o4 o5 o6 o7}{c}{p6}{w}{v0 v1 v2 v3 v4 v5 v6 v7}(h1:a≠kn)(h2:a≠g)(h:Y0 kn g n1 n2 n3 n4 n5 c p6 w):
  Y0 kn g n1 n2 n3 n4 n5 c p6 ((((((((w.setCell (qA a o0) v0).setCell (qA a o1) v1).setCell (qA a o2) v2).setCell (qA a o3) v3).setCell (qA a o4) v4).setCell (qA a o5) v5).setCell (qA a o6) v6).setCell (qA a o7) v7):=
 ((((((((h.set h1 h2).set h1 h2).set h1 h2).set h1 h2).set h1 h2).set h1 h2).set h1 h2).set h1 h2)
theorem Hd(s)(w)(hs:s.size<=1000000)(m)(hm:w.cell? (qB 14)=some (qI m))(c)(l1 l2 l3 l4 l5 l6 l7)(h8:nF 124 s.data.toList= [[c],l1,l2,l3,l4,l5,l6,l7]):
  qC 344 #[.string s] w (qR (.tuple #[tX (nN s.data.toList),.bool (nN s.data.toList).isSome]) w):=by
 have R0:=Z9.F5 w 88;have HM:=Lib.hid (lU ((uM w.heap.size w).alloc zg qZc) hm);have HR:=Lib.hid (An h8)
 generalize nN s.data.toList=R at HR |-
 have H8:=Lib.hid h8;go_enter func344,ntmps344;go_wp2_with fail;refine (Rx s m _ hs HM.o).mono ?_;rintro e w1 ⟨P,cap,g,rfl,hg,hcap,hc,h4e,h4n,hb⟩;have R1:=R0.later hb;have hP:=h4e (by rw [H8.o];rfl);rw [H8.o] at hP
 obtain ⟨p0,p1,p2,p3,p4,p5,p6,p7,rfl,e0,e1,e2,e3,e4,e5,e6,e7⟩:∃p0 p1 p2 p3 p4 p5 p6 p7,P= [p0,p1,p2,p3,p4,p5,p6,p7]/\p0.data.toList= [c]/\p1.data.toList=l1/\p2.data.toList=l2/\p3.data.toList=l3/\p4.data.toList=l4/\p5.data.toList=l5/\p6.data.toList=l6/\p7.data.toList=l7:=by
  have hlen:P.length=8:=vI
  match P,hlen,hP with
  | [a0,a1,a2,a3,a4,a5,a6,a7],_,hP=>simp at hP;exact ⟨a0,a1,a2,a3,a4,a5,a6,a7,rfl,hP⟩
 have cP:p0.size=1:=by rw [<-ot,e0];rfl
 have hl7:p7.size<=1000000:=by
  have:=Kv 124 s.data.toList l7 (by rw [H8.o];simp);rw [<-ot,e7];have:=ot s;omega
 have i8:p0=⟨#[c]⟩:=by
  have:p0.data= #[c]:=by rw [<-Array.toArray_toList (xs:=p0.data),e0]
  cases p0;simp_all
 subst i8
 have k0:∀o,(w1.alloc o).cell? (qB g)=some (.string ⟨#[c]⟩):=fun o=>lU ((uM _ _).alloc zg o) (hc 0 _ rfl)
 have k1:∀o,(w1.alloc o).cell? (qA g 1)=some (.string p1):=fun o=>lU ((uM _ _).alloc zg o) (hc 1 _ rfl)
 have k2:∀o,(w1.alloc o).cell? (qA g 2)=some (.string p2):=fun o=>lU ((uM _ _).alloc zg o) (hc 2 _ rfl)
 have k3:∀o,(w1.alloc o).cell? (qA g 3)=some (.string p3):=fun o=>lU ((uM _ _).alloc zg o) (hc 3 _ rfl)
 have k4:∀o,(w1.alloc o).cell? (qA g 4)=some (.string p4):=fun o=>lU ((uM _ _).alloc zg o) (hc 4 _ rfl)
 have k5:∀o,(w1.alloc o).cell? (qA g 5)=some (.string p5):=fun o=>lU ((uM _ _).alloc zg o) (hc 5 _ rfl)
 have k6:∀o,(w1.alloc o).cell? (qA g 6)=some (.string p6):=fun o=>lU ((uM _ _).alloc zg o) (hc 6 _ rfl)
 have k7:∀o,(w1.alloc o).cell? (qA g 7)=some (.string p7):=fun o=>lU ((uM _ _).alloc zg o) (hc 7 _ rfl)
 have C:=fun o=>R1.later ((uM _ _).alloc zg o)
 have c0:=fun o=>(C o).z.c0
 have c1:=fun o=>(C o).z.c1
 have c2:=fun o=>(C o).z.c2
 have c3:=fun o=>(C o).z.c3
 have c4:=fun o=>(C o).z.c4
 have c5:=fun o=>(C o).z.c5
 have c6:=fun o=>(C o).z.c6
 have c7:=fun o=>(C o).z.c7
 have f0:=fun o=>(C o).f0
 have f1:=fun o=>(C o).f1
 have f2:=fun o=>(C o).f2
 have f3:=fun o=>(C o).f3
 have f4:=fun o=>(C o).f4
 have f5:=fun o=>(C o).f5
 have f6:=fun o=>(C o).f6
 have f7:=fun o=>(C o).f7
 have BB:=fun o=>(C o).b
 have HB:=Lib.hid BB
 have ne1:¬w1.heap.size=w.heap.size:=by have:=R1.lt;omega
 have ne2:w.heap.size≠w1.heap.size:=zj
 have ne3:w.heap.size≠g:=by simp at hg;omega
 subst e1 e2 e3 e4 e5 e6 e7;go_wp2;refine wp_loop_rounds 6 ?_;rw [rounds_succ];go_wp2_with fail
 cases gk:rP 10 p1.data.toList with
 | none=>
  have HE:Hid (R=none):=Lib.hid (by rw [HR.o,Ca];simp only [gk]);refine (rS p1 _ gk).mono ?_;exact ka4
 | some n1=>
  refine (rX p1 n1 _ gk).mono ?_;rintro e w' ⟨rfl,hw⟩;subst hw;go_wp2;rw [rounds_succ];go_wp2_with fail
  cases lv:rP 10 p2.data.toList with
  | none=>
   have HE:Hid (R=none):=Lib.hid (by rw [HR.o,Ca];simp only [gk,lv]);refine (rS p2 _ lv).mono ?_;exact ka4
  | some n2=>
   refine (rX p2 n2 _ lv).mono ?_;rintro e w' ⟨rfl,hw⟩;subst hw;go_wp2;rw [rounds_succ];go_wp2_with fail
   cases hN3:rP 10 p3.data.toList with
   | none=>
    have HE:Hid (R=none):=Lib.hid (by rw [HR.o,Ca];simp only [gk,lv,hN3]);refine (rS p3 _ hN3).mono ?_;exact ka4
   | some n3=>
    refine (rX p3 n3 _ hN3).mono ?_;rintro e w' ⟨rfl,hw⟩;subst hw;go_wp2;rw [rounds_succ];go_wp2_with fail
    cases lu:rP 10 p4.data.toList with
    | none=>
     have HE:Hid (R=none):=Lib.hid (by rw [HR.o,Ca];simp only [gk,lv,hN3,lu]);refine (rS p4 _ lu).mono ?_;exact ka4
    | some n4=>
     refine (rX p4 n4 _ lu).mono ?_;rintro e w' ⟨rfl,hw⟩;subst hw;go_wp2;rw [rounds_succ];go_wp2_with fail
     cases hN5:rP 10 p5.data.toList with
     | none=>
      have HE:Hid (R=none):=Lib.hid (by rw [HR.o,Ca];simp only [gk,lv,hN3,lu,hN5]);refine (rS p5 _ hN5).mono ?_;exact ka4
     | some n5=>
      refine (rX p5 n5 _ hN5).mono ?_;rintro e w' ⟨rfl,hw⟩;subst hw;go_wp2;rw [rounds_succ];go_wp2_with fail;have R2:Z9 w (w1.alloc (.cells #[qN n1,qN n2,qN n3,qN n4,qN n5] 427)):=R1.later (zh _ _);have m0:(w1.alloc (.cells #[qN n1,qN n2,qN n3,qN n4,qN n5] 427)).cell? (qB w1.heap.size)=some (qN n1):=zY;have m1:(w1.alloc (.cells #[qN n1,qN n2,qN n3,qN n4,qN n5] 427)).cell? (qA w1.heap.size 1)=some (qN n2):=zY;have m2:(w1.alloc (.cells #[qN n1,qN n2,qN n3,qN n4,qN n5] 427)).cell? (qA w1.heap.size 2)=some (qN n3):=zY;have m3:(w1.alloc (.cells #[qN n1,qN n2,qN n3,qN n4,qN n5] 427)).cell? (qA w1.heap.size 3)=some (qN n4):=zY;have m4:(w1.alloc (.cells #[qN n1,qN n2,qN n3,qN n4,qN n5] 427)).cell? (qA w1.heap.size 4)=some (qN n5):=zY;have j0:=k0 (.cells #[qN n1,qN n2,qN n3,qN n4,qN n5] 427);have j6:=k6 (.cells #[qN n1,qN n2,qN n3,qN n4,qN n5] 427)
      generalize w1.alloc (.cells #[qN n1,qN n2,qN n3,qN n4,qN n5] 427)=w2 at R2 m0 m1 m2 m3 m4 j0 j6 |-
      cases hX:nU p7.data.toList with
      | none=>
       have HE:Hid (R=none):=Lib.hid vf;refine (SF p7 _ hl7 hX).mono ?_;rintro e w3 ⟨rfl,hb⟩;have R3:=R2.later hb;obtain ⟨⟨c0,c1,c2,c3,c4,c5,c6,c7⟩,f0,f1,f2,f3,f4,f5,f6,f7,B1⟩:=R3;go_wp2;refine bodyPost_ret (v:=.tuple #[.agg qZa,.bool false]) yh rfl ⟨by rw [HE.o];rfl,?_⟩;exact kb4
      | some v=>
       have HE:Hid (R=some (c,n1,n2,n3,n4,n5,p6.data.toList,v)):=Lib.hid vf;refine (Ss p7 v _ hl7 hX).mono ?_;rintro e w3 ⟨rfl,hb⟩;have R3:=R2.later hb;have g0:=lU hb m0;have g1:=lU hb m1;have g2:=lU hb m2;have g3:=lU hb m3;have g4:=lU hb m4;have i0:=lU hb j0;have i6:=lU hb j6;obtain ⟨⟨c0,c1,c2,c3,c4,c5,c6,c7⟩,f0,f1,f2,f3,f4,f5,f6,f7,B1⟩:=R3
       generalize w1.heap.size=kn at ne1 ne2 g0 g1 g2 g3 g4 |-
       have h0:Y0 kn g n1 n2 n3 n4 n5 c p6 w3:=⟨g0,g1,g2,g3,g4,i0,i6⟩
       have aQ:∀w,(Instr.index 9 (.string ⟨#[c]⟩) (qI 0)).run prog w= .ok (.int .u8 (c.toNat:Int)) w:=fun _=>zk
       go_wp2_with fail
       go_region_held3 (fun w'=>w'.cell? (qB kn)=some (qN n1)/\w'.cell? (qA kn 1)=some (qN n2)/\w'.cell? (qA kn 2)=some (qN n3)/\w'.cell? (qA kn 3)=some (qN n4)/\w'.cell? (qA kn 4)=some (qN n5)/\w'.cell? (qB g)=some (.string ⟨#[c]⟩)/\w'.cell? (qA g 6)=some (.string p6))
        (first
         | with_reducible assumption
         | with_reducible exact Y0.drew h0
         | with_reducible exact Y0.drew (Y0.acf ne2 ne3 h0)
         | with_reducible exact Y0.acf ne2 ne3 (Y0.drew h0))
        (fail)
       all_goals go_wp2
       all_goals
        refine bodyPost_ret (v:=.tuple #[.agg #[qN n1,qN n2,qN n3,.int .u8 (c.toNat:Int),qN n4,qN n5,.string p6,.string ⟨v.toArray⟩],.bool true]) yh rfl ⟨by rw [HE.o];rfl,?_⟩;exact kh0
theorem CV(s)(w)(hs:s.size<=1000000)(m)(hm:w.cell? (qB 14)=some (qI m)):
  qC 344 #[.string s] w (qR (.tuple #[tX (nN s.data.toList),.bool (nN s.data.toList).isSome]) w):=by
 by_cases h8:(nF 124 s.data.toList).length=8
 ·obtain ⟨l0,l1,l2,l3,l4,l5,l6,l7,hl⟩:∃l0 l1 l2 l3 l4 l5 l6 l7,nF 124 s.data.toList= [l0,l1,l2,l3,l4,l5,l6,l7]:=by
   match nF 124 s.data.toList,h8 with
   | [a0,a1,a2,a3,a4,a5,a6,a7],_=>exact ⟨a0,a1,a2,a3,a4,a5,a6,a7,rfl⟩
  by_cases h0:l0.length=1
  ·match l0,h0 with
   | [c],_=>exact Hd s w hs m hm c l1 l2 l3 l4 l5 l6 l7 hl
  exact MN s w hs m hm l0 l1 l2 l3 l4 l5 l6 l7 hl h0
 exact OZ s w hs m hm h8
theorem Ry{ad:qF}(s)(w)(hs:s.size<=1000000)(m)(hm:w.cell? (qB 14)=some (qI m))(ht:w.cell? (qB 1)=some (.iface 437 (.pointer (some (ad 0)))))(h:nN s.data.toList=none):
  qC 288 #[.string s] w (qR (.tuple #[tX none,.iface 437 (.pointer (some (ad 0)))]) w):=by
 have R0:=Z9.F5 w 88;have hb0:qL w (w.alloc qZc):=(uM w.heap.size w).alloc zg _;have HM:=Lib.hid (CV s _ hs m (lU hb0 hm));rw [h] at HM;have T0:=lU hb0 ht;have neT0:1<w.heap.size:=uN w (qB 1) ht;go_enter func288,ntmps288;go_wp2_with fail
 generalize w.alloc qZc=u at R0 HM T0 |-
 refine HM.o.mono ?_;rintro e w1 ⟨rfl,hb⟩;have R1:=R0.later hb;have T1:=lU hb T0;unfold tX;go_wp2_with fail;have hb2:qL w1 (w1.alloc qZc):=zh _ _;have R2:=R1.later hb2;have T2:=lU hb2 T1
 generalize w1.alloc qZc=w2 at R2 T2 |-
 obtain ⟨⟨c0,c1,c2,c3,c4,c5,c6,c7⟩,f0,f1,f2,f3,f4,f5,f6,f7,B1⟩:=R2;go_region
 all_goals go_wp2
 all_goals
  refine bodyPost_ret (v:=.tuple #[.agg qZa,.iface 437 (.pointer (some (ad 0)))]) yH rfl ⟨rfl,?_⟩;exact kh0
theorem Pq{ad}(s)(w)(hs:s.size<=1000000)(m)(hm:w.cell? (qB 14)=some (qI m))(hE:U7 ad w)(c)(n1 n2 n3 n4 n5)(nm v)(h:nN s.data.toList=some (c,n1,n2,n3,n4,n5,nm,v))(hn:nm.length<=1000000)(hv:v.length<=1000000)(hc:opE n1 n2 n3 c.toNat n4 n5 nm v≠0):
  qC 288 #[.string s] w (qR (.tuple #[tX none,.iface 437 (.pointer (some (ad (opE n1 n2 n3 c.toNat n4 n5 nm v - 1))))]) w):=by
 have R0:=Z9.F5 w 88;have hb0:qL w (w.alloc qZc):=(uM w.heap.size w).alloc zg _;have HM:=Lib.hid (CV s _ hs m (lU hb0 hm));rw [h] at HM;have E0:=hE.later hb0
 have hk:=fun u hu=>mr (ad:=ad) n1 n2 n3 c.toNat n4 n5 ⟨nm.toArray⟩ ⟨v.toArray⟩ u hu (by simpa [ByteArray.size] using hn) (by simpa [ByteArray.size] using hv)
 have cW:(⟨nm.toArray⟩:qY).data.toList=nm:=rfl;have lf:(⟨v.toArray⟩:qY).data.toList=v:=rfl;rw [cW,lf] at hk
 generalize opE n1 n2 n3 c.toNat n4 n5 nm v=code at hc hk |-
 have HC:=Lib.hid hk
 have he:eV ad code= .iface 437 (.pointer (some (ad (code - 1)))):=by unfold eV;rw [if_neg hc]
 have HV:=Lib.hid he;go_enter func288,ntmps288;go_wp2_with fail
 generalize w.alloc qZc=u at R0 HM E0 |-
 refine HM.o.mono ?_;rintro e w1 ⟨rfl,hb⟩;have R1:=R0.later hb;have E1:=E0.later hb;unfold tX;go_wp2_with fail;have hb2:qL w1 (w1.alloc (.cells #[qN n1,qN n2,qN n3,.int .u8 (c.toNat:Int),qN n4,qN n5,.string ⟨nm.toArray⟩,.string ⟨v.toArray⟩] 88)):=zh _ _;have R2:=R1.later hb2;have E2:=E1.later hb2;refine (HC.o _ E2).mono ?_;rintro e w3 ⟨rfl,hb⟩;rw [HV.o];have R3:=R2.later hb;obtain ⟨⟨c0,c1,c2,c3,c4,c5,c6,c7⟩,f0,f1,f2,f3,f4,f5,f6,f7,B1⟩:=R3;go_wp2;refine bodyPost_ret (v:=.tuple #[.agg qZa,.iface 437 (.pointer (some (ad (code - 1))))]) yH rfl ⟨rfl,?_⟩;exact kb4
theorem Xf{ad}(s)(w)(hs:s.size<=1000000)(m)(hm:w.cell? (qB 14)=some (qI m))(hE:U7 ad w)(c)(n1 n2 n3 n4 n5)(nm v)(h:nN s.data.toList=some (c,n1,n2,n3,n4,n5,nm,v))(hn:nm.length<=1000000)(hv:v.length<=1000000)(hc:opE n1 n2 n3 c.toNat n4 n5 nm v=0):
  qC 288 #[.string s] w (qR (.tuple #[tX (some (c,n1,n2,n3,n4,n5,nm,v)),.nilIface]) w):=by
 have R0:=Z9.F5 w 88;have hb0:qL w (w.alloc qZc):=(uM w.heap.size w).alloc zg _;have HM:=Lib.hid (CV s _ hs m (lU hb0 hm));rw [h] at HM;have E0:=hE.later hb0
 have hk:=fun u hu=>mr (ad:=ad) n1 n2 n3 c.toNat n4 n5 ⟨nm.toArray⟩ ⟨v.toArray⟩ u hu (by simpa [ByteArray.size] using hn) (by simpa [ByteArray.size] using hv)
 have cW:(⟨nm.toArray⟩:qY).data.toList=nm:=rfl;have lf:(⟨v.toArray⟩:qY).data.toList=v:=rfl;rw [cW,lf,hc] at hk;have HC:=Lib.hid hk;go_enter func288,ntmps288;go_wp2_with fail
 generalize w.alloc qZc=u at R0 HM E0 |-
 refine HM.o.mono ?_;rintro e w1 ⟨rfl,hb⟩;have R1:=R0.later hb;have E1:=E0.later hb;unfold tX;go_wp2_with fail;have hb2:qL w1 (w1.alloc (.cells #[qN n1,qN n2,qN n3,.int .u8 (c.toNat:Int),qN n4,qN n5,.string ⟨nm.toArray⟩,.string ⟨v.toArray⟩] 88)):=zh _ _;have R2:=R1.later hb2;have E2:=E1.later hb2;have O2:=Q4.F5 w1 n1 n2 n3 c.toNat n4 n5 ⟨nm.toArray⟩ ⟨v.toArray⟩ 88
 have ne1:¬w1.heap.size=w.heap.size:=by have:=R1.lt;omega
 refine (HC.o _ E2).mono ?_;rintro e w3 ⟨rfl,hb⟩;have R3:=R2.later hb;have O3:=O2.later hb;have he:eV ad 0= .nilIface:=rfl;rw [he];obtain ⟨⟨c0,c1,c2,c3,c4,c5,c6,c7⟩,f0,f1,f2,f3,f4,f5,f6,f7,B1⟩:=R3;obtain ⟨x0,x1,x2,x3,x4,x5,x6,x7⟩:=O3;go_wp2;refine bodyPost_ret (v:=.tuple #[.agg #[qN n1,qN n2,qN n3,.int .u8 (c.toNat:Int),qN n4,qN n5,.string ⟨nm.toArray⟩,.string ⟨v.toArray⟩],.nilIface]) yH rfl ⟨rfl,?_⟩;exact kb4
end
section
open RowKit Lib Go.Sort
theorem Mn(c)(l):Lib.index (c::l) [35]=if c=35 then 0 else if Lib.index l [35]= -1 then -1 else Lib.index l [35]+1:=by
 rw [Lib.index]
 grind
theorem Gr:∀l:qU,(Lib.cut l [35]).1=ahead l
 | []=>by
  unfold Lib.cut;split<;>simp [ahead]
 | c::l=>by
  have ih:=Gr l
  unfold Lib.cut at ih |-
  have hg:=Lib.index_ge l [35];rw [Mn];by_cases h:c=35
  ·rw [if_pos h];simp [ahead,h]
  rw [if_neg h];unfold ahead;rw [if_neg h];by_cases h1:Lib.index l [35]= -1
  ·grind
  rw [if_neg h1,if_pos zj];rw [if_pos zj] at ih;rw [<-ih,show (Lib.index l [35]+1).toNat=(Lib.index l [35]).toNat+1 by omega];rfl
def rU:OpX:=(0,0,0,0,0,0,⟨#[]⟩,⟨#[]⟩)
theorem LL{ad}(s)(w)(hE:aaC ad w)(hs:s.size<=1000000):
  qC 288 #[.string s] w fun e w'=>∃(x:OpX) (er:Value),e=qT #[IR x,er]/\Aside (qL w w'/\((ww s.data.toList=some x/\er= .nilIface)\/(ww s.data.toList=none/\x=rU/\∃a,er= .iface 437 (.pointer (some a))))):=by
 obtain ⟨m,hm⟩:=hE.mx
 cases hp:nN s.data.toList with
 | none=>
  refine (Ry s w hs m hm hE.et hp).mono ?_;rintro e w' ⟨rfl,hb⟩;exact ⟨rU,_,rfl,hb,.inr ⟨by unfold ww;rw [hp],rfl,_,rfl⟩⟩
 | some p=>
  obtain ⟨c,n1,n2,n3,n4,n5,nm,v⟩:=p;have hl:=DR hp
  have hlen:nm.length<=1000000/\v.length<=1000000:=by
   have e:=congrArg List.length hl;unfold ol at e;simp only [pt,uQ,Za,Zq] at e;have e6:=tL v;have:s.data.toList.length=s.size:=zr;omega
  by_cases hc:opE n1 n2 n3 c.toNat n4 n5 nm v=0
  ·refine (Xf s w hs m hm hE.txt.P7 c n1 n2 n3 n4 n5 nm v hp hlen.1 hlen.2 hc).mono ?_;rintro e w' ⟨rfl,hb⟩;exact ⟨((n1:Int),(n2:Int),(n3:Int),c.toNat,(n4:Int),(n5:Int),⟨nm.toArray⟩,⟨v.toArray⟩),_,rfl,hb,.inl ⟨by simp_all [ww,if_pos],rfl⟩⟩
  refine (Pq s w hs m hm hE.txt.P7 c n1 n2 n3 n4 n5 nm v hp hlen.1 hlen.2 hc).mono ?_;rintro e w' ⟨rfl,hb⟩;exact ⟨rU,_,rfl,hb,.inr ⟨by simp_all [ww,if_neg],rfl,_,rfl⟩⟩
theorem tK{fn}{p u u':Tmp}{ty}(h:fn.results= #[.cell p ty,.tmp u,.tmp u'])(tmps)(P)(w):
  (results fn tmps).run P w=
   ((asAddr (tmps.getD p undef)).run P w).andThen fun a w1=>((loadVar ty a).run P w1).andThen fun v w2=>.ok (.tuple #[v,tmps.getD u undef,tmps.getD u' undef]) w2:=by
 simp only [results,h]
 simp_all
def Z8(W:qW)(b:Nat)(x:OpX):Prop:=W.heap[b]? =some (.cells (qVa x) 88 (0,0))
theorem Z8.F5(w:qW)(x):Z8 (w.alloc (qVc x)) w.heap.size x:=heap_alloc_new w _
theorem Z8.lt{W}{b}{x}(h:Z8 W b x):b<W.heap.size:=(uK.1 h).1
theorem Z8.later{w w'}{b}{x}(h:Z8 w b x)(hb:qL w w'):Z8 w' b x:=(hb.block b h.lt).trans h
theorem Z8.cells{W}{b}{x}(h:Z8 W b x):W.cell? (qB b)=some (qI x.1)/\W.cell? (qA b 1)=some (qI x.2.1)/\W.cell? (qA b 2)=some (qI x.2.2.1)/\W.cell? (qA b 3)=some (.int .u8 (x.2.2.2.1:Int))/\W.cell? (qA b 4)=some (qI x.2.2.2.2.1)/\W.cell? (qA b 5)=some (qI x.2.2.2.2.2.1)/\W.cell? (qA b 6)=some (.string x.2.2.2.2.2.2.1)/\W.cell? (qA b 7)=some (.string x.2.2.2.2.2.2.2)/\∀o,W.frozen? (qA b o)=false:=by
 unfold Z8 at h;refine ⟨?_,?_,?_,?_,?_,?_,?_,?_,fun o=> ?_⟩
 ·exact km4
 ·exact km4
 ·exact km4
 ·exact km4
 ·exact km4
 ·exact km4
 ·exact km4
 ·exact km4
 simp [World.frozen?,h]
theorem NR{w W}{b}(h:qL w W)(hb:w.heap.size<=b)(o)(vs):qL w (W.setCells b o vs):=h.trans ((lZ b vs o W).m8 h.size (fun k e=>zj))
def zbo(w:qW)(s:qY)(e:Ending)(w':qW):Prop:=∃(x:OpX) (n:Nat) (z:Bool),e=qT #[IR x,qN n,.bool z]/\Aside (qL w w'/\((z=true/\nv s.data.toList=some (x,n))\/(z=false/\nv s.data.toList=none/\x=rU/\n=0)))
theorem Ih{B}{ad}(s)(w)(hE:N5 B ad w)(hs:s.size<=100000):
  qC 233 #[.string s] w (zbo w s):=by
 obtain ⟨S,hS⟩:=ze w.heap.size;obtain ⟨U,hU⟩:=ze (w.alloc qZc);have ah:qL w U:=yB
 have Z0:Z8 U S rU:=by rw [hU.o,hS.o];exact Z8.F5 w rU
 obtain ⟨m,hm⟩:=(hE.later ah).O.mx;have hcut:=Tryz.strings_Cut s ⟨#[35]⟩ m U zj hm
 obtain ⟨t1,fP⟩:∃t1:ByteArray,Aside (t1=⟨(Lib.cut s.data.toList (⟨#[35]⟩:qY).data.toList).1.toArray⟩):=⟨_,rfl⟩
 obtain ⟨t2,kH⟩:∃t2:ByteArray,Aside (t2=⟨(Lib.cut s.data.toList (⟨#[35]⟩:qY).data.toList).2.1.toArray⟩):=⟨_,rfl⟩
 obtain ⟨zc,hzc⟩:∃zc:Bool,Aside (zc=(Lib.cut s.data.toList (⟨#[35]⟩:qY).data.toList).2.2):=⟨_,rfl⟩
 rw [<-fP.o,<-kH.o,<-hzc.o] at hcut
 have HT:Aside (t1.data.toList=ahead s.data.toList):=by
  show _=_
  rw [fP.o];exact Gr s.data.toList
 have iY:t1.size<=100000:=by
  have h1:=Fp s.data.toList;rw [<-HT.o] at h1;have h2:t1.data.toList.length=t1.size:=zr;have h3:s.data.toList.length=s.size:=zr;omega
 have H0:Aside (Z8 U S rU/\N5 B ad U/\qL w U):=⟨Z0,hE.later ah,ah⟩
 clear hE ah Z0 hm;go_enter func233,ntmps233;go_upto_region 1 with fail;rw [<-hU.o,<-hS.o];go_wp2_with fail;refine hcut.mono ?_;clear hcut;rintro e w1 ⟨rfl,nd,hw1⟩
 have hb1:qL U w1:=by rw [hw1];exact ⟨rfl,rfl,rfl,uL _,fun _ _=>rfl⟩
 have H1:Aside (Z8 w1 S rU/\N5 B ad w1/\qL w w1):=⟨H0.o.1.later hb1,H0.o.2.1.later hb1,zi H0.o.2.2 hb1⟩
 clear hw1 hb1;have jA:=LL t1 w1 H1.o.2.1.O zj;go_wp2_with fail;refine jA.mono ?_;clear jA;rintro e w2 ⟨x,er,rfl,H2⟩
 have HR2:Aside ((ww (ahead s.data.toList)=some x/\er= .nilIface)\/(ww (ahead s.data.toList)=none/\x=rU/\∃a,er= .iface 437 (.pointer (some a)))):=by
  have:=H2.o.2;rw [HT.o] at this;exact this
 obtain ⟨V,hV⟩:=ze (w2.alloc (qVc x));obtain ⟨Q,hQ⟩:=ze w2.heap.size
 have ai:qL w1 V:=by rw [hV.o];exact H2.o.1.alloc H2.o.1.size _
 have OV:Z8 V Q x:=by rw [hV.o,hQ.o];exact Z8.F5 w2 x
 have HV:Aside (Z8 V S rU/\Z8 V Q x/\N5 B ad V/\qL w V/\S<Q):=⟨H1.o.1.later ai,OV,H1.o.2.1.later ai,zi H1.o.2.2 ai,by rw [hQ.o];exact uT H1.o.1.lt H2.o.1.size⟩
 clear ai OV;unfold IR;go_upto_region 3 with fail;rw [<-hV.o,<-hQ.o]
 rcases HR2.o with ⟨hr,he⟩ | ⟨hr,hx,a,he⟩
 ·subst he;have hrc:=DA t1 V zj HV.o.2.2.1.O.deb;have HRO:Aside (ww (ahead s.data.toList)=some x):=hr;clear hr HR2;go_wp2_with fail;refine hrc.mono ?_;clear hrc;rintro e w3 ⟨r,hr,rfl,hb3⟩;have hpf:=Tryz.strings_HasPrefix s r w3
  obtain ⟨z,hz⟩:∃z:Bool,Aside (z=Lib.hasPrefix s.data.toList r.data.toList):=⟨_,rfl⟩
  rw [<-hz.o] at hpf;rw [HT.o] at hr
  have H3:Aside (Z8 w3 S rU/\Z8 w3 Q x/\qL w w3/\r.data.toList=nB (ahead s.data.toList)):=⟨HV.o.1.later hb3,HV.o.2.1.later hb3,zi HV.o.2.2.2.1 hb3,hr⟩
  clear hr hb3;go_wp2_with fail;refine hpf.mono ?_;clear hpf;rintro e w4 ⟨rfl,rfl⟩;obtain ⟨z0,z1,z2,z3,z4,z5,z6,z7,zf⟩:=H3.o.1.cells;unfold rU at z0 z1 z2 z3 z4 z5 z6 z7;dsimp only at z0 z1 z2 z3 z4 z5 z6 z7;obtain ⟨j0,j1,j2,j3,j4,j5,j6,j7,jf⟩:=H3.o.2.1.cells
  cases z with
  | true=>
   have HF:Aside (nv s.data.toList=some (x,r.size)):=by
    have hp:nB (ahead s.data.toList)<+:s.data.toList:=by
     have:=hz.o;rw [H3.o.2.2.2] at this;exact List.isPrefixOf_iff_prefix.1 this.symm
    show nv s.data.toList=_
    unfold nv;rw [HRO.o];dsimp only;rw [if_pos hp,<-H3.o.2.2.2];simp
   go_wp2;(try simp only [Exit.inBlock,Exit.then]);refine bodyPost_ret (v:=.tuple #[IR x,qN r.size,.bool true]) ?_ rfl ⟨x,r.size,true,rfl,?_,.inl ⟨rfl,HF.o⟩⟩
   ·rw [tK rfl];unfold IR;go_simp
   exact NR (b:=S) H3.o.2.2.1 uc 0 (qVl x)
  | false=>
   have HF:Aside (nv s.data.toList=none):=by
    have hp:¬nB (ahead s.data.toList)<+:s.data.toList:=fun q=>by
     have h1:=hz.o;rw [H3.o.2.2.2] at h1;have h2:Lib.hasPrefix s.data.toList (nB (ahead s.data.toList))=true:=List.isPrefixOf_iff_prefix.2 q;rw [h2] at h1
     cases h1
    show nv s.data.toList=_
    unfold nv;rw [HRO.o];dsimp only;rw [if_neg hp]
   clear j0 j1 j2 j3 j4 j5 j6 j7 jf;go_wp2;(try simp only [Exit.inBlock,Exit.then]);refine bodyPost_ret (v:=.tuple #[IR rU,qI 0,.bool false]) ?_ rfl ⟨rU,0,false,rfl,?_,.inr ⟨rfl,HF.o,rfl,rfl⟩⟩
   ·rw [tK rfl];unfold IR rU;go_simp
   exact NR (b:=S) H3.o.2.2.1 uc 0 qZl
 subst he
 have HF:Aside (nv s.data.toList=none):=by
  show nv s.data.toList=_
  unfold nv;rw [hr]
 obtain ⟨z0,z1,z2,z3,z4,z5,z6,z7,zf⟩:=HV.o.1.cells;unfold rU at z0 z1 z2 z3 z4 z5 z6 z7;dsimp only at z0 z1 z2 z3 z4 z5 z6 z7;clear hr HR2;go_wp2;(try simp only [Exit.inBlock,Exit.then]);refine bodyPost_ret (v:=.tuple #[IR rU,qI 0,.bool false]) ?_ rfl ⟨rU,0,false,rfl,?_,.inr ⟨rfl,HF.o,rfl,rfl⟩⟩
 ·rw [tK rfl];unfold IR rU;go_simp
 exact NR (b:=S) HV.o.2.2.2.1 uc 0 qZl
theorem zbH{w w':qW}{l9 n}{e}{k}{v}{xs}(h:w.ownsRow l9 e k v n xs)(hs:∀g,v.ownBlock=some g->w'.heap[g]? =w.heap[g]?):w'.ownsRow l9 e k v n xs:=by
 refine ⟨h.1,?_⟩
 rcases h.2 with q | ⟨g,cap,cur,rfl,hb,hg,rest⟩
 ·exact .inl q
 exact .inr ⟨g,cap,cur,rfl,hb,(hs g rfl).trans hg,rest⟩
theorem zdI(w:qW)(x):∀j u,(ny x)[j]? =some u->(w.alloc (qVc x)).cell? (((qB w.heap.size):Addr).add j)=some u:=
 YH (cs:=(qVa x)) (t:=88) (fr:=(0,0)) (heap_alloc_new w _)
theorem zdM(x):∀u∈ny x,u.oneCell'=true:=by
 intro u hu;simp only [ny,uX,ZP,or_false] at hu
 rcases hu with rfl | rfl | rfl | rfl | rfl | rfl | rfl | rfl<;>rfl
theorem ME(xs)(x):cellsOf (xs++ [x])=cellsOf xs++ny x:=by simp [cellsOf]
theorem PN(s)(n)(h:n<=s.size):∃F:ByteArray,F.data.toList=s.data.toList.drop n/\F.size=s.size - n/\∀w,(Instr.slice 9 (.string s) (some (qN n)) none none).run prog w= .ok (.string F) w:=by
 obtain ⟨F,h1,h2⟩:=Ni s n h;refine ⟨F,h1,?_,h2⟩;have:=congrArg List.length h1;exact ko5
def IL(w:qW)(s:qY)(e:Ending)(w':qW):Prop:=∃v:Value,e=qT #[v,qI ((mp s.data.toList).2:Int)]/\Aside (w'.ownsRow w.heap.size 88 8 v (mp s.data.toList).1.length (cellsOf (mp s.data.toList).1)/\qL w w')
theorem KQ(b):(mp b).2<=b.length/\10*(mp b).1.length<=b.length:=by
 obtain ⟨r,h1,h2,h3,h4⟩:=KD b.length b zg;have e:=congrArg List.length h1;rw [uQ] at e;refine ⟨zj,?_⟩
 have:∀l:List OpX,10*l.length<=(oN l).length:=by
  intro l
  induction l with
  | nil=>simp
  | cons x l ih=>
   show _<=(nB (mQ x)++oN l).length
   rw [uQ,nD,Za];omega
 grind
theorem Ok{B}{ad}(s)(w)(hE:N5 B ad w)(hs:s.size<=100000):
  qC 167 #[.string s] w (IL w s):=by
 obtain ⟨i0,d6,aD,aw,aH⟩:=info_parts rA;obtain ⟨T,hT⟩:=ze (mp s.data.toList);have HE:Aside (N5 B ad w):=hE;unfold IL;rw [<-hT.o];go_enter func167,ntmps167;go_wp2;go_loopg [4,5] s.size (fun kx s4 s5 W=>∃(n:Nat) (xs:qX) (ov:Value),ov=s4/\s5=qN n/\n<=s.size/\s.size - n<=kx/\xs.length<=20000/\Aside (W.ownsRow w.heap.size 88 8 ov xs.length (cellsOf xs)/\qL w W/\T=(xs++(mp (s.data.toList.drop n)).1,n+(mp (s.data.toList.drop n)).2)))
 case atStart=>exact ⟨0,[],_,rfl,rfl,uW _,uL _,zr,⟨Zi _ _ _ _,uM _ w,by rw [hT.o];simp⟩⟩
 case round=>
  obtain ⟨n,xs,ov,rfl,rfl,hn,co,dw,A⟩:=hrel;obtain ⟨F,hF,hFs,fQ⟩:=PN s n hn;have HFF:Aside (F.data.toList=s.data.toList.drop n):=hF;have hrr:=Ih F wr (HE.o.later A.o.2.1) zj;obtain ⟨u,hu⟩:=za wr;subst hu;go_wp2_with fail;refine hrr.mono ?_;rintro e w1 ⟨x,m,z,rfl,H1⟩
  have HR:Aside ((z=true/\nv (s.data.toList.drop n)=some (x,m))\/(z=false/\nv (s.data.toList.drop n)=none/\x=rU/\m=0)):=by
   have:=H1.o.2;rw [HFF.o] at this;exact this
  obtain ⟨V,hV⟩:=ze (w1.alloc (qVc x));obtain ⟨Q,hQ⟩:=ze w1.heap.size
  have ai:qL u V:=by rw [hV.o];exact H1.o.1.alloc H1.o.1.size _
  have OV:Z8 V Q x:=by rw [hV.o,hQ.o];exact Z8.F5 w1 x
  have HV:Aside (V.ownsRow w.heap.size 88 8 ov xs.length (cellsOf xs)/\qL w V):=⟨zbH A.o.1 (fun g hg=>ai.block g (A.o.1.lt g hg).2),zi A.o.2.1 ai⟩
  unfold IR;go_upto_region 4 with fail;rw [<-hV.o,<-hQ.o]
  cases z with
  | false=>
   have hr:nv (s.data.toList.drop n)=none:=by
    rcases HR.o with ⟨q,_⟩ | ⟨_,q,_⟩
    ·cases q
    exact q
   have HT:Aside (T=(xs,n)):=by
    show T=(xs,n)
    have:=A.o.2.2;rw [AB hr] at this;exact ko5
   go_wp2;go_ret2;exact ⟨ov,by rw [HT.o];rfl,by rw [HT.o];exact HV.o.1,HV.o.2⟩
  | true=>
   have hr:nv (s.data.toList.drop n)=some (x,m):=by
    rcases HR.o with ⟨_,q⟩ | ⟨q,_⟩
    ·exact q
    cases q
   have hp:=tz hr;rw [ZH] at hp;have hsz:s.data.toList.length=s.size:=zr;rw [hsz] at hp;have hwr:IntKind.i64.wrap ((n:Int)+(m:Int))=((n+m:Nat):Int):=zw
   obtain ⟨nm,dM⟩:∃nm:Nat,Aside (nm=n+m):=⟨_,rfl⟩
   rw [<-dM.o] at hwr
   have HT:Aside (T=((xs++ [x])++(mp (s.data.toList.drop nm)).1,nm+(mp (s.data.toList.drop nm)).2)/\(xs++ [x]).length<=20000):=by
    have h1:=A.o.2.2;rw [AM hr,List.drop_drop] at h1;refine ⟨by rw [h1,dM.o];simp;omega,?_⟩;have bD:=KQ s.data.toList;rw [<-hT.o,h1] at bD
    simp at bD |-
    omega
   obtain ⟨j0,j1,j2,j3,j4,j5,j6,j7,jf⟩:=OV.cells;go_wp2_with (at_builtin;refine wpList_append_own _ rfl _ _ 136 rfl w.heap.size 88 i0 _ 8 80 underlying136 d6 aD aw aH rfl zj _ _ _ rfl (HV.o.1.alloc _) (qB V.heap.size) 1 1 (ny x) rfl ?qc1 ?qc2 ?qc3 ?qc4 ?qc5 ?qc6 ?_)
   case qc1=>rfl
   case qc2=>first | exact zdI V x | exact fun j u h=>h
   case qc3=>exact zdM x
   case qc4=>simp only [maxLen];omega
   case qc5=>omega
   case qc6=>have:=HV.o.2.size;omega
   intro v' w4 hown ag hnil
   have HN:Aside (w4.ownsRow w.heap.size 88 8 v' (xs++ [x]).length (cellsOf (xs++ [x]))/\qL w w4):=by
    refine ⟨?_,?_⟩
    ·rw [ME,uQ];exact hown
    exact (HV.o.2.alloc HV.o.2.size _).grown ag (by simp;have:=HV.o.2.size;omega) (fun k hk=>(HV.o.1.lt k hk).1)
   go_wp2;go_roundg (s.size - nm)
   case measure=>have:=dM.o;omega
   case rel=>exact ⟨nm,xs++ [x],_,rfl,rfl,by have:=dM.o;omega,uL _,HT.o.2,HN.o.1,HN.o.2,HT.o.1⟩
theorem OB(g n cap k)(w)(h:k<=cap):(Instr.slice 141 (qG g n cap) none (some (qN k)) none).run prog w= .ok (qG g k cap) w:=by
 exact km8
def wH(st:DSt):DSt:=(st.1.take (mp st.1).2,false,false,st.2.2.2)
def zap(d:Nat)(v:Value)(w:qW)(st:DSt)(e:Ending)(w':qW):Prop:=∃rv:Value,e=qT #[rv,.nilIface]/\Aside (D7 d v w (wH st) w'/\w'.ownsRow w.heap.size 88 8 rv (mp st.1).1.length (cellsOf (mp st.1).1)/\m7 (fun k=>k=d) w w')
theorem Ie{B}{ad}{d}{v}{st}(w)(hD:t6 w d v st)(hE:N5 B ad w)(hO:∀k,DI d v k->B<=k)(hB:st.1.length<=65536):
  Calls prog 123 #[.pointer (some ⟨d,0,none⟩)] w (zap d v w st):=by
 obtain ⟨B0,off,waits,left⟩:=st;have hon:=zbU w hD;obtain ⟨g,cap,aT⟩:=hD.row.aab;dsimp only at aT hB
 have H0:Aside (t6 w d v (B0,off,waits,left)/\N5 B ad w/\∀k,DI d v k->B<=k):=⟨hD,hE,hO⟩
 have HV:Aside (v= .slice (some ⟨g,0,none⟩) B0.length cap):=aT;clear hD hE hO aT;go_enter func123,ntmps123;go_wp2_with fail;refine hon.mono ?_;clear hon;rintro e w1 ⟨⟨u,rfl⟩,H1⟩;have bJ:=NT w1 H1.o.1;dsimp only at bJ
 obtain ⟨s,hs⟩:∃s:ByteArray,Aside (s=⟨B0.toArray⟩):=⟨_,rfl⟩
 rw [<-hs.o] at bJ
 have fU:s.data.toList=B0:=by rw [hs.o]
 have hss:s.size<=65536:=by rw [hs.o];simpa [ByteArray.size] using hB
 have ee:=H0.o.2.1.mono (H1.o.2.m8 H0.o.2.1.size (fun k e=>by rw [e];exact H0.o.2.2 d (.inl rfl)));have jA:=Ok s w1 ee zj;obtain ⟨T,hT⟩:=ze (mp B0);unfold IL at jA;rw [fU,<-hT.o] at jA;clear fU ee;go_wp2_with fail;refine bJ.mono ?_;clear bJ;rintro e w2 ⟨rfl,rfl⟩;go_wp2_with fail;refine jA.mono ?_;clear jA;rintro e w3 ⟨rv,rfl,H3⟩;have hD3:=H1.o.1.later H3.o.2;obtain ⟨c0,c1,c2,c3,cf⟩:=hD3.c;rw [HV.o] at c0;obtain ⟨k,hk⟩:=ze T.2
 have hkB:k<=B0.length:=by
  rw [hk.o,hT.o];exact (KQ B0).1
 have hcap:B0.length<=cap:=by
  obtain ⟨g',cap',cur,fr,e1,_,_,h3,_⟩:=hD3.row;rw [HV.o] at e1
  cases e1
  exact h3
 have fQ:=fun W=>OB g B0.length cap k W zj
 rw [<-hk.o]
 have HF:Aside (D7 d v w (B0.take T.2,false,false,left) (w3.setCell ⟨d,0,none⟩ (.slice (some ⟨g,0,none⟩) k cap))/\(w3.setCell ⟨d,0,none⟩ (.slice (some ⟨g,0,none⟩) k cap)).ownsRow w.heap.size 88 8 rv T.1.length (cellsOf T.1)/\m7 (fun k=>k=d) w (w3.setCell ⟨d,0,none⟩ (.slice (some ⟨g,0,none⟩) k cap))):=by
  have hrow:P6 w3 (.slice (some ⟨g,0,none⟩) k cap) (B0.take T.2):=by
   have:=hD3.row;dsimp only at this;rw [HV.o] at this;rw [<-hk.o];exact this.cut hkB
  have hne:(Value.slice (some ⟨g,0,none⟩) k cap).ownBlock≠some d:=by
   have:=hD3.ne;rw [HV.o] at this;exact this
  have h4:=t6.aa1 hD3.cell hrow hne hD3.left;have hk3:m7 (fun k=>k=d) w2 w3:=(lW H3.o.2).mono (fun k hk q=>zj);have gA:=(H1.o.2.trans hk3).trans h4.2;refine ⟨⟨_,h4.1,gA.mono (fun k _ e=>.inl e),fun g' hg'=>.inl (by rw [HV.o];exact hg')⟩,?_,gA⟩;have hr:=H3.o.1;have hr':=zbH hr (w':=w3.setCell ⟨d,0,none⟩ (.slice (some ⟨g,0,none⟩) k cap)) (fun g' hg'=>h4.2.block g' (hr.lt g' hg').2 (fun e=>by have:=(hr.lt g' hg').1;have:=H1.o.1.lt;omega));have hws:=H1.o.2.size
  rcases hr'.2 with q | ⟨g2,cap2,cur2,e1,hb2,rest⟩
  ·exact ⟨hr'.1,.inl q⟩
  exact ⟨hr'.1,.inr ⟨g2,cap2,cur2,e1,uO hws hb2,rest⟩⟩
 clear hD3 c1 c2 c3 hkB hcap H3 H1;go_wp2;go_ret2;refine ⟨rv,rfl,?_⟩;unfold wH;dsimp only;rw [<-hT.o];exact HF.o
end
section
theorem AD:∀(r:qU) (B:qU) (left:Int),pZ (B,false,false,left) r=(true,(B++r,false,false,left))
 | [],B,left=>by simp [pZ]
 | c::r,B,left=>by
  have h:wr1 (B,false,false,left) c=(true,(B++ [c],false,false,left)):=by unfold wr1;simp
  rw [pZ,h,if_pos rfl,AD r];simp
theorem Rz(c)(r)(B)(left):pZ (B,true,false,left) (c::r)=(false,(B,true,false,left)):=by
 simp_all [wr1,pZ,if_neg]
theorem JC:∀(r:qU) (B:qU) (left:Nat),pZ (B,false,true,(left:Int)) r=if r.length<=left then (true,(B++r,false,true,((left - r.length:Nat):Int))) else (false,(B++r.take left,true,false,0))
 | [],B,left=>by simp [pZ]
 | c::r,B,0=>by
  simp_all [wr1,pZ,if_neg]
 | c::r,B,left+1=>by
  have h:wr1 (B,false,true,((left+1:Nat):Int)) c=(true,(B++ [c],false,true,(left:Int))):=by
   unfold wr1;have:¬((left:Int)+1=0):=zj;simp [this]
  rw [pZ,h,if_pos rfl,JC r (B++ [c]) left]
  simp_all
theorem zab(t):∃c r,nB t=c::r:=by
 cases h:nB t with
 | nil=>grind [nD]
 | cons c r=>exact ⟨c,r,rfl⟩
theorem PY(dn)(x):oN (dn++ [x])=oN dn++nB (mQ x):=by
 grind [Ar,oN,nB,mQ]
theorem Pa(dn)(h:∀x∈dn,wt x=0):mp (oN dn)=(dn,(oN dn).length):=by
 have:=AL dn [] h CC
 simp_all
theorem BC{B}{left}{x}(he:wt x=0)(hl:B.length+(nB (mQ x)).length<=65536):pN (B,false,false,left) x=(0,(B++nB (mQ x),false,false,left)):=by
 simp_all [pN,if_neg,AD]
end
section
open ChangeShapes WideShapes RowKit Deep
theorem Qa:prog.cellsOf 9=1:=zk
theorem Qr{H}{enc}{W}{l9}{sp}{held}{ao}{D4 cap}{d:DataW H}{p}
  (h:DataW.Trod enc prog W l9 sp held 22 (.slice ao D4 cap) d p):∃xs:List ByteArray,xs.length=D4/\D4<=maxLen/\I7 W ao xs/\∀x∈xs,x.size<=maxLen:=by
 obtain ⟨fuel,hf⟩:=h
 rcases open_slice underlying22 hf with ⟨hcs,_⟩ | ⟨a,len',cap',m,n,D,Pl,hcs,_,hl,hmax,hm,_,hx⟩
 ·simp [Value.cells] at hcs;obtain ⟨rfl,rfl,rfl⟩:=hcs;exact ⟨[],rfl,uW _,fun i x hx=>ya,fun x hx=>ya⟩
 simp [Value.cells] at hcs;obtain ⟨rfl,rfl,rfl⟩:=hcs
 have jG:D4<=m:=by subst hm;split<;>omega
 have Y9:∀i,i<D4->∃z:ByteArray,z.size<=maxLen/\W.cell? (a.add i)=some (.string z):=fun i hi=>by
  obtain ⟨cs',h1,h2⟩:=hx i zj;rw [Qa] at h1;obtain ⟨z,e0,_,wz⟩:=DataW.trod_string underlying9 h2;have:=(World.cells?_some h1).2.2 0 zj;rw [e0] at this;rw [Nat.mul_one] at this;obtain ⟨b,off,spot⟩:=a;exact ⟨z,wz,by simpa [Addr.add] using this⟩
 obtain ⟨f,hf⟩:=choose_lt Y9;obtain ⟨b,off,spot⟩:=a;refine ⟨(List.range D4).map f,zr,zj,fun i x hi=> ?_,fun x hx=> ?_⟩
 ·have ce:i<D4:=by simpa using (uI.1 hi).1
  have cQ:f i=x:=by
   rw [ZM,List.getElem?_range ce] at hi;simpa using hi
  have hz:=(hf i ce).2;rw [cQ] at hz
  have hspot:spot=none:=by simpa [Addr.add] using World.cell?_spot (hf 0 zj).2
  subst hspot
  have hz':W.cell? (qA b (off+i))=some (.string x):=by
   by_cases h0:i=0
   ·subst h0;simpa [Addr.add] using hz
   simpa [Addr.add,h0] using hz
  exact ⟨b,off,rfl,uN W _ hz',hz'⟩
 grind

end