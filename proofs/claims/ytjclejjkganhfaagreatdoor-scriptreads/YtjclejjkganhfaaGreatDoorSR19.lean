import Derived.Test.YtjclejjkganhfaaGreatDoorSR05
import Derived.Test.YtjclejjkganhfaaGreatDoorSR14
import Derived.Test.YtjclejjkganhfaaGreatDoorSR15
import Derived.Shelf.SlicesE.Clone
import Derived.Lib.OwnBridge
import Derived.Sort.OwnSortedInts
set_option linter.unusedSimpArgs false
set_option linter.unusedVariables false
set_option maxRecDepth 100000
set_option maxHeartbeats 64000000
namespace Go.Proofs.YtjclejjkganhfaaGreatDoor
open Go.Proofs.Tryz
section
open Shelf RowKit Lib Go.Sort
def My(P:Program){β:Type}[Inhabited β](lt:β->β->Bool)(k:Nat)(enc:β×Nat->List Value)(g:Nat)(w0:qW)(blk off cap a b:Nat)(d:Array (β×Nat))(w:qW):Prop:=
 Calls P 329 #[.slice (some (qA blk off)) d.size cap,qI a,qI b,.func (.func g) #[] #[]] w fun e w'=>e=qT #[]/\∃d',(PermIn a b d d'/\SortedIn (slt lt) a b d')/\SWK enc k w0 blk off d' w'
theorem Ht{P}{β}[Inhabited β]{lt}{k}{enc}{cf}{g}{w0}{blk off}{d0}(V:Ws P lt k enc cf g w0 blk off d0)(cap)(d:Array (β×Nat))(w)
  (hF:P.funcs[(272:Nat)]? =some f272)
  (eI:∀args w,(callFunc 329 args).run P w= .ok (.enter 329 args) w)
  (INS:∀a b d w,d0.size=d.size->SWK enc k w0 blk off d w->a<=b->b<=d.size->d.size<4611686018427387904->(∀p q,a<=p->p<q->q<b->d[p]!.2<d[q]!.2)->My P lt k enc g w0 blk off cap a b d w)
  (hs:d0.size=d.size) (S:SWK enc k w0 blk off d w) (ht:∀p,p<d.size->d[p]!.2=p) (hsz:d.size<1152921504606846976):
  Calls P 272 #[.slice (some (qA blk off)) d.size cap,qI d.size,.func (.func g) #[] #[]] w fun e w'=>e=qT #[]/\∃d',(PermIn 0 d.size d d'/\SortedIn (slt lt) 0 d.size d')/\SWK enc k w0 blk off d' w':=by
 have L:=V.ty;have eM:∀args w,(callFunc 330 args).run P w= .ok (.enter 330 args) w:=enters_of V.fM zk rfl;have I0:Aside (∀a b d w,d0.size=d.size->SWK enc k w0 blk off d w->a<=b->b<=d.size->d.size<4611686018427387904->(∀p q,a<=p->p<q->q<b->d[p]!.2<d[q]!.2)->My P lt k enc g w0 blk off cap a b d w):=INS;have S0:Aside (SWK enc k w0 blk off d w):=S;have T0:Aside (∀p,p<d.size->d[p]!.2=p):=ht;clear S ht INS;go_enter hF,ntmps272;go_wp2;go_loopg [7,8] d.size (fun kx s7 s8 wr=>∃(c a:Nat) (dk:Array (β×Nat)),s7=qN a/\s8=qI ((a:Int)+20)/\a<=d.size/\d.size - a<=kx/\dk.size=d.size/\Aside (a=c*20)/\Aside (L4 lt 20 a d.size dk)/\Aside (∀p,a<=p->p<d.size->dk[p]!.2=p)/\Aside (PermIn 0 d.size d dk)/\Aside (SWK enc k w0 blk off dk wr))
 case atStart=>exact ⟨0,0,d,rfl,yg,uW _,uL _,rfl,(by omega:(0:Nat)=0*20),⟨fun p hp c=>by rw [T0.o p hp],fun i j _ hj=>zj⟩,fun p _ hp=>T0.o p hp,permIn_refl _ _ _,S0⟩
 case round=>
  clear S0 T0;obtain ⟨c,a,dk,rfl,rfl,han,aY,fC,HA,BL,TG,PM,S1⟩:=hrel;by_cases hlt:a+20<=d.size
  ·have q1:decide ((a:Int)+20<=(d.size:Int))=true:=by simp;omega
   go_wp2_with fail;clear q1;have c1:(a:Int)+20=((a+20:Nat):Int):=zj;have C:=I0.o a (a+20) dk wr zj S1.o zj zj zj (fun p q hp kJ hq=>xz);unfold My at C;rw [fC,<-c1] at C;clear c1;refine C.mono ?_;clear C;rintro ex w1 ⟨rfl,d1,⟨PM1,SO1⟩,S_1⟩;have S2:Aside (SWK enc k w0 blk off d1 w1):=S_1
   have cW:d1.size=d.size:=by rw [PM1.1,fC]
   have lJ:Aside (L4 lt 20 (a+20) d.size d1):=L4.K6 BL.o fC.symm HA.o hlt (.inl rfl) PM1 SO1
   have TG2:Aside (∀p,a+20<=p->p<d.size->d1[p]!.2=p):=fun p hp gx=>by rw [PM1.2.1 p (.inr hp)];exact TG.o p zj gx
   have lF:Aside (PermIn 0 d.size d d1):=permIn_trans _ _ _ _ _ PM.o (permIn_mono dk d1 _ _ _ _ (uW _) hlt zj PM1)
   have HA2:Aside (a+20=(c+1)*20):=by have:=HA.o;show _=_;omega
   clear S_1 PM1 SO1 BL TG PM S1 HA;go_wp2;go_roundg (d.size - (a+20))
   case measure=>omega
   case rel=>exact ⟨c+1,a+20,d1,zN,by first | rfl | go_num | (congr 1;omega),hlt,uL _,cW,HA2,lJ,TG2,lF,S2⟩
  have q1:decide ((a:Int)+20<=(d.size:Int))=false:=zm;go_wp2_with fail;clear q1;have C:=I0.o a d.size dk wr zj S1.o zj zj zj (fun p q hp kJ hq=>xz);unfold My at C;rw [fC] at C;refine C.mono ?_;clear C;rintro ex w1 ⟨rfl,d1,⟨PM1,SO1⟩,S_1⟩;have S2:Aside (SWK enc k w0 blk off d1 w1):=S_1
  have cW:d1.size=d.size:=by rw [PM1.1,fC]
  have lJ:Aside (L4 lt 20 d.size d.size d1):=L4.K6 BL.o fC.symm HA.o zg (.inr ⟨rfl,zj⟩) PM1 SO1;have lF:Aside (PermIn 0 d.size d d1):=permIn_trans _ _ _ _ _ PM.o (permIn_mono dk d1 _ _ _ _ (uW _) zg zj PM1);clear S_1 PM1 SO1 BL TG PM S1 HA aY hlt;go_wp2;go_loopg [6] d.size (fun kx s6 wr=>∃(B:Nat) (dk:Array (β×Nat)),s6=qN B/\20<=B/\d.size - B<=kx/\dk.size=d.size/\Aside (L4 lt B d.size d.size dk)/\Aside (PermIn 0 d.size d dk)/\Aside (SWK enc k w0 blk off dk wr))
  case atStart=>exact ⟨20,d1,rfl,uL _,zj,cW,lJ,lF,S2⟩
  case round=>
   clear S2 lJ lF cW;obtain ⟨B,dk2,rfl,hB,aY,hdk2,BL,PM,S1⟩:=hrel;by_cases hBn:B<d.size
   ·have q1:qlt B d.size=true:=by simp;omega
    have HF:Aside (Y4 lt B 0 d.size dk2):=BL.o.adK;go_wp2;clear q1 BL;go_loopg [7,8] d.size (fun kx s7 s8 wr=>∃(c a:Nat) (dk:Array (β×Nat)),s7=qN a/\s8=qI ((a:Int)+2*(B:Int))/\a<=d.size/\d.size - a<=kx/\dk.size=d.size/\Aside (a=c*(2*B))/\Aside (Y4 lt B a d.size dk)/\Aside (PermIn 0 d.size d dk)/\Aside (SWK enc k w0 blk off dk wr))
    case atStart=>exact ⟨0,0,dk2,rfl,yg,uW _,uL _,hdk2,(by show 0=_;rw [Nat.zero_mul]),HF,PM,S1⟩
    case round=>
     clear S1 PM HF hdk2;obtain ⟨c,a,dk3,rfl,rfl,han,hkx3,fB,HA,HF,PM,S1⟩:=hrel;by_cases hlt:a+2*B<=d.size
     ·have q1:decide ((a:Int)+2*(B:Int)<=(d.size:Int))=true:=by simp;omega
      go_wp2_with fail;clear q1;have c1:(a:Int)+(B:Int)=((a+B:Nat):Int):=zj;have c2:(a:Int)+2*(B:Int)=((a+2*B:Nat):Int):=zj;have C:=IF V cap _ a (a+B) (a+2*B) dk3 wr zg zj S1.o (HF.o.adl HA.o rfl zj zj hlt) zj zj zj zj;unfold pr at C;rw [fB,<-c1,<-c2] at C;clear c1 c2;refine C.mono ?_;clear C;rintro ex w1 ⟨rfl,d1,⟨PM1,SO1⟩,S_1⟩;have S2:Aside (SWK enc k w0 blk off d1 w1):=S_1
      have cW:d1.size=d.size:=by rw [PM1.1,fB]
      have HF2:Aside (Y4 lt B (a+2*B) d.size d1):=Y4.K6 HF.o fB.symm HA.o zj hlt (.inl rfl) PM1 SO1;have lF:Aside (PermIn 0 d.size d d1):=permIn_trans _ _ _ _ _ PM.o (permIn_mono dk3 d1 _ _ _ _ (uW _) hlt zj PM1)
      have HA2:Aside (a+2*B=(c+1)*(2*B)):=by show _=_;rw [YC,<-HA.o];omega
      clear S_1 PM1 SO1 HF PM S1 HA;go_wp2;go_roundg (d.size - (a+2*B))
      case measure=>omega
      case rel=>exact ⟨c+1,a+2*B,d1,yg,yg,hlt,uL _,cW,HA2,HF2,lF,S2⟩
     have q1:decide ((a:Int)+2*(B:Int)<=(d.size:Int))=false:=zm;by_cases hmn:a+B<d.size
     ·have q2:decide ((a:Int)+(B:Int)<(d.size:Int))=true:=by simp;omega
      go_wp2_with fail;clear q1 q2;have c1:(a:Int)+(B:Int)=((a+B:Nat):Int):=zj;have C:=IF V cap _ a (a+B) d.size dk3 wr zg zj S1.o (HF.o.adl HA.o rfl zj zj zg) zj zj zj zj;unfold pr at C;rw [fB,<-c1] at C;clear c1;refine C.mono ?_;clear C;rintro ex w1 ⟨rfl,d1,⟨PM1,SO1⟩,S_1⟩;have S2:Aside (SWK enc k w0 blk off d1 w1):=S_1
      have cW:d1.size=d.size:=by rw [PM1.1,fB]
      have lJ:Aside (L4 lt (2*B) d.size d.size d1):=(Y4.K6 HF.o fB.symm HA.o zj zg (.inr ⟨rfl,zj⟩) PM1 SO1).acZ;have lF:Aside (PermIn 0 d.size d d1):=permIn_trans _ _ _ _ _ PM.o (permIn_mono dk3 d1 _ _ _ _ (uW _) zg zj PM1);clear S_1 PM1 SO1 HF PM S1 HA;go_wp2;go_roundg (d.size - 2*B)
      case measure=>omega
      case rel=>exact ⟨2*B,d1,yg,zj,uL _,cW,lJ,lF,S2⟩
     have q2:decide ((a:Int)+(B:Int)<(d.size:Int))=false:=zm;have lJ:Aside (L4 lt (2*B) d.size d.size dk3):=HF.o.adI HA.o zj;clear HF HA;go_wp2;go_roundg (d.size - 2*B)
     case measure=>omega
     case rel=>exact ⟨2*B,dk3,yg,zj,uL _,fB,lJ,PM,S1⟩
   have q1:qlt B d.size=false:=zm;go_wp2;go_end0;exact ⟨rfl,dk2,⟨PM.o,BL.o.all zj⟩,S1.o⟩
def zbZ:Ren:=⟨fun | 20=>329 | n=>n,fun | 0=>0 | 3=>3 | 4=>4 | 22=>136 | 24=>88 | 25=>307 | n=>n,fun n=>n⟩
theorem Tx:SlLaysF0.n20 prog zbZ where
 mixed:=zk
 f20:=⟨ "slices.insertionSortCmpFunc[concordat/api.Op]",zk,func329.trans qk⟩
 t0:=underlying0
 a0:=isAgg0
 z0:=sizeOf0
 v0:=zeroValue0
 t3:=underlying3
 a3:=isAgg3
 z3:=sizeOf3
 v3:=zeroValue3
 t4:=underlying4
 a4:=isAgg4
 z4:=sizeOf4
 v4:=zeroValue4
 t22:=underlying136
 a22:=isAgg136
 z22:=sizeOf136
 v22:=zeroValue136
 t25:=underlying307
 a25:=isAgg307
 z25:=sizeOf307
 v25:=zeroValue307
theorem zcn{w0}{blk off}{d0}(R:RowK Cl 8 w0 blk off d0)(cap a b)(d)(w)(hs:d0.size=d.size)(S:SWK Cl 8 w0 blk off d w)(hab:a<=b)(hb:b<=d.size)(hsz:d.size<4611686018427387904)(ht:∀p q,a<=p->p<q->q<b->d[p]!.2<d[q]!.2):
  My prog ltX 8 Cl 223 w0 blk off cap a b d w:=by
 have I:=MC PK d a b hab hb ht;rw [<-Pb] at I;unfold My;refine (AnyQ.insertionSortCmpFunc Tx 8 isAgg88 sizeOf88 Cl R.hk R.h1 Vh 223 #[] blk off cap a b d w VK (Jd blk off d.size w) (S.holds R.hblk R.hH hs.symm) (S.lt R.hblk) hab hb hsz).mono ?_;rintro e w' ⟨rfl,n,os,rfl⟩;exact ⟨rfl,_,I,S.on R.hblk n _ os I.1.1⟩
theorem Rr{w0}{blk off}{d0}(R:RowK Cl 8 w0 blk off d0):Ws prog ltX 8 Cl Vh 223 w0 blk off d0:=
 ⟨Sg,func379,func366,func330,R,NO,PK,VK,Jd blk off d0.size w0⟩
theorem tY(w)(blk off cap)(d)(R:RowK Cl 8 w blk off d)(ht:∀p,p<d.size->d[p]!.2=p)(hsz:d.size<1152921504606846976):
  qC 222 #[.slice (some (qA blk off)) d.size cap,.func (.func 223) #[] #[]] w fun e w'=>e=qT #[]/\∃d',(PermIn 0 d.size d d'/\SortedIn (slt ltX) 0 d.size d')/\SWK Cl 8 w blk off d' w':=by
 have eS:∀args w,(callFunc 272 args).run prog w= .ok (.enter 272 args) w:=enters_of func272 zk rfl;have eI:∀args w,(callFunc 329 args).run prog w= .ok (.enter 329 args) w:=enters_of func329 zk rfl;have C:=Ht (Rr R) cap d w func272 eI (zcn R cap) rfl (SWK.start R.hH) ht hsz;have CA:Aside _:=C;go_enter func222,ntmps222;go_wp2_with fail;refine Calls.mono CA.o ?_;rintro e w' ⟨rfl,d',hd,S⟩;have S2:Aside (SWK Cl 8 w blk off d' w'):=S;have H2:Aside (PermIn 0 d.size d d'/\SortedIn (slt ltX) 0 d.size d'):=hd;go_wp2;go_end0;exact ⟨rfl,d',H2.o,S2.o⟩
def Tt:Ren:=⟨fun | 41=>97 | n=>n,fun | 4=>4 | 22=>136 | 23=>88 | n=>n,fun n=>n⟩
theorem Di:SlLaysE0.n41 prog Tt where
 mixed:=zk
 f41:=⟨ "slices.Clone[[]concordat/api.Op,concordat/api.Op]",zk,func97.trans qk⟩
 t4:=underlying4
 a4:=isAgg4
 z4:=sizeOf4
 v4:=zeroValue4
 t22:=underlying136
 a22:=isAgg136
 z22:=sizeOf136
 v22:=zeroValue136
theorem AF(w)(b off c)(xs)(hn:xs.length<=1000)(hc:∀j u,(cellsOf xs)[j]? =some u->w.cell? (qA b (off+j))=some u):
  qC 97 #[.slice (some (qA b off)) xs.length c] w fun e w'=>∃v',e= .returned v'/\w'.ownsRow w.heap.size 88 8 v' xs.length (cellsOf xs)/\v'≠qE/\qL w w':=by
 obtain ⟨i0,hi,aD,aw,aH⟩:=info_parts rA;exact AnyE.slices_Clone Di i0 _ 8 80 hi aD aw aH rfl zj sizeOf88 b off xs.length c (cellsOf xs) w (mo xs) zB zj hc (JV xs)
theorem CD(w):qC 97 #[qE] w fun e w'=>e= .returned qE/\w'=w:=
 AnyE.slices_Clone_nil Di 0 0 w
def pD(xs:qX):Array (OpX×Nat):=xs.zipIdx.toArray
theorem mt(xs):(pD xs).size=xs.length:=by simp [pD]
theorem Gi(xs)(i)(hi:i<xs.length):(pD xs)[i]! =(xs[i]!,i):=by
 grind [mt,pD]
theorem Vw{w}{l9 n g cap}{xs}(hn:n=xs.length)(h:w.ownsRow l9 88 8 (qG g n cap) n (cellsOf xs)):RowK Cl 8 w g 0 (pD xs) where
 hk:=TY
 h1:=UK
 hblk:=(h.lt g rfl).2
 hH:=fun j hj=>by
  rw [size_flatK,mt] at hj;have h1:j / 8<xs.length:=zj;have h2:j / 8*8+j % 8=j:=zj;refine ⟨?_,yS⟩;rw [Zc,h.cellAt j zj,get_flatK _ _ _ _ (by rw [mt];exact hj),Gi xs _ h1];have:=ma xs (j / 8) (j % 8) h1 zj;rw [h2] at this;exact this
theorem below_grow{B}{w0 w}{os}(h:Below B w0 w)(hB:B<=w.heap.size):Below B w0 (grow w os):=
 ⟨h.os,h.tape,h.output,by rw [Go.Sort.size_grow];exact uO h.size (Nat.le_add_right _ _),fun k hk=>by
  rw [<-h.block k hk]
  simp only [grow]
  grind⟩
theorem sV{B}{w0 w w'}{g}{d}(h:Below B w0 w)(hg:B<=g)(hB:B<=w.heap.size)(S:SWK Cl 8 w g 0 d w'):Below B w0 w':=by
 obtain ⟨n,os,rfl⟩:=S;unfold sortWorldK putRowK
 simp_all [below_grow,below_putRow]
theorem Fu{w w'}{g}{d d'}(R:RowK Cl 8 w g 0 d)(hs:d'.size=d.size)(S:SWK Cl 8 w g 0 d' w')(j)(u)(hj:(cellsOf (d'.toList.map Prod.fst))[j]? =some u):w'.cell? (qA g (0+j))=some u:=by
 have H:=S.holds R.hblk R.hH hs;have hl:=(uI.1 hj).1;rw [mo,Zh,ZK] at hl;have h1:j / 8<d'.size:=zj;have h2:j / 8*8+j % 8=j:=zj;have c:=ma (d'.toList.map Prod.fst) (j / 8) (j % 8) (by rw [Zh,ZK];exact h1) zj;rw [h2,hj] at c;have H1:=(H j xc).1
 grind [get_flatK,Cl,ny,Zh,ZK]
def oI(xs ys:qX):Prop:=∃d':Array (OpX×Nat),(PermIn 0 xs.length (pD xs) d'/\SortedIn (slt ltX) 0 xs.length d')/\ys=d'.toList.map Prod.fst
theorem Xl(fv)(w):qC 329 #[qE,qI 0,qI 0,fv] w fun e w'=>e=qT #[]/\w'=w:=by
 go_enter func329,ntmps329;go_wp2;refine wp_loop_rounds 1 ?_;rw [rounds_succ];go_wp2;go_end0;exact ki2
theorem LE(g:Nat)(w):qC 272 #[qE,qI 0,.func (.func g) #[] #[]] w fun e w'=>e=qT #[]/\w'=w:=by
 go_enter func272,ntmps272;go_wp2;refine wp_loop_rounds 1 ?_;rw [rounds_succ];go_wp2_with fail;refine (Xl _ _).mono ?_;rintro e w' ⟨rfl,rfl⟩;go_wp2;refine wp_loop_rounds 1 ?_;rw [rounds_succ];go_wp2;go_end0;exact ki2
theorem se(g:Nat)(w):qC 222 #[qE,.func (.func g) #[] #[]] w fun e w'=>e=qT #[]/\w'=w:=by
 go_enter func222,ntmps222;go_wp2_with fail;refine (LE _ _).mono ?_;rintro e w' ⟨rfl,rfl⟩;go_wp2;go_end0;exact ki2
theorem Lt(w)(v)(xs)(h:M1 w v xs)(hn:xs.length<=1000):
  qC 158 #[v] w fun e w'=>∃v' ys,e= .returned v'/\M1 w' v' ys/\oI xs ys/\qL w w'/\∀g,v'.ownBlock=some g->w.heap.size<=g:=by
 rcases h with ⟨rfl,rfl⟩ | ⟨blk,off,cap,rfl,hc⟩
 ·go_enter func158,ntmps158;go_wp2_with fail;refine (CD _).mono ?_;rintro e w' ⟨rfl,rfl⟩;go_wp2_with fail;refine (se _ _).mono ?_;rintro e w1 ⟨rfl,rfl⟩;go_wp2;go_ret;exact ⟨_,[],rfl,.inl ⟨rfl,rfl⟩,⟨#[],⟨permIn_refl _ _ _,fun i j _ _ hj=>absurd hj zr⟩,rfl⟩,uM _ _,fun g hg=>xA⟩
 have HC:Aside (∀j u,(cellsOf xs)[j]? =some u->w.cell? (qA blk (off+j))=some u):=hc;go_enter func158,ntmps158;go_wp2_with fail;refine (AF w blk off cap xs hn HC.o).mono ?_;rintro e w1 ⟨v1,rfl,hown,hnil,hb⟩
 obtain ⟨g,c1,rfl,hg⟩:∃g c1,v1=qG g xs.length c1/\w.heap.size<=g:=by
  rcases hown.2 with ⟨h1,_⟩ | ⟨g,c1,cur,h1,h2,_⟩
  ·exact absurd h1 hnil
  exact ⟨g,c1,h1,h2⟩
 have R0:Aside (RowK Cl 8 w1 g 0 (pD xs)):=Vw rfl hown;have HB:Aside (qL w w1):=hb;go_wp2_with fail;have C:=tY w1 g 0 c1 (pD xs) R0.o (fun p hp=>xV) (by rw [mt];omega);rw [mt] at C;refine C.mono ?_;rintro e w2 ⟨rfl,d',hd,S⟩
 have hl:d'.size=xs.length:=by rw [hd.1.1,mt]
 have iy:(d'.toList.map Prod.fst).length=xs.length:=vv
 have F:Aside (M1 w2 (qG g xs.length c1) (d'.toList.map Prod.fst)/\oI xs (d'.toList.map Prod.fst)/\qL w w2):=
  ⟨.inr ⟨g,0,c1,by rw [iy],fun j u hj=>Fu R0.o vN S j u hj⟩,⟨d',hd,rfl⟩,sV HB.o hg HB.o.size S⟩
 go_wp2;go_ret;exact ⟨_,_,rfl,F.o.1,F.o.2.1,F.o.2.2,fun g' hg'=>by cases hg';exact hg⟩
theorem JQ{d d':Array (OpX×Nat)}(h:PermIn 0 d.size d d'):d.toList.Perm d'.toList:=by
 have h2:=h.2.2;have e:=h.1
 have e1:d'.toList.take d.size=d'.toList:=by rw [<-e,<-ZK,Ym]
 first
  | simpa using h2
  | (simp at h2;rw [e1] at h2;exact h2)
  | (simp at h2;rw [e1] at h2;exact h2.symm)
end
section
open RowKit Shelf Maps
open scoped Classical
attribute [local go_sem] Oper.semAt_some
def zaU(f:XX)(ks:List Int):Prop:=ks.Nodup/\∀k,k∈ks↔(f k).isSome=true
def aaz(D:DataW Unit)(f:XX)(left:Lit->Bool)(ks:List Int):Prop:=
 ks.Nodup/\(∀k∈ks,(f k).isSome=true/\left (.int .i64 k)=false)/\∀k,Wf k->has D (.int .i64 k)=true->left (.int .i64 k)=false->k∈ks
theorem Iy(D)(f):aaz D f (has D) []:=⟨YU,fun p hp=>by simp at hp,fun k _ h1 h2=>zL⟩
theorem aaz.K6{D}{f}{left}{ks}(h:aaz D f left ks){x}(hl:left (.int .i64 x)=true)(hf:(f x).isSome=true):aaz D f (fun z=>left z && !z.sameKey (.int .i64 x)) (ks++ [x]):=by
 obtain ⟨h1,h2,h3⟩:=h;refine ⟨?_,fun p hp=> ?_,fun k hw hh bT=> ?_⟩
 ·rw [ZI];refine ⟨h1,zr,fun a ha b hb=> ?_⟩;simp only [Zf] at hb;subst hb;intro e;subst e;have:=(h2 _ ha).2;rw [hl] at this
  cases this
 ·rcases uV.1 hp with hp | hp
  ·have:=h2 p hp;exact ⟨this.1,by show (left (.int .i64 p) &&_)=false;rw [this.2];rfl⟩
  simp only [Zf] at hp;subst hp;refine ⟨hf,?_⟩
  show (left (.int .i64 p) && !Lit.sameKey (.int .i64 p) (.int .i64 p))=false
  rw [BP];simp
 grind [BP,Zm]
theorem aaz.all{D}{f}{left}{ks}(h:aaz D f left ks)(hr:Q1 D f)(G:WW f)(hl:∀kl,left kl=false):zaU f ks:=by
 refine ⟨h.1,fun p=>⟨fun hp=>(h.2.1 p hp).1,fun hp=> ?_⟩⟩;obtain ⟨q,hq⟩:=Yu.1 hp;have hw:=G p q hq;exact h.2.2 p hw (by rw [hr.has hw,hp]) (hl _)
theorem To(F)(n)(h8:F.fn 181)(cR:F.round=none)(hn:1<=n)(l Bm b nn)(D0)(f)(hr:Q1 D0 f)(G:WW f)(J Jx:List Int->World->Prop)
  (hY:∀pre x W,J pre W->pre.length<nn->YieldAt F (n - 1) prog l #[qI x] W fun e W'=>
   (e= .returned (.bool true)/\J (pre++ [x]) W'/\KeepsWalks W W')\/(e= .returned (.bool false)/\Jx (pre++ [x]) W'))
  (W) (hJ:AbidesFrom W.heap.size J) (hm:W.cell? (qB Bm)=some (.map (some b))) (hown:W.ownsMap prog 3 VM b nn D0) (h0:J [] W):
  CallsIn F n prog 181 #[.func (.yield l) #[] #[],qP Bm] W fun e W'=>(∃v,e= .returned v)/\
   ((∃xs,zaU f xs/\J xs W')\/(∃pre,True/\Jx pre W')):=by
 refine callsIn_of_wp func181 rfl h8 ?_ cR;simp only [ntmps181,Zl,Za,Zq,Nat.reduceAdd,Nat.reduceSub,Zv,Zw,ZD,ZA,ZF,ZE];have bO:=hown.size_le
 gi_wp2_with (first
  | (gi_at_range;refine wpListIn_range_own _ rfl _ 133 rfl 3 217 (int_keyed underlying3) underlying133 _ b nn _ rfl hown ?_;intro w0 dD hg0 fq)
  | gi_in)
 go_frame
 gi_loopw [3] (fun _ wr=>∃(left:Lit->Bool) (eZ:Nat) (ps:List Int),wr.ranges prog 3 VM b W.heap.size nn D0 left eZ/\ps.length+eZ<=nn/\aaz D0 f left ps/\J ps wr)
  (fun _ wr=>wr.rangeLeft b W.heap.size)
 case atStart=>
  exact ⟨_,_,[],dD,by simpa using bO,Iy D0 f,hJ [] W w0 none h0 hg0 (fun r e=>yN)⟩
 case round=>
  obtain ⟨left,eZ,ps,fW,hcs,hC,jo⟩:=hrel
  gi_wp2_with (first
   | (gi_at_next;refine wpListIn_next_ranges _ rfl _ rfl 3 (int_keyed underlying3) VM (Value.int .i64) AG (fun Y9 kl hk=>ub) (fun v y hv=>by grind [FR]) b W.heap.size nn _ _ _ rfl fW ?_ ?_)
   | gi_in)
  ·exact kl7
  intro x c1 kl yd yp w2 bu dZ bT hv aN dC hlt hg2 aJ iI;obtain ⟨x',ex,rfl,fL⟩:=Maps.keyOf_int_inv underlying3 dZ
  obtain rfl:x=x':=by simpa using ex
  have kZ:(f x).isSome=true:=by rw [<-hr.has fL];exact has_true_of_atKey aN
  have hJ2:=hJ ps wr w2 (some W.heap.size) jo hg2 (fun r e=>vK);obtain ⟨fn,tmps,assign,body,hy,hR⟩:=hY ps x _ hJ2 zj;have kg:=hC.K6 bT kZ;have H3:Aside (RoundIn F (n - 1) prog l fn tmps assign body _ _):=hR;gi_wp2;refine RoundIn.mono H3.o ?_;rintro e W3 (⟨rfl,hJ4,hk4⟩ | ⟨rfl,hJx4⟩)
  ·gi_wp2;have dB:=dC.of_walks hk4;go_roundw
   case rel=>exact ⟨_,bu,ps++ [x],dB,zm,kg,hJ4⟩
   case measure=>rw [dB.left_eq,fW.left_eq];exact hlt
  gi_wp2;refine bodyPost_ret (results_none rfl _ _ _) rfl ?_
  grind
theorem Ux(F)(n)(hf:F.fn 131)(cR:F.round=none)(mb)(w):
  CallsIn F n prog 131 #[.map mb] w fun e w'=>e= .returned (.func (.func 181) #[] #[qP w.heap.size])/\w'=w.alloc (.cells #[.map mb] 133):=by
 refine callsIn_of_wp func131 rfl hf ?_ cR;simp only [ntmps131,Zl,Za,Zq,Nat.reduceAdd,Nat.reduceSub,Zv,Zw,ZD,ZA,ZF,ZE];gi_wp2;go_ret;exact ki2
theorem LQ(F)(n)(h8:F.fn 181)(cR:F.round=none)(hn:1<=n)(Bm b nn)(f)(w)(eU:Bm<w.heap.size)(hm:w.cell? (qB Bm)=some (.map (some b)))(hM:I5 w b nn f):
  SeqStopsK F n prog 181 #[qP Bm] (fun x:Int=> #[qI x]) KeepsWalks (fun xs=>zaU f xs) (fun _=>True) nn w:=fun l J Jx W hW hJ _ hY h0=>by
 have cN:=hM.lt;obtain ⟨⟨D,hown,hr⟩,G⟩:=hM.same (hW.block b cN);exact To F n h8 cR hn l Bm b nn D f hr G J Jx hY W hJ ((hW.cell (p:=(qB Bm)) eU).trans hm) hown h0
theorem zcF:(prog.info? 3).map (fun i=>(i.zero,i.size,i.bytes))=some (some (qI 0),1,8):=zk
theorem zam(w:qW)(x)(j)(u)(hj:([Value.int .i64 x]:List Value)[j]? =some u):(w.alloc (.cells #[qI x] 3)).cell? (((qB w.heap.size):Addr).add j)=some u:=by
 simp_all [Addr.add_lit,Zc,heap_alloc_new]
theorem WL(x):∀u∈([Value.int .i64 x]:List Value),u.oneCell'=true:=xg
def Db(ks:List Int):List Value:=ks.map fun k=>qI k
theorem Cc(w)(Bm b nn)(f)(eU:Bm<w.heap.size)(hm:w.cell? ⟨Bm,0,none⟩=some (.map (some b)))(hM:I5 w b nn f)(dF:nn<=2000000):
  Calls prog 243 #[.slice none 0 0,.func (.func 181) #[] #[.pointer (some ⟨Bm,0,none⟩)]] w fun e w'=>∃v ps,e= .returned v/\zaU f ps/\ps.length<=nn/\w'.ownsRow w.heap.size 3 1 v ps.length (Db ps)/\Below w.heap.size w w':=by
 obtain ⟨i0,hi,aD,aw,aH⟩:=info_parts zcF;refine (callsIn_wide (n:=4)).1 ?_;refine callsIn_of_wp_marks func243 rfl trivial ?_ rfl;simp only [ntmps243,Zl,Za,Zq,Nat.reduceAdd,Nat.reduceSub,Zv,Zw,ZD,ZA,ZF,ZE];gi_wp2;obtain ⟨w1,hw1⟩:=za (w.alloc (.cells #[.slice none 0 0] 35));rw [<-hw1];have bN:Below w.heap.size w w1:=yY;have aI:w1.heap.size=w.heap.size+1:=xX;obtain ⟨B,hB⟩:=za w.heap.size;have e1:Boxed w1 B 35 (.slice none 0 0):=xe
 rw [<-hB] at bN aI eU |-
 have HB:Aside (B=w.heap.size):=hB;have bF:B<=w.heap.size:=zj;clear hB;have hm1:=(bN.cell (p:=⟨Bm,0,none⟩) eU).trans hm;have cg:=hM.same (bN.block b (by have:=HB.o;have:=hM.lt;omega));clear hw1 hm hM
 refine wpIn_rangeFunc_ownH rfl zj (gf:=181) (lb:= #[.pointer (some ⟨Bm,0,none⟩)]) rfl trivial (enters_of func181 zk rfl)
  (LQ Fence.wide (4 - 1) trivial rfl zj Bm b nn f w1 zj hm1 cg) walksK_t (walksK_b (w:=w1)) (uM _ _) (fun _=>rfl)
  (fun pre W=>((∃v,Boxed W B 35 v/\W.ownsRow B 3 1 v pre.length (Db pre)/\pre.length<=nn))/\(w1.heap.size<=W.heap.size/\Below B w W))
  (fun _ _ _=>False)
  (OwnFrom.and (Own.from (holdsRow_own B B 35 3 1 (fun pre=>pre.length) (fun pre=>Db pre) (fun pre _=>pre.length<=nn)) _) (OwnFrom.and (fun _ X Y row hs hg _=>uO hs hg.size) (ownFrom_below zj zj)))
  (fun _ _ _ _ _ hs _ _=>hs)
  ⟨⟨_,e1,Zi w1 B _ _,uW _⟩,uL _,bN⟩
  (fun x a' W=>a'= {tmps:= #[.slice none 0 0,.func (.func 181) #[] #[.pointer (some ⟨Bm,0,none⟩)],.pointer (some ⟨B,0,none⟩),undef,.slice none 0 0,.int .i64 x,.func (.func 181) #[] #[.pointer (some ⟨Bm,0,none⟩)],.int .i64 x,undef,undef,undef,undef,undef],defers:=[]})
  (fun x a'=>Own.from (fun _ X Y row hs hg hr=>hs) _)
  ?assign ?body ?done ?stop
 case assign=>
  rintro l pre x W K ⟨⟨v,hv,hrow,hpl⟩,hsz,hBW⟩ hK;have dl:Aside _:=hK;have bM:B<=W.heap.size:=zj;clear hK;gi_wp2;refine dl.o _ _ ((KeepsOthers.refl _).from _) (KeepsOthers.refl _).walks ⟨⟨v,hv,hrow,hpl⟩,hsz,hBW⟩ rfl
 case body=>
  rintro l pre x a' W hl _ ⟨⟨v,hv,hrow,hpl⟩,hsz,hBW⟩ rfl hlt;have g1:=hv.cell;have bM:B<=W.heap.size:=zj;gi_wp2_with (gi_at_builtin;refine wpListIn_append_own _ rfl _ _ 35 rfl B 3 i0 _ 1 8 underlying35 hi aD aw aH rfl zj _ _ _ rfl (hrow.alloc _) ⟨W.heap.size,0,none⟩ 1 1 [.int .i64 x] rfl rfl (zam W x) (WL x) zB zj zm ?_;intro v' w2 hown' ag _;obtain ⟨g',cap',rfl⟩:=ownsRow_succ hown';obtain ⟨fO,dx,hr2,hk2,hb2⟩:=hv.appended zo hrow bM zg hown' ag;have hc1:=fO.cell;have jh:=fO.frozen);exact ⟨hk2.from _,hk2.walks,⟨⟨_,dx,by rw [uQ,ZJ];unfold Db at*;rw [ZL];simpa using hr2,zm⟩,uq,hBW.trans hb2⟩⟩
 case done=>
  rintro D ys W hD hall ⟨⟨v,hv,hrow,hpl⟩,hsz,hBW⟩ hK;have g1:=hv.cell;gi_wp2;refine ⟨zr,.inl ⟨_,_,rfl,run_takeDeferred hK,?_⟩⟩;refine ⟨v,by simp [results,f243,go_sem],v,ys,rfl,hall,hpl,?_,?_⟩
  ·exact kl8
  exact ke3
 simp_all
theorem CG(w)(Bm b nn)(f)(eU:Bm<w.heap.size)(hm:w.cell? (qB Bm)=some (.map (some b)))(hM:I5 w b nn f)(dF:nn<=2000000):
  qC 179 #[.func (.func 181) #[] #[qP Bm]] w fun e w'=>∃v ps,e= .returned v/\zaU f ps/\ps.length<=nn/\w'.ownsRow w.heap.size 3 1 v ps.length (Db ps)/\qL w w':=by
 have ha:=Cc w Bm b nn f eU hm hM dF;go_enter func179,ntmps179;go_wp2_with fail;refine ha.mono ?_;rintro e w1 ⟨v,ps,rfl,h⟩;have HH:Aside _:=h;go_wp2;go_ret;exact ⟨v,ps,rfl,HH.o⟩
theorem ID{ks:List Int}(hn:ks.Nodup):(ks.mergeSort fun x y=>decide (x<=y)).Pairwise (· < ·):=by
 have h1:=List.pairwise_mergeSort (le:=fun x y:Int=>decide (x<=y)) (fun a b c h1 h2=>zM) (fun a b=>zM) ks;have h2:(ks.mergeSort fun x y=>decide (x<=y)).Nodup:=(List.mergeSort_perm ks _).nodup_iff.2 hn;exact (h1.and h2).imp (fun {a b} h=>zM)
theorem DS(w)(Bm b nn)(f)(eU:Bm<w.heap.size)(hm:w.cell? (qB Bm)=some (.map (some b)))(hM:I5 w b nn f)(dF:nn<=100000):
  qC 130 #[.func (.func 181) #[] #[qP Bm]] w fun e w'=>∃v ks,e= .returned v/\ks.Pairwise (· < ·)/\(∀k,k∈ks↔(f k).isSome=true)/\ks.length<=nn/\w'.ownsRow w.heap.size 3 1 v ks.length (Db ks)/\qL w w':=by
 have hc:=CG w Bm b nn f eU hm hM zj;go_enter func130,ntmps130;go_wp2_with fail;refine hc.mono ?_;rintro e w1 ⟨v,ps,rfl,hall,hpl,hown,hb⟩
 rcases hown.2 with ⟨rfl,h0⟩ | ⟨g,cap,cur,rfl,hbg,hgb,r1,r2,r3,r4⟩
 ·have bq:=Zg.1 h0;subst bq
  have HH:Aside ((∀k,k∈([]:List Int)↔(f k).isSome=true)/\qL w w1):=⟨hall.2,hb⟩
  have hs:=Tryz.slices_Sort_int_none none 0 w1;go_wp2_with fail;refine hs.mono ?_;rintro e w' ⟨rfl,rfl⟩;go_wp2;go_ret;exact ⟨_,[],rfl,List.Pairwise.nil,HH.o.1,uW _,Zi _ _ _ _,HH.o.2⟩
 have hH:=holds_of_blockI hgb (by simpa [Db] using r4);have bY:=(uK.1 hgb).1;have hs:=Tryz.slices_Sort_int g 0 cap ps w1 hH bY zj;have hlen:(ps.mergeSort fun x y=>decide (x<=y)).length=ps.length:=List.length_mergeSort _
 have H1:Aside (∀n os,(Sort.grow (Sort.putRow (Value.int .i64) (Sort.ahead w1 n) g 0 (ps.mergeSort fun x y=>decide (x<=y)).toArray) os).ownsRow w.heap.size 3 1 (qG g ps.length cap) ps.length (Db (ps.mergeSort fun x y=>decide (x<=y)))/\qL w (Sort.grow (Sort.putRow (Value.int .i64) (Sort.ahead w1 n) g 0 (ps.mergeSort fun x y=>decide (x<=y)).toArray) os)):=fun n os=>
  ⟨ownsRow_sortedI hlen hbg hgb r1 r2 r3,hb.grown (grownBy_sortedI _) hb.size (fun j hj=>by cases hj;exact hbg)⟩
 have HH:Aside (zaU f ps/\ps.length<=nn):=⟨hall,hpl⟩
 have HL:Aside ((ps.mergeSort fun x y=>decide (x<=y)).length=ps.length):=hlen;go_wp2_with fail;refine hs.mono ?_;rintro e w2 ⟨rfl,n,os,rfl⟩;have H2:=H1.o n os
 generalize Sort.grow (Sort.putRow (Value.int .i64) (Sort.ahead w1 n) g 0 (ps.mergeSort fun x y=>decide (x<=y)).toArray) os=w2 at H2 |-
 have H3:Aside _:=H2;go_wp2;go_ret;exact ⟨_,ps.mergeSort fun x y=>decide (x<=y),rfl,ID HH.o.1.1,fun k=>((List.mergeSort_perm ps _).mem_iff).trans (HH.o.1.2 k),by rw [HL.o];exact HH.o.2,by rw [HL.o];exact H3.o.1,H3.o.2⟩
end
section
open scoped Classical
theorem sD{x}(h:mv x=0)(hk:kdO x=109):2<=mY x/\mY x<=idO x/\0<=mX x/\mX x<idO x/\nY x.2.2.2.2.2.2.1.data.toList=true:=by
 unfold mv opE at h;split at h
 ·unfold wd at h;rw [if_pos hk] at h;unfold nw at h;split at h
  ·cases h
  rename_i hn;split at h
  ·cases h
  rename_i hm;refine ⟨?_,?_,?_,?_,?_⟩
  ·simp_all
  ·show x.2.2.2.2.1<=x.1*4+x.2.1;omega
  ·simp_all
  ·show x.2.2.2.2.2.1<x.1*4+x.2.1;omega
  simpa using hm
 cases h
theorem Bq:∀(ms:List Mov) (f:Sta) (k:Int) (p:Plc),Ad f ms k=some p->f k=some p\/∃m∈ms,m.2=p/\p.1=k
 | [],f,k,p,h=>.inl h
 | m::ms,f,k,p,h=>by
  rcases Bq ms (K6 f m) k p h with q | ⟨m',hm',q⟩
  ·by_cases hi:Gc f m.2
   ·rw [oC hi] at q;exact .inl q
   rw [oZ hi] at q;unfold upd at q;split at q
   ·rename_i e;have:=Option.some.inj q;exact .inr ⟨m,Zn,this,by rw [<-this];exact e.symm⟩
   exact .inl q
  grind
theorem Ns{f}{m}{k}(h:(f k).isSome=true):(K6 f m k).isSome=true:=by
 by_cases hi:Gc f m.2
 ·rw [oC hi];exact h
 rw [oZ hi];unfold upd;grind
theorem Fw:∀(ms:List Mov) {f:Sta} {k:Int},(f k).isSome=true->(Ad f ms k).isSome=true
 | [],_,_,h=>h
 | _::ms,_,_,h=>Fw ms (Ns h)
theorem KX{f}{of} :∀(n:Nat) (x:Int),Rn f n x of=true->∃k p,f k=some p/\p.2.1=of
 | 0,x,h=>by simp [Rn] at h
 | n+1,x,h=>by
  cases hx:f x with
  | none=>rw [Gx hx] at h;cases h
  | some p=>
   rw [wL hx] at h;simp only [Bool.or_eq_true,decide_eq_true_eq] at h
   rcases h with h | h
   ·grind
   exact KX n _ h
structure WG (f:Sta):Prop where
 aaa:wg f
 two:∀k p,f k=some p->2<=k
 up:∀k p,f k=some p->p.2.1=0\/p.2.1=1\/(f p.2.1).isSome=true
 name:∀k p,f k=some p->nY p.2.2.data.toList=true
theorem zbO{x}{m}(h:Wj x=some m):kdO x=109/\m=((x.1,x.2.1),(mY x,mX x,x.2.2.2.2.2.2.1)):=by
 grind [Wj,Option.some.inj]
theorem EY{A}{m}(h:m∈pz A):∃x∈A,kdO x=109/\m=((x.1,x.2.1),(mY x,mX x,x.2.2.2.2.2.2.1)):=by
 obtain ⟨x,hx,e⟩:=Yo.1 h;exact ⟨x,hx,zbO e⟩
theorem Tb{x y}(hx:mv x=0)(hy:mv y=0)(h:SLt (x.1,x.2.1) (y.1,y.2.1)):idO x<idO y:=by
 have a:=mT hx;have b:=mT hy
 grind [SLt,idO]
theorem Ui{A}(hA:D5 A){ms}(hp:ms.Perm (pz A))(hb:mn ms)(hf:∀m∈ms,O9 m.2):WG (lM ms):=by
 have G:=ro hf
 have src:∀k p,lM ms k=some p->∃x∈A,kdO x=109/\p=(mY x,mX x,x.2.2.2.2.2.2.1)/\mY x=k:=fun k p h=>by
  rcases Bq ms tB k p h with q | ⟨m,hm,e1,e2⟩
  ·simp [tB] at q
  grind [EY]
 have known:∀nd,m9 A nd->(lM ms nd).isSome=true:=fun nd ⟨x,hx,hk,hn,hid⟩=>by
  have hm:((x.1,x.2.1),(mY x,mX x,x.2.2.2.2.2.2.1))∈ms:=hp.mem_iff.2 (Yo.2 ⟨x,hx,by unfold Wj;rw [if_pos hk]⟩);obtain ⟨a,b,e⟩:=List.append_of_mem hm
  have hni:¬Gc (lM a) (mY x,mX x,x.2.2.2.2.2.2.1):=by
   have mf:=sD (hA.ok x hx) hk;rintro (q | ⟨n,q⟩)
   ·dsimp only at q;omega
   obtain ⟨k,p,h1,h2⟩:=KX n _ q;dsimp only at h2
   rcases Bq a tB k p h1 with q' | ⟨m,hm',e1,_⟩
   ·simp [tB] at q'
   obtain ⟨y,hy,hky,e'⟩:=EY (hp.mem_iff.1 (by rw [e];exact Zm _ hm'));have my:=sD (hA.ok y hy) hky
   have lt:SLt m.1 (x.1,x.2.1):=by
    unfold mn at hb;rw [e] at hb;exact (List.pairwise_append.1 hb).2.2 m hm' _ Zn
   rw [e'] at lt;have li:=Tb (hA.ok y hy) (hA.ok x hx) lt;rw [<-e1,e'] at h2;dsimp only at h2;omega
  rw [e]
  show (Ad tB (a++_::b) nd).isSome=true
  have e2:Ad tB (a++((x.1,x.2.1),(mY x,mX x,x.2.2.2.2.2.2.1))::b)=Ad (K6 (lM a) ((x.1,x.2.1),(mY x,mX x,x.2.2.2.2.2.2.1))) b:=by
   unfold lM Ad;rw [List.foldl_append];rfl
  simp_all [Fw,oZ,upd,if_pos]
 refine ⟨G,fun k p h=> ?_,fun k p h=> ?_,fun k p h=> ?_⟩
 ·obtain ⟨x,hx,hk,_,e⟩:=src k p h;have:=(sD (hA.ok x hx) hk).1;omega
 ·obtain ⟨x,hx,hk,e,_⟩:=src k p h
  rcases (hA.R9 x hx).2.1 hk with q | q | q
  ·exact .inl (by rw [e];exact q)
  ·exact .inr (.inl (by rw [e];exact q))
  simp_all
 obtain ⟨x,hx,hk,e,_⟩:=src k p h;rw [e];exact (sD (hA.ok x hx) hk).2.2.2.2
def UpL(f:Sta):Int->List Plc->Prop
 | x,[]=>f x=none
 | x,p::l=>f x=some p/\UpL f p.2.1 l
theorem Fh{f}{d}(hd:Pv f d):∀(n:Nat) (x:Int),d x<n->∃l,UpL f x l
 | 0,_,h=>zj
 | n+1,x,h=>by
  cases e:f x with
  | none=>exact ⟨[],e⟩
  | some p=>
   obtain ⟨l,hl⟩:=Fh hd n p.2.1 (by have:=hd x p e;omega);exact ⟨p::l,e,hl⟩
theorem OL{f} :∀ {l:List Plc} {x:Int},UpL f x l->∀p∈l,f p.1=some p\/∃y,f y=some p
 | [],_,_,_,hp=>by simp at hp
 | _::l,x,h,p,hp=>by
  rcases uX.1 hp with e | e
  ·subst e;exact .inr ⟨x,h.1⟩
  exact OL h.2 p e
theorem QE{f}{d}(G:wg f)(hd:Pv f d):∀ {l:List Plc} {x:Int},UpL f x l->(∀p∈l,d p.1<=d x)/\l.Pairwise (fun a b=>d b.1<d a.1)
 | [],_,_=>⟨fun _ h=>qo,List.Pairwise.nil⟩
 | p::l,x,h=>by
  have ih:=QE G hd h.2;have lt:=hd x p h.1;have ek:=G.Y9 x p h.1;refine ⟨fun q hq=> ?_,Zz.2 ⟨fun q hq=> ?_,ih.2⟩⟩
  ·rcases uX.1 hq with e | e
   ·rw [e,ek];exact uL _
   have:=ih.1 q e;omega
  grind
theorem zbR{f}(G:wg f){L}(hL:C3 f L){l}{x}(h:UpL f x l):l.length<=L.length:=by
 obtain ⟨d,hd⟩:=G.ab8;have hn:l.Nodup:=(QE G hd h).2.imp (fun {a b} q e=>by rw [e] at q;omega)
 refine hn.length_le_of_subset fun p hp=>(hL.U5 p).2 ?_
 rcases OL h p hp with q | ⟨y,q⟩
 ·exact q
 rw [G.Y9 y p q];exact q
end
section
open RowKit Extern.Stop Stop Extern
structure Q3 (B:Nat) (ad:qF) (w:qW):Prop where
 c0:w.cell? (qB 1)=some (.iface 437 (.pointer (some (ad 0))))
 c1:w.cell? (qB 0)=some (.iface 437 (.pointer (some (ad 1))))
 c2:w.cell? (qB 2)=some (.iface 437 (.pointer (some (ad 2))))
 c3:w.cell? (qB 3)=some (.iface 437 (.pointer (some (ad 3))))
 c4:w.cell? (qB 4)=some (.iface 437 (.pointer (some (ad 4))))
 c5:w.cell? (qB 5)=some (.iface 437 (.pointer (some (ad 5))))
 c6:w.cell? (qB 6)=some (.iface 437 (.pointer (some (ad 6))))
 c7:w.cell? (qB 7)=some (.iface 437 (.pointer (some (ad 7))))
 c8:w.cell? (qB 8)=some (.iface 437 (.pointer (some (ad 8))))
 c9:w.cell? (qB 9)=some (.iface 437 (.pointer (some (ad 9))))
 c10:w.cell? (qB 10)=some (.iface 437 (.pointer (some (ad 10))))
 c11:w.cell? (qB 11)=some (.iface 437 (.pointer (some (ad 11))))
 et:w.cell? (qB 12)=some (.iface 172 (.agg #[.pointer (some (qA 19 25))]))
 lt:∀i,i<12->(ad i).block<B
 row:∀i,i<12->∃c t,w.heap[(ad i).block]? =some (.cells c t (0,0))
 ne:∀i j,i<12->j<12->i≠j->ad i≠ad j
 big:13<=B
 size:B<=w.heap.size
theorem Q3.mono{B}{ad}{w w'}(h:Q3 B ad w)(hb:Below B w w'):Q3 B ad w':=by
 have hB:=h.big
 have g:∀k v,k<13->w.cell? (qB k)=some v->w'.cell? (qB k)=some v:=fun k v hk hv=>by
  rw [hb.cell (p:=(qB k)) (uT hk hB)];exact hv
 refine ⟨g _ _ zo h.c0,g _ _ zo h.c1,g _ _ zo h.c2,g _ _ zo h.c3,g _ _ zo h.c4,g _ _ zo h.c5,g _ _ zo h.c6,g _ _ zo h.c7,g _ _ zo h.c8,g _ _ zo h.c9,g _ _ zo h.c10,g _ _ zo h.c11,g _ _ zo h.et,h.lt,fun i hi=> ?_,h.ne,h.big,uO h.size hb.size⟩;obtain ⟨c,t,e⟩:=h.row i hi;exact ⟨c,t,by rw [hb.block _ (h.lt i hi)];exact e⟩
theorem Q3.later{B}{ad}{w w'}(h:Q3 B ad w)(hb:qL w w'):Q3 B ad w':=h.mono (hb.mono h.size)
def rO(k:Nat):Int:=if k<12 then (k:Int)+1 else -1
theorem zbs(ad:qF)(j)(hj:j<12):(#[Value.iface 437 (.pointer (some (ad 0))),.iface 437 (.pointer (some (ad 1))),.iface 437 (.pointer (some (ad 2))),.iface 437 (.pointer (some (ad 3))),.iface 437 (.pointer (some (ad 4))),.iface 437 (.pointer (some (ad 5))),.iface 437 (.pointer (some (ad 6))),.iface 437 (.pointer (some (ad 7))),.iface 437 (.pointer (some (ad 8))),.iface 437 (.pointer (some (ad 9))),.iface 437 (.pointer (some (ad 10))),.iface 437 (.pointer (some (ad 11)))])[j]? =some (.iface 437 (.pointer (some (ad j)))):=by
 match j,hj with
 | 0,_=>rfl
 | 1,_=>rfl
 | 2,_=>rfl
 | 3,_=>rfl
 | 4,_=>rfl
 | 5,_=>rfl
 | 6,_=>rfl
 | 7,_=>rfl
 | 8,_=>rfl
 | 9,_=>rfl
 | 10,_=>rfl
 | 11,_=>rfl
 | n+12,h=>omega
theorem Km{B}{ad}(w)(h:Q3 B ad w)(u)(x)(k)(hk:k<=12)
  (hAs:∀(t:Addr) (w1:qW),Q3 B ad w1->qC 25 #[.iface u x,.iface 69 (.pointer (some t))] w1 (qR (.bool false) w1))
  (hIs:∀w1,Q3 B ad w1->qL w w1->∀j,j<12->j<=k->qC 26 #[.iface u x,.iface 437 (.pointer (some (ad j)))] w1 fun e w'=>e= .returned (.bool (decide (j=k)))/\w'=w1):
  qC 16 #[.iface u x] w (qR (.tuple #[qI (rO k),qI (-1)]) w):=by
 have h1:Q3 B ad (w.alloc (.cells #[.pointer none] 67)):=h.later (zh _ _);go_enter func16,ntmps16;go_wp2_with fail;refine (hAs _ _ h1).mono ?_;rintro e w1 ⟨rfl,hb1⟩;have H1:=h1.later hb1;have B1:=(zh _ _).trans (hb1.mono zr);have z1:=hb1.size;simp at z1;clear hb1 h1 h hAs
 have H2:=fun o=>H1.later ((uM _ _).alloc zg o)
 obtain ⟨c0,c1,c2,c3,c4,c5,c6,c7,c8,c9,c10,c11,et,lt,row,ne,big,size⟩:=H1;clear et row ne lt;have HI:Hid (∀w1,Q3 B ad w1->qL w w1->∀j,j<12->j<=k->qC 26 #[.iface u x,.iface 437 (.pointer (some (ad j)))] w1 fun e w'=>e= .returned (.bool (decide (j=k)))/\w'=w1):=hIs;clear hIs;go_wp2_with fail
 have hcell:∀j,j<12->(w1.alloc (.cells #[.iface 437 (.pointer (some (ad 0))),.iface 437 (.pointer (some (ad 1))),.iface 437 (.pointer (some (ad 2))),.iface 437 (.pointer (some (ad 3))),.iface 437 (.pointer (some (ad 4))),.iface 437 (.pointer (some (ad 5))),.iface 437 (.pointer (some (ad 6))),.iface 437 (.pointer (some (ad 7))),.iface 437 (.pointer (some (ad 8))),.iface 437 (.pointer (some (ad 9))),.iface 437 (.pointer (some (ad 10))),.iface 437 (.pointer (some (ad 11)))] 25)).cell? (qA w1.heap.size j)=some (.iface 437 (.pointer (some (ad j)))):=
  fun j hj=>by rw [YB _ _ _ _ rfl];exact zbs ad j hj
 have H3:=H2 (.cells #[.iface 437 (.pointer (some (ad 0))),.iface 437 (.pointer (some (ad 1))),.iface 437 (.pointer (some (ad 2))),.iface 437 (.pointer (some (ad 3))),.iface 437 (.pointer (some (ad 4))),.iface 437 (.pointer (some (ad 5))),.iface 437 (.pointer (some (ad 6))),.iface 437 (.pointer (some (ad 7))),.iface 437 (.pointer (some (ad 8))),.iface 437 (.pointer (some (ad 9))),.iface 437 (.pointer (some (ad 10))),.iface 437 (.pointer (some (ad 11)))] 25);have B3:=B1.alloc zj (.cells #[.iface 437 (.pointer (some (ad 0))),.iface 437 (.pointer (some (ad 1))),.iface 437 (.pointer (some (ad 2))),.iface 437 (.pointer (some (ad 3))),.iface 437 (.pointer (some (ad 4))),.iface 437 (.pointer (some (ad 5))),.iface 437 (.pointer (some (ad 6))),.iface 437 (.pointer (some (ad 7))),.iface 437 (.pointer (some (ad 8))),.iface 437 (.pointer (some (ad 9))),.iface 437 (.pointer (some (ad 10))),.iface 437 (.pointer (some (ad 11)))] 25)
 generalize w1.alloc (.cells #[.iface 437 (.pointer (some (ad 0))),.iface 437 (.pointer (some (ad 1))),.iface 437 (.pointer (some (ad 2))),.iface 437 (.pointer (some (ad 3))),.iface 437 (.pointer (some (ad 4))),.iface 437 (.pointer (some (ad 5))),.iface 437 (.pointer (some (ad 6))),.iface 437 (.pointer (some (ad 7))),.iface 437 (.pointer (some (ad 8))),.iface 437 (.pointer (some (ad 9))),.iface 437 (.pointer (some (ad 10))),.iface 437 (.pointer (some (ad 11)))] 25)=W2 at hcell H3 B3 |-
 clear c0 c1 c2 c3 c4 c5 c6 c7 c8 c9 c10 c11 H2 B1 big size
 generalize w1.heap.size=b1 at hcell z1 |-
 clear z1;have HI':=HI.o W2 H3 B3;have HJ:Hid (∀j,j<12->j<=k->qC 26 #[.iface u x,.iface 437 (.pointer (some (ad j)))] W2 fun e w'=>e= .returned (.bool (decide (j=k)))/\w'=W2):=HI';clear HI HI' H3;go_loop [3,30] (fun at' i=>∃j:Nat,j<=k/\at'=qI (-1)/\i=qI j) (fun _ i=>12 - (intOf i).toNat)
 case atStart=>exact ⟨0,uW _,rfl,rfl⟩
 case round=>
  obtain ⟨j,hj,rfl,rfl⟩:=hrel;by_cases h12:j<12
  ·have hc:=hcell j h12;have hd:decide ((j:Int)<12)=true:=zm;go_wp2_with fail;refine (HJ.o j h12 hj).mono ?_;rintro e w' ⟨rfl,hw⟩;subst hw;by_cases iD:j=k
   ·have hkc:rO k=(j:Int)+1:=by unfold rO;rw [if_pos zj,iD]
    have HK:Hid (rO k=(j:Int)+1):=hkc;rw [decide_eq_true iD];clear hkc iD;go_wp2;go_ret2;exact ⟨by rw [HK.o];rfl,B3⟩
   rw [decide_eq_false iD];go_wp2;go_round
   case rel=>exact ⟨j+1,zj,rfl,zN⟩
   case measure=>simp [intOf];omega
  have hd:decide ((j:Int)<12)=false:=zm
  have hkc:rO k= -1:=by unfold rO;rw [if_neg zj]
  have HK:Hid (rO k= -1):=hkc;clear hkc;go_wp2;go_ret2;exact ⟨by rw [HK.o];rfl,B3⟩
theorem Ov{B}{ad}(w)(h:Q3 B ad w)(k)(hk:k<12):
  qC 16 #[.iface 437 (.pointer (some (ad k)))] w (qR (.tuple #[qI (rO k),qI (-1)]) w):=by
 refine Km w h _ _ k (Ys hk) (fun t w1 h1=>zcu (ad k) t w1 h1.et) fun w1 hw1 _ j hj _=> ?_
 by_cases iD:j=k
 ·subst iD;rw [decide_eq_true rfl];exact zaA (ad j) w1
 rw [decide_eq_false iD];obtain ⟨ca,ta,ea⟩:=hw1.row k hk;obtain ⟨cb,tb,eb⟩:=hw1.row j hj;exact Ug (ad k) (ad j) ca cb ta tb w1 (hw1.ne k j hk hj (fun e=>iD e.symm)) ea eb
theorem Lk{B}{ad}(w)(h:Q3 B ad w)(k)(hk:k<12)(c):
  qC 7 #[.iface 437 (.pointer (some (ad k))),qI c] w (qR (.bool (rO k==c)) w):=by
 by_cases hc:rO k=c
 ·have hb:(rO k==c)=true:=by simp [hc]
  exact kh7
 have hb:(rO k==c)=false:=by simp [hc]
 exact kh7
end
section
open RowKit
theorem Tryz.yEt:prog.globalNamed "errors.errorType" =some 12:=zk
theorem Tryz.yRt:(prog.cutTypes.find? (·.1== "internal/reflectlite.rtype")).map (·.2)=some 172:=zk
theorem Tryz.acW:((List.range prog.types.size).filter fun t=>prog.rowNamed t [101,114,114,111,114])= [25]:=zk
def sents:List (String×Nat×qU):=[("concordat/api.ErrText",1,[99,111,110,99,111,114,100,97,116,58,32,116,101,120,116]),("concordat/api.ErrBound",0,[99,111,110,99,111,114,100,97,116,58,32,98,111,117,110,100]),("concordat/api.ErrShape",2,[99,111,110,99,111,114,100,97,116,58,32,115,104,97,112,101]),("concordat/api.ErrName",3,[99,111,110,99,111,114,100,97,116,58,32,110,97,109,101]),("concordat/api.ErrKind",4,[99,111,110,99,111,114,100,97,116,58,32,107,105,110,100]),("concordat/api.ErrNone",5,[99,111,110,99,111,114,100,97,116,58,32,110,111,110,101]),("concordat/api.ErrExist",6,[99,111,110,99,111,114,100,97,116,58,32,101,120,105,115,116]),("concordat/api.ErrFull",7,[99,111,110,99,111,114,100,97,116,58,32,102,117,108,108]),("concordat/api.ErrGap",8,[99,111,110,99,111,114,100,97,116,58,32,103,97,112]),("concordat/api.ErrCycle",9,[99,111,110,99,111,114,100,97,116,58,32,99,121,99,108,101]),("concordat/api.ErrOff",10,[99,111,110,99,111,114,100,97,116,58,32,111,102,102]),("concordat/api.ErrSum",11,[99,111,110,99,111,114,100,97,116,58,32,115,117,109])]
def wM:List (String×DataW Unit):=sents.map fun x=>(x.1,.iface "*errors.errorString" (.ptr (.agg [.lit (.string x.2.2)])))
def AW:List (String×DataW Unit):=[("errors.errorType",.iface "internal/reflectlite.rtype" (.agg [.ptr (.lit (.string [101,114,114,111,114]))]))]
theorem CI:∀x∈sents,prog.globalNamed x.1=some x.2.1/\(prog.globals[x.2.1]?).map (·.type)=some 25:=by
 have h:(sents.all fun x=>(prog.globalNamed x.1==some x.2.1) &&((prog.globals[x.2.1]?).map (·.type)==some 25))=true:=zk
 grind
theorem Xj{W}(h1:laidMet prog wM W)(h2:handlesMet prog AW W):∃ad:Nat->Addr,Q3 W.heap.size ad W:=by
 obtain ⟨ps,hv,cq,hr⟩:=h1;obtain ⟨az,hl,hcell,hrow,hn⟩:=Gt underlying25 Tryz.adj underlying437 underlying455 rfl rfl underlying9 Tryz.abS Tryz.X sents ps CI hv cq hr;have hl:az.length=12:=hl
 have jP:∀i,i<12->az[i]? =some (az.getD i (qB 0)):=fun i hi=>by
  rw [Yn,uJ zj];rfl
 have aN:∀i x,i<12->sents[i]? =some x->W.cell? (qB x.2.1)=some (.iface 437 (.pointer (some (az.getD i (qB 0))))):=fun i x hi hx=>hcell i x _ hx (jP i hi)
 have hmem:∀i,i<12->az.getD i (qB 0)∈az:=fun i hi=>uP (jP i hi)
 have het:W.cell? (qB 12)=some (.iface 172 (.agg #[.pointer (some (qA 19 25))])):=by
  obtain ⟨name,u,ty,e1,e2,e3,e4,e5⟩:=h2 _ (Zf.2 rfl);have en:=(Option.some.inj e1).symm;subst en;obtain rfl:=Option.some.inj (Tryz.yRt.symm.trans e2)
  have hm:ty∈(List.range prog.types.size).filter fun t=>prog.rowNamed t [101,114,114,111,114]:=Ye.2 ⟨List.mem_range.2 e3,e4⟩
  rw [Tryz.acW] at hm;obtain rfl:=Zf.1 hm;have hh:typeHandle prog 25= .pointer (some (qA 19 25)):=zk;rw [hh] at e5;simpa using YR Tryz.yEt e5 0
 have lt_of:∀(b o:Nat) (v:Value),W.cell? (qA b o)=some v->b<W.heap.size:=fun b o v hc=>by
  rcases Yc b W.heap.size with h | h
  ·exact h
  simp [World.cell?,YN h] at hc
 refine ⟨fun i=>az.getD i (qB 0),aN 0 _ zo rfl,aN 1 _ zo rfl,aN 2 _ zo rfl,aN 3 _ zo rfl,aN 4 _ zo rfl,aN 5 _ zo rfl,aN 6 _ zo rfl,aN 7 _ zo rfl,aN 8 _ zo rfl,aN 9 _ zo rfl,aN 10 _ zo rfl,aN 11 _ zo rfl,het,?_,?_,?_,?_,uL _⟩
 ·intro i hi;obtain ⟨⟨c,t,e⟩,_⟩:=hrow _ (hmem i hi)
  rcases Yc (az.getD i (qB 0)).block W.heap.size with h | h
  ·exact h
  rw [YN h] at e;cases e
 ·exact fun i hi=>(hrow _ (hmem i hi)).1
 ·intro i j hi hj hne e;have e1:=jP i hi;have e2:=jP j hj;have e:=e;rw [e] at e1;exact hne ((List.getElem?_inj zj hn).1 (e1.trans e2.symm))
 grind

end