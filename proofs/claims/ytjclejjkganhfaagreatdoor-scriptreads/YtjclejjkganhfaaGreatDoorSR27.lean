import Derived.Test.YtjclejjkganhfaaGreatDoorSR26
import Derived.Lib.SliceRun
set_option linter.unusedSimpArgs false
set_option linter.unusedVariables false
set_option maxRecDepth 100000
set_option maxHeartbeats 64000000
namespace Go.Proofs.YtjclejjkganhfaaGreatDoor
open Go.Proofs.Tryz
section
open RowKit Lib Go.Sort Maps
def N6(A:qX)(nd n:Int)(a:Int×Bool):Prop:=(n=0/\a.1=0/\(a.2=true↔m9 A nd))\/(n≠0/\(¬m9 A nd->a=(0,false))/\(m9 A nd->∃L,u7 A nd L/\a=atL (n - 1) L))
theorem tE{A S}(h:A.Perm S)(nd):m9 A nd↔m9 S nd:=⟨fun q=>q.mono (fun x hx=>h.mem_iff.1 hx),fun q=>q.mono (fun x hx=>h.mem_iff.2 hx)⟩
theorem US{mw n}{L}(h:mw=n - 1\/(mw=9223372036854775807/\n= -9223372036854775808))(hl:L.length<=1000):atL mw L=atL (n - 1) L:=by
 rcases h with h | ⟨h1,h2⟩
 ·rw [h]
 subst h1 h2;unfold atL;rw [if_pos zj,if_neg zj]
 grind [nV,Yi,List.getElem?_eq_none]
theorem Jk(w:qW)(ch):(w.alloc (.cells #[.int .u8 (ch.toNat:Int)] 5)).ownsRow 0 5 1 (qG w.heap.size 1 1) 1 (sh [ch]):=
 ⟨rfl,.inr ⟨w.heap.size,1,#[.int .u8 (ch.toNat:Int)],rfl,uW _,heap_alloc_new w _,uL _,zB,rfl,rfl⟩⟩
theorem PD{B}{ad}(w)(c)(br)(T)(i:Nat)(ao)(cap)(bt bx bc)(R)(A)(nd n)(ch)(hc:n7 w br T (i:Int) (kvs ao cap R) bt bx bc)(aP:E4 w c (kvs ao cap R) R)(de:O8 w c bx A)(hperm:A.Perm (lX R))(hR:u9 R)(hE:E8 B ad w)(hi:i<4)(hT:0<=T)(hm:T<=1073741824)(hn:(lX R).length<=250)(h2: -9223372036854775808<=nd)(h3:nd<=9223372036854775807)(hn1: -9223372036854775808<=n)(hn2:n<=9223372036854775807):
  qC 209 #[qP br,qI nd,qI n,.int .u8 (ch.toNat:Int)] w fun e w'=>∃a,N6 A nd n a/\Be ad w (a.2=true) (nQ T i (R i).length 105 nd a.1 ⟨#[]⟩ ⟨#[ch]⟩) e w':=by
 have dA:∀i,i<4->(R i).length<=1000:=fun i hi=>yD
 have hAl:A.length<=250:=xY;obtain ⟨S,hS⟩:=za w.heap.size;obtain ⟨U,hU⟩:=za (w.alloc qZc);have ah:qL w U:=zX;have Z0:m6 U S lQ:=yE;have aO:=hc.same (ah.block _ hc.lt)
 obtain ⟨zb,cY⟩:∃zb:Bool,zb=true↔m9 (lX R) nd:=⟨@decide _ (Classical.propDecidable _),@decide_eq_true_iff _ (Classical.propDecidable _)⟩
 have df:=pm U ao cap R nd zb cY ((hE.later ah).P7) ((C8.r aP).later ah) hR.toN dA h2 h3;unfold kV at df;have k2:U.cell? (qA br 2)=some (.slice (ao 0) (R 0).length (cap 0)):=aO.c2;have k3:U.cell? (qA br 3)=some (.slice (ao 1) (R 1).length (cap 1)):=aO.c3;have k4:U.cell? (qA br 4)=some (.slice (ao 2) (R 2).length (cap 2)):=aO.c4;have k5:U.cell? (qA br 5)=some (.slice (ao 3) (R 3).length (cap 3)):=aO.c5;have htU:=de.kept ⟨fun k hk _=>ah.block k hk,fun _ _=>rfl⟩ (fun _ _=>⟨fun k hk _=>ah.block k hk,fun _ _=>rfl⟩)
 have H0:Aside (n7 U br T (i:Int) (kvs ao cap R) bt bx bc/\m6 U S lQ/\qL w U/\S=w.heap.size/\E8 B ad U/\B<=w.heap.size/\(zb=true↔m9 A nd)/\O8 U c bx A):=⟨aO,Z0,ah,hS,hE.later ah,hE.size,cY.trans (tE hperm nd).symm,htU⟩
 have HU:Aside (U=w.alloc qZc):=hU;clear hU aO Z0 ah hE hc hS cY aP hR de htU;go_enter func209,ntmps209;go_upto_region 1 with fail;rw [<-HU.o,<-H0.o.2.2.2.1];go_wp2_with fail;refine df.mono ?_;clear df k2 k3 k4 k5;rintro e w1 ⟨rfl,hb1⟩;have Z1:=H0.o.2.1.later hb1
 have H1:Aside (m6 w1 S lQ/\qL w w1/\E8 B ad w1/\n7 w1 br T (i:Int) (kvs ao cap R) bt bx bc/\O8 w1 c bx A):=⟨Z1,zi H0.o.2.2.1 hb1,H0.o.2.2.2.2.1.later hb1,H0.o.1.same (hb1.block _ H0.o.1.lt),H0.o.2.2.2.2.2.2.2.kept ⟨fun k hk _=>hb1.block k hk,fun _ _=>rfl⟩ (fun _ _=>⟨fun k hk _=>hb1.block k hk,fun _ _=>rfl⟩)⟩
 clear hb1 Z1;obtain ⟨mw,hmw⟩:=za (IntKind.i64.wrap (n - 1))
 have iq: -9223372036854775808<=mw/\mw<=9223372036854775807/\(mw=n - 1\/(mw=9223372036854775807/\n= -9223372036854775808)):=by rw [hmw,IntKind.wrap_i64];omega
 have wrapn:=hmw.symm;have HMB:Aside (mw=n - 1\/(mw=9223372036854775807/\n= -9223372036854775808)):=iq.2.2;clear hmw;by_cases hn0:n=0
 ·subst hn0;clear iq HMB wrapn
  have HX:Aside (m6 w1 S lQ/\qL w w1/\E8 B ad w1/\n7 w1 br T (i:Int) (kvs ao cap R) bt bx bc):=⟨H1.o.1,H1.o.2.1,H1.o.2.2.1,H1.o.2.2.2.1⟩
  have HA:Aside (N6 A nd 0 (0,zb)):=.inl ⟨rfl,rfl,H0.o.2.2.2.2.2.2.1⟩
  cases zb with
  | false=>
   obtain ⟨z0,z1,z2,z3,z4,z5,z6,z7,zf⟩:=m6.ct HX.o.1;have eg:=HX.o.2.2.1.c5;have bC:=HX.o.2.2.1.low;have ab:=H0.o.2.2.2.1;have bF:=H0.o.2.2.2.2.2.1;have n1:5≠S:=zj;have n2:S≠5:=zj;clear bC ab bF;go_wp2_with fail;go_region
   all_goals
    go_wp2;(try simp only [Exit.inBlock,Exit.then]);refine bodyPost_ret (v:=.tuple #[mJ lQ,eV ad 6]) ?_ rfl ⟨_,HA.o,.inr ⟨zr,rfl,?_⟩⟩
    ·exact kd1
    exact kn3
  | true=>
   have eu:qL w1 (w1.alloc (.cells #[.int .u8 (ch.toNat:Int)] 5)):=zh w1 _;have iK:=ET (Jk w1 ch) rfl;have hown:=Az (w1.alloc (.cells #[.int .u8 (ch.toNat:Int)] 5)) br T i ao cap bt bx bc R 105 nd 0 ⟨#[]⟩ ⟨#[ch]⟩ (HX.o.2.2.2.same (eu.block _ HX.o.2.2.2.lt)) (HX.o.2.2.1.later eu) hi hT hm hn zo (by show (1:Nat)<=1000000;omega)
   have HB:Aside (qL w (w1.alloc (.cells #[.int .u8 (ch.toNat:Int)] 5))/\m6 (w1.alloc (.cells #[.int .u8 (ch.toNat:Int)] 5)) S lQ):=⟨zi HX.o.2.1 eu,HX.o.1.later eu⟩
   unfold mJ at hown;clear eu;go_wp2_with fail;refine hown.mono ?_;clear hown iK;rintro e w3 ⟨he,hb3⟩;obtain ⟨y,hy⟩:=za ((if od (nQ T i (R i).length 105 nd 0 ⟨#[]⟩ ⟨#[ch]⟩)=0 then nQ T i (R i).length 105 nd 0 ⟨#[]⟩ ⟨#[ch]⟩ else lQ));obtain ⟨er,aB⟩:=za (eV ad (od (nQ T i (R i).length 105 nd 0 ⟨#[]⟩ ⟨#[ch]⟩)));rw [<-hy,<-aB] at he;subst he
   have HY:Aside (y=(if od (nQ T i (R i).length 105 nd 0 ⟨#[]⟩ ⟨#[ch]⟩)=0 then nQ T i (R i).length 105 nd 0 ⟨#[]⟩ ⟨#[ch]⟩ else lQ)/\er=eV ad (od (nQ T i (R i).length 105 nd 0 ⟨#[]⟩ ⟨#[ch]⟩))):=⟨hy,aB⟩
   clear hy aB;obtain ⟨t,b,m,kd,nd',o,s,v⟩:=y;unfold mJ;dsimp only;have Z2:=HB.o.2.later hb3;obtain ⟨z0,z1,z2,z3,z4,z5,z6,z7,zf⟩:=m6.ct Z2;have B2:Aside (qL w w3):=zi HB.o.1 hb3;clear hb3 Z2;go_wp2;(try simp only [Exit.inBlock,Exit.then]);refine bodyPost_ret (v:=.tuple #[.agg (qOa t b m kd nd' o s v),er]) ?_ rfl ⟨_,HA.o,.inl ⟨rfl,⟨by rw [<-HY.o.1,<-HY.o.2];rfl,?_⟩⟩⟩
   ·exact kc1
   exact kh5
 have dn0:(n !=0)=true:=by simp [hn0]
 have fu:=Dl w1 c br T (i:Int) (kvs ao cap R) bt bx bc A nd mw H1.o.2.2.2.1 H1.o.2.2.2.2 zj zj zj ⟨iq.1,iq.2.1⟩;have HN0:=Lib.hid hn0;clear hn0 iq;go_wp2_with fail;refine fu.mono ?_;clear fu;rintro e w2 ⟨⟨bh,zz⟩,rfl,ha1,ha2,hb2⟩
 have HX:Aside (m6 w2 S lQ/\qL w w2/\E8 B ad w2/\n7 w2 br T (i:Int) (kvs ao cap R) bt bx bc):=⟨H1.o.1.later hb2,zi H1.o.2.1 hb2,H1.o.2.2.1.later hb2,H1.o.2.2.2.1.same (hb2.block _ H1.o.2.2.2.1.lt)⟩
 have HA:Aside (N6 A nd n (bh,zz)):=.inr ⟨HN0.o,ha1,fun q=>by obtain ⟨L,hL,e⟩:=ha2 q;exact ⟨L,hL,e.trans (US HMB.o (by have:=hL.D4;omega))⟩⟩;clear hb2 ha1 ha2;dsimp only
 cases zz with
 | false=>
  obtain ⟨z0,z1,z2,z3,z4,z5,z6,z7,zf⟩:=m6.ct HX.o.1;have eg:=HX.o.2.2.1.c5;have bC:=HX.o.2.2.1.low;have ab:=H0.o.2.2.2.1;have bF:=H0.o.2.2.2.2.2.1;have n1:5≠S:=zj;have n2:S≠5:=zj;clear bC ab bF;go_wp2_with fail;go_region
  all_goals
   go_wp2;(try simp only [Exit.inBlock,Exit.then]);refine bodyPost_ret (v:=.tuple #[mJ lQ,eV ad 6]) ?_ rfl ⟨_,HA.o,.inr ⟨zr,rfl,?_⟩⟩
   ·exact kd1
   exact kn3
 | true=>
  have eu:qL w2 (w2.alloc (.cells #[.int .u8 (ch.toNat:Int)] 5)):=zh w2 _;have iK:=ET (Jk w2 ch) rfl;have hown:=Az (w2.alloc (.cells #[.int .u8 (ch.toNat:Int)] 5)) br T i ao cap bt bx bc R 105 nd bh ⟨#[]⟩ ⟨#[ch]⟩ (HX.o.2.2.2.same (eu.block _ HX.o.2.2.2.lt)) (HX.o.2.2.1.later eu) hi hT hm hn zo (by show (1:Nat)<=1000000;omega)
  have HB:Aside (qL w (w2.alloc (.cells #[.int .u8 (ch.toNat:Int)] 5))/\m6 (w2.alloc (.cells #[.int .u8 (ch.toNat:Int)] 5)) S lQ):=⟨zi HX.o.2.1 eu,HX.o.1.later eu⟩
  unfold mJ at hown;clear eu;go_wp2_with fail;refine hown.mono ?_;clear hown iK;rintro e w3 ⟨he,hb3⟩;obtain ⟨y,hy⟩:=za ((if od (nQ T i (R i).length 105 nd bh ⟨#[]⟩ ⟨#[ch]⟩)=0 then nQ T i (R i).length 105 nd bh ⟨#[]⟩ ⟨#[ch]⟩ else lQ));obtain ⟨er,aB⟩:=za (eV ad (od (nQ T i (R i).length 105 nd bh ⟨#[]⟩ ⟨#[ch]⟩)));rw [<-hy,<-aB] at he;subst he
  have HY:Aside (y=(if od (nQ T i (R i).length 105 nd bh ⟨#[]⟩ ⟨#[ch]⟩)=0 then nQ T i (R i).length 105 nd bh ⟨#[]⟩ ⟨#[ch]⟩ else lQ)/\er=eV ad (od (nQ T i (R i).length 105 nd bh ⟨#[]⟩ ⟨#[ch]⟩))):=⟨hy,aB⟩
  clear hy aB;obtain ⟨t,b,m,kd,nd',o,s,v⟩:=y;unfold mJ;dsimp only;have Z2:=HB.o.2.later hb3;obtain ⟨z0,z1,z2,z3,z4,z5,z6,z7,zf⟩:=m6.ct Z2;have B2:Aside (qL w w3):=zi HB.o.1 hb3;clear hb3 Z2;go_wp2;(try simp only [Exit.inBlock,Exit.then]);refine bodyPost_ret (v:=.tuple #[.agg (qOa t b m kd nd' o s v),er]) ?_ rfl ⟨_,HA.o,.inl ⟨rfl,⟨by rw [<-HY.o.1,<-HY.o.2];rfl,?_⟩⟩⟩
  ·exact kc1
  exact kh5
theorem Hn(n:Nat)(w)(hn:n<=1000):Calls prog 286 #[.slice none 0 0,.int .i64 (n:Int)] w fun e w'=>∃v,e= .returned v/\w'.ownsRow w.heap.size 88 8 v 0 []/\Below w.heap.size w w':=by
 by_cases h0:n=0
 ·subst h0;go_enter func286,ntmps286;go_wp2;go_ret;exact ⟨_,rfl,Zi _ _ _ _,uM _ w⟩
 have d0:decide ((n:Int)<0)=false:=zr;have d1':decide (0<n)=true:=zm;have e1:((n:Int) - 0)=(n:Int):=zj;obtain ⟨i0,hi,aD,aw,aH⟩:=info_parts rA
 have ae:=fun ty=>Lib.run_append_nil_zeros (P:=prog) w 136 3 ty 88 i0 _ .i64 .i64 underlying136 underlying3 hi aD n zj zj zj (by rw [aH];omega)
 obtain ⟨cp,hcp⟩:=za (grownCap w n 0 88);rw [<-hcp] at ae
 have hge:n<=cp:=by rw [hcp];exact grownCap_ge w n 0 _
 have bD:cp<=maxLen:=by rw [hcp];exact grownCap_le_maxLen w n 0 _ zB
 have HC:Aside (cp=grownCap w n 0 88/\n<=cp/\cp<=maxLen):=⟨hcp,hge,bD⟩
 clear hcp hge bD;go_enter func286,ntmps286;go_wp2_with (at_builtin;refine Lib.wpList_append_run _ rfl _ _ _ _ rfl _ _ rfl rfl _ _ (ae _) ?_);go_ret;refine ⟨_,rfl,⟨rfl,.inr ⟨w.heap.size,cp,_,rfl,uL _,heap_alloc_new w _,uW _,HC.o.2.2,?_,?_⟩⟩,(zh w _).drew⟩
 ·have:=HC.o.2.1;simp [size_zeroCells];omega
 simp
theorem JA{w}{ao}{xs}(h:F1 w ao xs):N9 ny w ao xs:=h
theorem Lb(w:World)(Bk:Nat)(ao:Nat->Option Addr)(cap:Nat->Nat)(R:Rws)(hk:I4 w Bk ao cap R)(hK:C8 w ao R)(hnil:∀i,i<4->ao i=none->cap i=0)(hn:(lX R).length<=1000):
  Calls prog 232 #[.slice (some ⟨Bk,0,none⟩) 4 4] w fun e w'=>∃v,e= .returned v/\w'.ownsRow w.heap.size 88 8 v (lX R).length (cellsOf (lX R))/\Below w.heap.size w w':=by
 have hl3:=At R (i:=3) zj;have c0:=hk.at (i:=0) zj;have c1:=hk.at (i:=1) zj;have c2:=hk.at (i:=2) zj;have c3:=hk.at (i:=3) zj
 have gw:(lX R).length=(R 0).length+(R 1).length+(R 2).length+(R 3).length:=by unfold lX;simp;omega
 have eO:=Hn ((R 0).length+(R 1).length+(R 2).length+(R 3).length) w zj
 have HK:Aside (C8 w ao R/\∀i,i<4->ao i=none->cap i=0):=⟨hK,hnil⟩
 have HS:Aside ((lX R).length=(R 0).length+(R 1).length+(R 2).length+(R 3).length):=gw;have g0:(((R 0).length+(R 1).length+(R 2).length+(R 3).length:Nat):Int)=(R 0).length+(R 1).length+(R 2).length+(R 3).length:=zj;rw [g0] at eO;have hT:(R 0).length+(R 1).length+(R 2).length+(R 3).length<=1000:=zj;have n1:decide (((R 0).length:Int)<0)=false:=zr;have n2:decide (((R 0).length:Int)+(R 1).length<0)=false:=zm;have n3:decide (((R 0).length:Int)+(R 1).length+(R 2).length<0)=false:=zm;have n4:decide (((R 0).length:Int)+(R 1).length+(R 2).length+(R 3).length<0)=false:=zm;clear hk hK hnil gw g0;go_enter func232,ntmps232;go_wp2;refine wp_loop_rounds 5 ?_
 iterate 4
  rw [rounds_succ];go_wp2
 rw [rounds_succ];go_wp2_with fail;refine eO.mono ?_;clear eO;rintro e w0 ⟨v0,rfl,bd,hb0⟩;have cz:Aside (Below w.heap.size w w0):=hb0;have bd:w0.ownsRow w.heap.size 88 8 v0 0 []:=bd;obtain ⟨x0,y0,rfl⟩:=mC bd;clear hb0;go_wp2;refine wp_loop_rounds 5 ?_;rw [rounds_succ];obtain ⟨v1,w1,ae,aX,ag⟩:=pV (enc:=ny) (k:=8) (S:=136) (T:=88) underlying136 rA zj zj rfl nK ng bd zj cz.o.size (ao 0) (cap 0) (R 0) zj (JA (HK.o.1.later cz.o 0 zj)) (HK.o.2 0 zj) 136;have HB1:Aside (Below w.heap.size w w1):=cz.o.grown ag cz.o.size (fun g hg=>(bd.lt g hg).1);have f0:=cell_later cz.o c0;have f1:=cell_later cz.o c1;have f2:=cell_later cz.o c2;have f3:=cell_later cz.o c3;rw [Zc] at aX;obtain ⟨x1,y1,rfl⟩:=mC aX;go_wp2_with (at_builtin;refine Lib.wpList_append_run _ rfl _ _ _ _ rfl _ _ rfl rfl _ _ ae ?_);clear ae ag f0 f1 f2 f3;rw [rounds_succ];obtain ⟨v2,w2,ae,dK,ag⟩:=pV (enc:=ny) (k:=8) (S:=136) (T:=88) underlying136 rA zj zj rfl nK ng aX zj HB1.o.size (ao 1) (cap 1) (R 1) zj (JA (HK.o.1.later HB1.o 1 zj)) (HK.o.2 1 zj) 136;have cX:Aside (Below w.heap.size w w2):=HB1.o.grown ag HB1.o.size (fun g hg=>(aX.lt g hg).1);have f0:=cell_later HB1.o c0;have f1:=cell_later HB1.o c1;have f2:=cell_later HB1.o c2;have f3:=cell_later HB1.o c3;obtain ⟨x2,y2,rfl⟩:=mC dK;go_wp2_with (at_builtin;refine Lib.wpList_append_run _ rfl _ _ _ _ rfl _ _ rfl rfl _ _ ae ?_);clear ae ag f0 f1 f2 f3;rw [rounds_succ];obtain ⟨v3,w3,ae,aW,ag⟩:=pV (enc:=ny) (k:=8) (S:=136) (T:=88) underlying136 rA zj zj rfl nK ng dK zj cX.o.size (ao 2) (cap 2) (R 2) zj (JA (HK.o.1.later cX.o 2 zj)) (HK.o.2 2 zj) 136;have fe:Aside (Below w.heap.size w w3):=cX.o.grown ag cX.o.size (fun g hg=>(dK.lt g hg).1);have f0:=cell_later cX.o c0;have f1:=cell_later cX.o c1;have f2:=cell_later cX.o c2;have f3:=cell_later cX.o c3;obtain ⟨x3,y3,rfl⟩:=mC aW;go_wp2_with (at_builtin;refine Lib.wpList_append_run _ rfl _ _ _ _ rfl _ _ rfl rfl _ _ ae ?_)
 clear ae ag f0 f1 f2 f3;rw [rounds_succ];obtain ⟨v4,w4,ae,eH,ag⟩:=pV (enc:=ny) (k:=8) (S:=136) (T:=88) underlying136 rA zj zj rfl nK ng aW zj fe.o.size (ao 3) (cap 3) (R 3) zj (JA (HK.o.1.later fe.o 3 zj)) (HK.o.2 3 zj) 136;have HB4:Aside (Below w.heap.size w w4):=fe.o.grown ag fe.o.size (fun g hg=>(aW.lt g hg).1);have f0:=cell_later fe.o c0;have f1:=cell_later fe.o c1;have f2:=cell_later fe.o c2;have f3:=cell_later fe.o c3;obtain ⟨x4,y4,rfl⟩:=mC eH;go_wp2_with (at_builtin;refine Lib.wpList_append_run _ rfl _ _ _ _ rfl _ _ rfl rfl _ _ ae ?_);clear ae ag f0 f1 f2 f3;rw [rounds_succ];go_wp2;go_ret;refine ⟨_,rfl,?_,HB4.o⟩;rw [HS.o];rw [show cellsOf (lX R)= []++cellsOf (R 0)++cellsOf (R 1)++cellsOf (R 2)++cellsOf (R 3) by unfold lX;simp [oR]];exact eH
theorem SO{w}{c}{ao}{cap}{R}(h:E4 w c (kvs ao cap R) R):∀i,i<4->ao i=none->cap i=0:=fun i hi e=>by
 obtain ⟨-,h2⟩:=(h i hi).1
 grind [kvs,Value.slice.injEq]
theorem tM(w)(c)(br)(o9)(R)(h:K7 w c br o9 R)(hn:(lX R).length<=1000):
  qC 66 #[qP br] w (qR (.agg #[qI ((R 0).length:Int),qI ((R 1).length:Int),qI ((R 2).length:Int),qI ((R 3).length:Int)]) w):=by
 obtain ⟨T,kv,bt,bx,bc,A,hm,hp,hK,hb⟩:=h;obtain ⟨ao,cap,hM⟩:=hm.aa0;obtain ⟨U,hU⟩:=za (w.alloc (.cells #[qI 0,qI 0,qI 0,qI 0] 103 (0,0)));have ah:qL w U:=zX;have hc:=hM.cell.same (ah.block _ hM.cell.lt)
 have hv:U.heap[w.heap.size]? =some (.cells #[qI 0,qI 0,qI 0,qI 0] 103 (0,0)):=by rw [hU];exact heap_alloc_new w _
 have hall:=IC U ao cap R (fun i hi=>uO (At R hi) hn);unfold kV at hall;have k2:U.cell? (qA br 2)=some (.slice (ao 0) (R 0).length (cap 0)):=hc.c2;have k3:U.cell? (qA br 3)=some (.slice (ao 1) (R 1).length (cap 1)):=hc.c3;have k4:U.cell? (qA br 4)=some (.slice (ao 2) (R 2).length (cap 2)):=hc.c4;have k5:U.cell? (qA br 5)=some (.slice (ao 3) (R 3).length (cap 3)):=hc.c5
 have HU:Aside (U=w.alloc (.cells #[qI 0,qI 0,qI 0,qI 0] 103 (0,0))/\qL w U/\U.heap[w.heap.size]? =some (.cells #[qI 0,qI 0,qI 0,qI 0] 103 (0,0))):=⟨hU,ah,hv⟩
 clear hm hM hp hK hb hn hc hU ah hv;go_enter func66,ntmps66;go_upto_region 1 with fail;rw [<-HU.o.1];go_wp2_with fail;refine hall.mono ?_;clear hall;rintro e w2 ⟨rfl,h2⟩;have dx:=(h2.block w.heap.size (uK.1 HU.o.2.2).1).trans HU.o.2.2;have s0:w2.cell? (qB w.heap.size)=some (qI 0):=yV;have s1:w2.cell? (qA w.heap.size 1)=some (qI 0):=yV;have s2:w2.cell? (qA w.heap.size 2)=some (qI 0):=yV;have s3:w2.cell? (qA w.heap.size 3)=some (qI 0):=yV
 have z:∀o,w2.frozen? (qA w.heap.size o)=false:=fun o=>by simp [World.frozen?,dx]
 have H2:Aside (qL w w2):=zi HU.o.2.1 h2;clear h2 dx HU k2 k3 k4 k5;go_wp2;(try simp only [Exit.inBlock,Exit.then]);refine bodyPost_ret (v:=.agg #[qI ((R 0).length:Int),qI ((R 1).length:Int),qI ((R 2).length:Int),qI ((R 3).length:Int)]) ?_ rfl ⟨rfl,?_⟩
 ·rw [Fe rfl];go_simp
 exact (((H2.o.setCell zg _).setCell zg _).setCell zg _).setCell zg _
def J0(w:qW)(b:Nat)(v:Nat->Int):Prop:=w.heap[b]? =some (.cells #[qI (v 0),qI (v 1),qI (v 2),qI (v 3)] 103 (0,0))
theorem J0.lt{w}{b}{v}(h:J0 w b v):b<w.heap.size:=(uK.1 h).1
theorem J0.later{w w'}{b}{v}(h:J0 w b v)(hb:qL w w'):J0 w' b v:=(hb.block b h.lt).trans h
theorem J0.at{w}{b}{v}(h:J0 w b v){i}(hi:i<4):w.cell? (qA b i)=some (qI (v i)):=by
 unfold J0 at h
 match i,hi with
 | 0,_=>simp [World.cell?,h]
 | 1,_=>simp [World.cell?,h]
 | 2,_=>simp [World.cell?,h]
 | 3,_=>simp [World.cell?,h]
def rF(v:Nat->Int)(x:OpX):Bool:=decide (x.2.2.1<=v x.2.1.toNat)
theorem Ms(w)(b)(v)(x)(hv:J0 w b v)(i:Nat)(hi:i<4)(hx:x.2.1=(i:Int)):
  qC 120 #[mJ x,qP b] w (qR (.bool (rF v x)) w):=by
 obtain ⟨t,o9,m,kd,nd,o,s,u⟩:=x;simp only at hx;subst hx;have hb:qL w (w.alloc (qOc t (i:Int) m kd nd o s u)):=zh w _;have q:=(hv.later hb).at hi;have ei:((i:Int)).toNat=i:=zj;have i4:((i:Int)<4):=zj;have i0:(0:Int)<=(i:Int):=zj;have HB:Aside (qL w (w.alloc (qOc t (i:Int) m kd nd o s u))):=hb
 have HH:Aside (rF v (t,(i:Int),m,kd,nd,o,s,u)=decide (m<=v i)):=by show decide (m<=v ((i:Int)).toNat)=_;rw [ei]
 unfold mJ;rw [HH.o];go_enter func120,ntmps120;go_wp2_with fail;go_quiet (fail);go_wp2;go_ret;exact ⟨rfl,Go.below_drewN HB.o _⟩
structure I2 (w:qW) (g:Nat) (ys:qX):Prop where
 cell:∀j u,(cellsOf ys)[j]? =some u->w.cell? (qA g j)=some u
 free:∀j,j<ys.length*8->w.frozen? (qA g j)=false
theorem I2.has{w}{g}{ys}(h:I2 w g ys){j}(hj:j<ys.length*8):(w.cell? (qA g j)).isSome=true:=by
 have hl:j<(cellsOf ys).length:=by rw [mo];omega
 rw [h.cell j _ (uJ hl)];rfl
theorem I2.at{w}{g}{ys}(h:I2 w g ys){i}{x}(hi:ys[i]? =some x){c}{u}(hc:(ny x)[c]? =some u):w.cell? (qA g (i*8+c))=some u:=by
 have hl:=(uI.1 hi).1
 have h8:c<8:=by have:=(uI.1 hc).1;rw [nK] at this;exact this
 refine h.cell _ _ ?_
 grind [ny,nK,ma,uJ]
theorem I2.same{w w'}{g}{ys}(h:I2 w g ys)(e:w'.heap[g]? =w.heap[g]?):I2 w' g ys:=
 ⟨fun j u hj=>by have:=h.cell j u hj;simp only [World.cell?] at this |-;rw [e];exact this,fun j hj=>xd⟩
theorem I2.set{w}{g}{cs}(h:I2 w g cs){i}(hi:i<cs.length)(x):I2 (w.setCells g (i*8) (ny x)) g (cs.set i x):=by
 constructor
 ·intro j u hj;have hl:=(uI.1 hj).1;rw [mo,YL] at hl;have h2:j / 8*8+j % 8=j:=zj;have c:=ma (cs.set i x) (j / 8) (j % 8) qt zj;rw [h2,hj] at c;have hq:j / 8<(cs.set i x).length:=qt;rw [getElem!_pos (cs.set i x) (j / 8) hq,List.getElem_set] at c;by_cases e:i=j / 8
  ·rw [if_pos e] at c
   have hr:j % 8<(ny x).length:=by rw [nK];omega
   have k:=World.cell?_setCells_in g (ny x) (i*8) w (fun q hq'=>h.has (by rw [nK] at hq';omega)) (j % 8) hr;rw [show i*8+j % 8=j by omega] at k;rw [k];rw [getElem!_pos (ny x) (j % 8) hr] at c;exact c.symm
  rw [if_neg e] at c;rw [ZZ g (ny x) (i*8) w (qA g j) (fun _ _=>by rw [nK];show j<i*8\/i*8+8<=j;omega)];refine h.cell j u ?_;rw [<-h2,ma cs (j / 8) (j % 8) zj zj,getElem!_pos cs (j / 8) zj];exact c.symm
 exact kl9
theorem pQ{P}(w)(t e ty)(z)(ht:P.underlying t=some (.slice e))(hv:∀w,(zeroValue e).run P w= .ok z w)(b o n c)(hn:0<n)
  (h1:∀v∈(Builtin.zeroCells z.cells n).toList,v.oneCell'=true) (hc:∀j,j<n*z.cells.size->(w.cell? (qA b (o+j))).isSome=true) (hf:∀j,j<n*z.cells.size->w.frozen? (qA b (o+j))=false):
  (Builtin.clear_ #[t] ty #[.slice (some (qA b o)) n c]).run P w= .ok (.tuple #[]) (w.setCells b o (Builtin.zeroCells z.cells n).toList):=by
 have hsz:(Builtin.zeroCells z.cells n).toList.length=n*z.cells.size:=by rw [ZK,size_zeroCells]
 have hst:=run_storeCells_cells (P:=P) b o (Builtin.zeroCells z.cells n).toList 0 w (by rw [hsz];simpa using hc) (by rw [hsz];simpa using hf) h1;simp only [ZC] at hst
 obtain ⟨m,rfl⟩:∃m,n=m+1:=⟨n - 1,zj⟩
 simp [Builtin.clear_,run_underlying ht,hv,hst]
def abe(g:Nat)(lb:Array Value)(xs:qX)(p:OpX->Bool)(l9:Nat)(w:qW):Prop:=
 ∀(W:qW) (x:OpX),x∈xs->Below l9 w W->Calls prog g (#[mJ x]++lb) W (qR (.bool (p x)) W)
theorem abe.toO{g}{lb}{xs}{p}{l9}{w}(h:abe g lb xs p l9 w)(hb:l9<=w.heap.size):RO g lb xs p w:=fun W x hx hW=>(h W x hx (hW.mono hb)).mono (by rintro e w' ⟨rfl,q⟩;exact ⟨rfl,zi hW q⟩)
theorem I2.ops{w}{g}{ys}(h:I2 w g ys):F1 w (qS g) ys:=.inr ⟨g,0,rfl,fun j u hj=>by rw [Zc];exact h.cell j u hj⟩
theorem I2.take{w}{g}{cs}(h:I2 w g cs){i}(hi:i<=cs.length)(vs):I2 (w.setCells g (i*8) vs) g (cs.take i):=by
 have hlen:(cs.take i).length=i:=zm;constructor
 ·intro j u hj;have hl:=(uI.1 hj).1;rw [mo,hlen] at hl;rw [ZZ g vs (i*8) w (qA g j) (fun _ _=>.inl (by show j<i*8;omega))];refine h.cell j u ?_
  have e:cellsOf cs=cellsOf (cs.take i)++cellsOf (cs.drop i):=by rw [<-oR,Zx]
  rw [e,Yh (by rw [mo,hlen];omega)];exact hj
 exact km9
structure V6 (p:OpX->Bool) (ys:qX) (i j:Nat) (cs:qX):Prop where
 lt:i<j
 le:j<=ys.length
 D4:cs.length=ys.length
 aaK:cs.take i=(ys.take j).filter (fun x=> !p x)
 rest:cs.drop j=ys.drop j
theorem V6.start{p}{ys}{k}{x}(hx:ys[k]? =some x)(hp:p x=true)(hk:∀j y,j<k->ys[j]? =some y->p y=false):V6 p ys k (k+1) ys:=by
 exact kc6
theorem V6.e{p}{ys cs}{i j}(h:V6 p ys i j cs){x}(hx:ys[j]? =some x):cs[j]? =some x:=by
 exact kl3
theorem V6.skip{p}{ys cs}{i j}(h:V6 p ys i j cs){x}(hx:ys[j]? =some x)(hp:p x=true):V6 p ys i (j+1) cs:=by
 have hl:=(uI.1 hx).1;refine ⟨by have:=h.lt;omega,zj,h.D4,?_,?_⟩
 ·rw [Zy,hx,Ya,h.aaK];simp [hp]
 exact kf9
theorem V6.F9{p}{ys cs}{i j}(h:V6 p ys i j cs){x}(hx:ys[j]? =some x)(hp:p x=false):V6 p ys (i+1) (j+1) (cs.set i x):=by
 have hl:=(uI.1 hx).1;have hlt:=h.lt;have hlen:=h.D4;refine ⟨zj,zj,by rw [YL];exact h.D4,?_,?_⟩
 ·exact kh9
 rw [List.drop_set_of_lt zj];exact kf9
abbrev zeroOpV:Value:=.agg qZa
theorem Cf:zeroOpV.cells.size=8:=rfl
def QC(n:Nat):List Value:=(Builtin.zeroCells zeroOpV.cells n).toList
theorem TO(n):∀v∈(Builtin.zeroCells zeroOpV.cells n).toList,v.oneCell'=true:=by
 intro v hv;unfold Builtin.zeroCells at hv;rw [Array.toList_map,Zj] at hv;obtain ⟨a,_,rfl⟩:=hv;rw [Cf];have h8:a % 8<8:=Nat.mod_lt _ zj
 have Y9:∀q,q<8->(zeroOpV.cells[q]!).oneCell'=true:=fun q hq=>by
  match q,hq with
  | 0,_=>rfl
  | 1,_=>rfl
  | 2,_=>rfl
  | 3,_=>rfl
  | 4,_=>rfl
  | 5,_=>rfl
  | 6,_=>rfl
  | 7,_=>rfl
 exact Y9 _ h8
structure zbE (w:qW) (g a:Nat) (x:OpX):Prop where
 c0:w.cell? (qA g a)=some (qI x.1)
 c1:w.cell? (qA g (a+1))=some (qI x.2.1)
 c2:w.cell? (qA g (a+2))=some (qI x.2.2.1)
 c3:w.cell? (qA g (a+3))=some (.int .u8 (x.2.2.2.1:Int))
 c4:w.cell? (qA g (a+4))=some (qI x.2.2.2.2.1)
 c5:w.cell? (qA g (a+5))=some (qI x.2.2.2.2.2.1)
 c6:w.cell? (qA g (a+6))=some (.string x.2.2.2.2.2.2.1)
 c7:w.cell? (qA g (a+7))=some (.string x.2.2.2.2.2.2.2)
 f0:w.frozen? (qA g a)=false
 f1:w.frozen? (qA g (a+1))=false
 f2:w.frozen? (qA g (a+2))=false
 f3:w.frozen? (qA g (a+3))=false
 f4:w.frozen? (qA g (a+4))=false
 f5:w.frozen? (qA g (a+5))=false
 f6:w.frozen? (qA g (a+6))=false
 f7:w.frozen? (qA g (a+7))=false
theorem I2.acs{w}{g}{cs}(h:I2 w g cs){i}{x}(hi:cs[i]? =some x):zbE w g (i*8) x:=by
 have hl:=(uI.1 hi).1;have e0:=h.at hi (c:=0) rfl;rw [ZC] at e0;exact ⟨e0,h.at hi (c:=1) rfl,h.at hi (c:=2) rfl,h.at hi (c:=3) rfl,h.at hi (c:=4) rfl,h.at hi (c:=5) rfl,h.at hi (c:=6) rfl,h.at hi (c:=7) rfl,h.free _ zj,h.free _ zj,h.free _ zj,h.free _ zj,h.free _ zj,h.free _ zj,h.free _ zj,h.free _ zj⟩
theorem acf(w:qW)(g a)(t b m)(kd:Nat)(nd o)(s u):((((((((w.setCell (qA g a) (qI t)).setCell (qA g (a+1)) (qI b)).setCell (qA g (a+2)) (qI m)).setCell (qA g (a+3)) (.int .u8 (kd:Int))).setCell (qA g (a+4)) (qI nd)).setCell (qA g (a+5)) (qI o)).setCell (qA g (a+6)) (.string s)).setCell (qA g (a+7)) (.string u))=w.setCells g a (ny (t,b,m,kd,nd,o,s,u)):=rfl
def RA(w:qW)(g cap l9:Nat)(zs:qX)(e:Ending)(w':qW):Prop:=e= .returned (qG g zs.length cap)/\I2 w' g zs/\Below l9 w w'
theorem MF(p)(gf:Nat)(lb)(eg:∀args w,(callFunc gf args).run prog w= .ok (.enter gf args) w)(g cap l9)(ys)(w)(hbg:l9<=g)(cu:l9<=w.heap.size)(dH:g<w.heap.size)(hp:abe gf lb ys p l9 w)(hn:ys.length<=1000)(hc1:ys.length<=cap)(hc2:cap<=maxLen)(hO:I2 w g ys):
  qC 118 #[qG g ys.length cap,.func (.func gf) #[] lb] w (RA w g cap l9 (ys.filter (fun x=> !p x))):=by
 have aQ:=AE p gf lb eg (qS g) cap ys w (hp.toO cu) zj hO.ops
 have H:Aside (abe gf lb ys p l9 w/\I2 w g ys/\l9<=g/\l9<=w.heap.size/\g<w.heap.size):=⟨hp,hO,hbg,cu,dH⟩
 have hc63:(cap:Int)<=9223372036854775807:=by simp only [maxLen] at hc2;omega
 go_enter func118,ntmps118;go_wp2_with fail;refine aQ.mono ?_;rintro e w1 ⟨r,rfl,HR⟩
 rcases HR.o.1 with ⟨hr,ha⟩ | ⟨k,x,hr,hx,hpx,hfst⟩
 ·subst hr;have HF:Aside (ys.filter (fun x=> !p x)=ys):=List.filter_eq_self.2 (fun a h=>by rw [ha a h];rfl);go_wp2;go_ret;unfold RA;exact kk6
 have hkl:=(uI.1 hx).1
 have H1:Aside (V6 p ys k (k+1) ys/\I2 w1 g ys/\Below l9 w w1):=⟨V6.start hx hpx hfst,H.o.2.1.same (HR.o.2.block g H.o.2.2.2.2),HR.o.2.mono H.o.2.2.2.1⟩
 subst hr;go_wp2;go_loopg [5,6] ys.length (fun kx s5 s6 wr=>∃(i j:Nat) (cs:qX),s5=qN i/\s6=qN j/\ys.length - j<=kx/\Aside (V6 p ys i j cs/\I2 wr g cs/\Below l9 w wr))
 case atStart=>exact ⟨k,k+1,ys,rfl,zr,zj,H1.o⟩
 case round=>
  obtain ⟨i,j,cs,rfl,rfl,aY,A⟩:=hrel;have aA:=A.o.1.lt;have eN:=A.o.1.le;have dQ:=A.o.1.D4;by_cases hlt:j<ys.length
  ·have aq:qlt j ys.length=true:=by simp;omega
   have dH:=uT H.o.2.2.2.2 A.o.2.2.size;have hbr:=A.o.2.2.size;have cu:=H.o.2.2.2.1;have ej:((j:Int)).toNat=j:=zj;have pj:(0:Int)<=(j:Int):=zj;have bj:(j:Int)<(ys.length:Int):=zj
   obtain ⟨⟨t,b,m,kd,nd,o,s,u⟩,hl⟩:∃l,Aside (ys[j]? =some l):=⟨ys[j],uJ hlt⟩
   obtain ⟨r0,r1,r2,r3,r4,r5,r6,r7,-,-,-,-,-,-,-,-⟩:=A.o.2.1.acs (A.o.1.e hl.o);dsimp only at r0 r1 r2 r3 r4 r5 r6 r7;have hbW:qL wr (wr.alloc (qOc t b m kd nd o s u)):=zh wr _;have hBW:=A.o.2.2.trans (hbW.mono zj);have ac:=H.o.1 _ (t,b,m,kd,nd,o,s,u) (uP hl.o) hBW
   have HW:Aside (m6 (wr.alloc (qOc t b m kd nd o s u)) wr.heap.size (t,b,m,kd,nd,o,s,u)/\I2 (wr.alloc (qOc t b m kd nd o s u)) g cs/\Below l9 w (wr.alloc (qOc t b m kd nd o s u))/\g<wr.heap.size):=⟨m6.F5 wr (t,b,m,kd,nd,o,s,u),A.o.2.1.same (hbW.block g dH),hBW,dH⟩
   unfold mJ at ac
   cases hq:p (t,b,m,kd,nd,o,s,u) with
   | true=>
    rw [hq] at ac;have HQ:=Lib.hid hq;go_wp2_with (go_at_fn gf;refine ac.mono ?_;rintro e w' ⟨rfl,hb'⟩);go_roundg (ys.length - (j+1))
    case measure=>omega
    case rel=>
     have hsz:(wr.alloc (qOc t b m kd nd o s u)).heap.size=wr.heap.size+1:=zr;exact kh8
   | false=>
    rw [hq] at ac;have HQ:=Lib.hid hq;have ei:((i:Int)).toNat=i:=zj;have pi:(0:Int)<=(i:Int):=zj;have bi:(i:Int)<(ys.length:Int):=zj
    obtain ⟨z,hz⟩:∃z,Aside (cs[i]? =some z):=⟨cs[i],uJ zj⟩
    go_wp2_with (go_at_fn gf;refine ac.mono ?_;rintro e w' ⟨rfl,hb'⟩;obtain ⟨q0,q1,q2,q3,q4,q5,q6,q7,-⟩:=(HW.o.1.later hb').cells;dsimp only at q0 q1 q2 q3 q4 q5 q6 q7;obtain ⟨y0,y1,y2,y3,y4,y5,y6,y7,f0,f1,f2,f3,f4,f5,f6,f7⟩:=(HW.o.2.1.same (hb'.block g yM)).acs hz.o);have hsz:(wr.alloc (qOc t b m kd nd o s u)).heap.size=wr.heap.size+1:=zr
    have HE:Aside (I2 w' g cs/\Below l9 w w'):=⟨HW.o.2.1.same (hb'.block g zj),HW.o.2.2.1.trans (hb'.mono zj)⟩
    go_roundg (ys.length - (j+1))
    case measure=>omega
    case rel=>
     rw [acf w' g (i*8) t b m kd nd o s u];refine ⟨i+1,j+1,cs.set i (t,b,m,kd,nd,o,s,u),?_,?_,uL _,?_⟩
     ·go_num
     ·go_num
     exact ⟨A.o.1.F9 hl.o HQ.o,HE.o.1.set zj (t,b,m,kd,nd,o,s,u),HE.o.2.trans ((lZ g (ny (t,b,m,kd,nd,o,s,u)) (i*8) w').m8 (uO H.o.2.2.2.1 HE.o.2.size) (fun k e=>xi))⟩
  have aq:qlt j ys.length=false:=zm;have dH:=uT H.o.2.2.2.2 A.o.2.2.size;have ei:((i:Int)).toNat=i:=zj;have pi:(0:Int)<=(i:Int):=zj;have bi:(i:Int)<=(ys.length:Int):=zj;have bi2:(i:Int)<=(cap:Int):=zj
  have hclear:∀ty,(Builtin.clear_ #[136] ty #[.slice (some (qA g (i*8))) (ys.length - i) (cap - i)]).run prog wr= .ok (.tuple #[]) (wr.setCells g (i*8) (QC (ys.length - i))):=fun ty=>pQ (P:=prog) wr 136 88 ty _ underlying136 zeroValue88 g (i*8) (ys.length - i) (cap - i) zj (TO _) (fun q hq=>A.o.2.1.has (by rw [Cf] at hq;omega)) (fun q hq=>A.o.2.1.free _ (by rw [Cf] at hq;omega))
  go_wp2;go_ret;have st:=A.o.1.aaK;have ejl:j=ys.length:=zj;rw [ejl,Ym] at st
  have ce:(cs.take i).length=i:=by rw [Zr];omega
  unfold RA;rw [<-st,ce];exact ⟨rfl,A.o.2.1.take zj _,A.o.2.2.trans ((lZ g (QC (ys.length - i)) (i*8) wr).m8 (uO H.o.2.2.2.1 A.o.2.2.size) (fun k e=>xi))⟩
def X0(w:qW)(xs:qX)(e:Ending)(w':qW):Prop:=∃v ys,e= .returned v/\((v=qE/\ys= [])\/∃g cap,v=qG g ys.length cap/\w.heap.size<=g/\g<w'.heap.size/\ys.length<=cap/\cap<=maxLen/\I2 w' g ys)/\oI xs ys/\qL w w'
theorem Lo(w)(v)(xs)(h:M1 w v xs)(hn:xs.length<=1000):
  qC 158 #[v] w (X0 w xs):=by
 rcases h with ⟨rfl,rfl⟩ | ⟨blk,off,cap,rfl,hc⟩
 ·go_enter func158,ntmps158;go_wp2_with fail;refine (CD _).mono ?_;rintro e w' ⟨rfl,rfl⟩;go_wp2_with fail;refine (se _ _).mono ?_;rintro e w1 ⟨rfl,rfl⟩;go_wp2;go_ret;exact ⟨_,[],rfl,.inl ⟨rfl,rfl⟩,⟨#[],⟨permIn_refl _ _ _,fun i j _ _ hj=>absurd hj zr⟩,rfl⟩,uM _ _⟩
 have HC:Aside (∀j u,(cellsOf xs)[j]? =some u->w.cell? (qA blk (off+j))=some u):=hc;go_enter func158,ntmps158;go_wp2_with fail;refine (AF w blk off cap xs hn HC.o).mono ?_;rintro e w1 ⟨v1,rfl,hown,hnil,hb⟩
 obtain ⟨g,c1,rfl,hg,hc1,hc2⟩:∃g c1,v1=qG g xs.length c1/\w.heap.size<=g/\xs.length<=c1/\c1<=maxLen:=by
  rcases hown.2 with ⟨h1,_⟩ | ⟨g,c1,cur,h1,h2,_,h3,h4,_⟩
  ·exact absurd h1 hnil
  exact ⟨g,c1,h1,h2,h3,h4⟩
 have R0:Aside (RowK Cl 8 w1 g 0 (pD xs)):=Vw rfl hown;have HB:Aside (qL w w1):=hb;go_wp2_with fail;have C:=tY w1 g 0 c1 (pD xs) R0.o (fun p hp=>xV) (by rw [mt];omega);rw [mt] at C;refine C.mono ?_;rintro e w2 ⟨rfl,d',hd,S⟩
 have hl:d'.size=xs.length:=by rw [hd.1.1,mt]
 have iy:(d'.toList.map Prod.fst).length=xs.length:=vv;have hsz:=(sV (uM 0 w1) (uW _) (uW _) S).size
 have F:Aside (X0 w xs (.returned (qG g xs.length c1)) w2):=
  ⟨_,d'.toList.map Prod.fst,rfl,.inr ⟨g,c1,by rw [iy],hg,uT R0.o.hblk hsz,by rw [iy];exact hc1,hc2,⟨fun j u hj=>by have:=Fu R0.o vN S j u hj;rw [Zc] at this;exact this,fun j hj=>by
   have H:=((S.holds R0.o.hblk R0.o.hH vN) j (by rw [size_flatK];rw [iy] at hj;omega)).2
   rw [Zc] at H
   exact H⟩⟩,⟨d',hd,rfl⟩,sV HB.o hg HB.o.size S⟩
 go_wp2;go_ret;exact F.o
theorem X0.l9{w w1 w'}{xs}{e}(h:X0 w1 xs e w')(hb:qL w w1):X0 w xs e w':=by
 obtain ⟨v,ys,h1,h2,h3,h4⟩:=h;refine ⟨v,ys,h1,h2.imp id ?_,h3,zi hb h4⟩;rintro ⟨g,cap,k1,k2,k3⟩;exact ⟨g,cap,k1,uO hb.size k2,k3⟩
theorem Sw(w)(ao)(cap)(R)(hK:C8 w ao R)(hnil:∀i,i<4->ao i=none->cap i=0)(hn:(lX R).length<=1000):
  qC 164 #[kV ao cap R] w (X0 w (lX R)):=by
 obtain ⟨W,hW⟩:=za (w.alloc (.cells #[.slice (ao 0) (R 0).length (cap 0),.slice (ao 1) (R 1).length (cap 1),.slice (ao 2) (R 2).length (cap 2),.slice (ao 3) (R 3).length (cap 3)] 138 (0,0)))
 have hb:qL w W:=by rw [hW];exact zh w _
 have bK:I4 W w.heap.size ao cap R:=by rw [hW];exact heap_alloc_new w _
 have hcat:=Lb W w.heap.size ao cap R bK (hK.later hb) hnil hn
 have H:Aside (W=w.alloc (.cells #[.slice (ao 0) (R 0).length (cap 0),.slice (ao 1) (R 1).length (cap 1),.slice (ao 2) (R 2).length (cap 2),.slice (ao 3) (R 3).length (cap 3)] 138 (0,0))/\qL w W/\(lX R).length<=1000):=⟨hW,hb,hn⟩
 unfold kV;go_enter func164,ntmps164;go_wp2_with fail;rw [<-H.o.1];refine hcat.mono ?_;rintro e w1 ⟨v1,rfl,ho1,hb1⟩;have hs:=Lo w1 v1 (lX R) (Cg ho1) H.o.2.2;have H1:Aside (qL w w1):=zi H.o.2.1 hb1;go_wp2_with fail;refine hs.mono ?_;intro e w2 aJ;have gN:=aJ.l9 H1.o;exact kj9
theorem Ts(w)(c)(br)(o9)(R)(h:K7 w c br o9 R)(hn:(lX R).length<=1000):
  qC 119 #[qP br] w (X0 w (lX R)):=by
 obtain ⟨T,kv,bt,bx,bc,A,hm,hp,hK,hb⟩:=h;obtain ⟨ao,cap,hM⟩:=hm.aa0;have hall:=Sw w ao cap R (C8.r hM.GC) (SO hM.GC) hn;unfold kV at hall;have k2:w.cell? (qA br 2)=some (.slice (ao 0) (R 0).length (cap 0)):=hM.cell.c2;have k3:w.cell? (qA br 3)=some (.slice (ao 1) (R 1).length (cap 1)):=hM.cell.c3;have k4:w.cell? (qA br 4)=some (.slice (ao 2) (R 2).length (cap 2)):=hM.cell.c4;have k5:w.cell? (qA br 5)=some (.slice (ao 3) (R 3).length (cap 3)):=hM.cell.c5;go_enter func119,ntmps119;go_wp2_with fail;refine hall.mono ?_;intro e w2 aJ;have gN:=aJ;exact kj9
def zaE(w:qW)(R:Rws)(v:Nat->Int)(e:Ending)(w':qW):Prop:=∃val ys,e= .returned val/\oI (lX R) ys/\((val=qE/\ys= [])\/∃g cap,val=qG g (ys.filter (fun x=> !rF v x)).length cap/\w.heap.size<=g/\I2 w' g (ys.filter (fun x=> !rF v x)))/\qL w w'
theorem J0.adt{w w'}{b B}{v}(h:J0 w b v)(hb:Below B w w')(hB:b<B):J0 w' b v:=(hb.block b hB).trans h
theorem zbP(p:OpX->Bool)(gf:Nat)(lb)(eg:∀args w,(callFunc gf args).run prog w= .ok (.enter gf args) w)(w):
  qC 118 #[qE,.func (.func gf) #[] lb] w (qR qE w):=by
 have aQ:=AE p gf lb eg none 0 [] w (fun W x hx=>by cases hx) zr (.inl rfl);go_enter func118,ntmps118;go_wp2_with fail;refine aQ.mono ?_;rintro e w1 ⟨r,rfl,HR⟩
 rcases HR.o.1 with ⟨hr,ha⟩ | ⟨k,x,hr,hx,_⟩
 ·subst hr;go_wp2;go_ret;exact ⟨rfl,HR.o.2⟩
 simp at hx
theorem Px(w)(c)(br)(o9)(R)(v)(h:K7 w c br o9 R)(hn:(lX R).length<=1000):
  qC 89 #[qP br,.agg #[qI (v 0),qI (v 1),qI (v 2),qI (v 3)]] w (zaE w R v):=by
 have eg:∀args w,(callFunc 120 args).run prog w= .ok (.enter 120 args) w:=enters_of func120 zk rfl;obtain ⟨U,hU⟩:=za (w.alloc (.cells #[qI (v 0),qI (v 1),qI (v 2),qI (v 3)] 103 (0,0)));have ah:qL w U:=zX
 have hv:J0 U w.heap.size v:=by rw [hU];exact heap_alloc_new w _
 have dY:=Ts U c br o9 R (h.later ah) hn;have hK:u9 R:=ud
 have H:Aside (U=w.alloc (.cells #[qI (v 0),qI (v 1),qI (v 2),qI (v 3)] 103 (0,0))/\qL w U/\J0 U w.heap.size v/\u9 R):=⟨hU,ah,hv,hK⟩
 clear hU ah hv hK h;go_enter func89,ntmps89;go_upto_region 1 with fail;rw [<-H.o.1];go_wp2_with fail;refine dY.mono ?_;clear dY;rintro e w1 ⟨val,ys,rfl,hval,hst,hb1⟩
 rcases hval with ⟨rfl,rfl⟩ | ⟨g,cap,rfl,hg1,hg2,hc1,hc2,hO⟩
 ·have hd:=zbP (rF v) 120 #[qP w.heap.size] eg w1
  have H1:Aside (oI (lX R) []/\qL w w1):=⟨hst,zi H.o.2.1 hb1⟩
  clear hst hb1 eg;go_wp2_with fail;refine hd.mono ?_;clear hd;rintro e w2 ⟨rfl,hb2⟩;have H2:Aside (qL w w2):=zi H1.o.2 hb2;clear hb2;go_wp2;go_ret;exact ⟨_,[],rfl,H1.o.1,.inl ⟨rfl,rfl⟩,H2.o⟩
 have hlen:=(rY hst).1.length_eq
 have eG:abe 120 #[qP w.heap.size] ys (rF v) U.heap.size w1:=fun W x hx hW=>by
  obtain ⟨i,hi,hb,_⟩:=Cm (H.o.2.2.2.G6.ok x ((rY hst).1.mem_iff.1 hx));exact Ms W w.heap.size v x ((H.o.2.2.1.later hb1).adt hW H.o.2.2.1.lt) i hi hb
 have hd:=MF (rF v) 120 #[qP w.heap.size] eg g cap U.heap.size ys w1 hg1 hb1.size hg2 eG zj hc1 hc2 hO
 have H1:Aside (oI (lX R) ys/\qL w w1/\w.heap.size<=g):=⟨hst,zi H.o.2.1 hb1,uO H.o.2.1.size hg1⟩
 clear hst hb1 eg eG hO hlen hg1 hg2 hc1 hc2;go_wp2_with fail;refine hd.mono ?_;clear hd;rintro e w2 ⟨rfl,hO2,hb2⟩
 have H2:Aside (qL w w2/\I2 w2 g (ys.filter (fun x=> !rF v x))):=⟨H1.o.2.1.trans (hb2.mono H.o.2.1.size),hO2⟩
 clear hb2 hO2;go_wp2;go_ret;exact ⟨_,ys,rfl,H1.o.1,.inr ⟨g,cap,rfl,H1.o.2.2,H2.o.2⟩,H2.o.1⟩
theorem JG(w:qW)(o):(w.alloc o).heap=w.heap.push o:=rfl
theorem JZ(w:qW):w.drew.heap=w.heap:=rfl
theorem NY(w)(b)(h0:0<=b)(h4:b<4):
  qC 28 #[qI b] w (WZ w b):=by
 have jG:= @run_makeMap prog;have hc:=zcm b w h0 h4;go_enter func28,ntmps28;go_wp2_with fail;refine hc.mono ?_;rintro e w1 ⟨rfl,rfl⟩;go_upto_region 4 with fail;go_region_with (first | (go_at_call 78;refine (Wu _).mono ?_;rintro e w' ⟨rfl,rfl⟩) | (go_at_call 79;refine (Sv _).mono ?_;rintro e w' ⟨rfl,rfl⟩))
 all_goals (go_wp2;go_ret2)
 all_goals (first
  | (refine Bo h0 h4 (w.heap.size+1+1) (w.heap.size+1) (w.heap.size+1+1+1+1+1) (w.heap.size+1+1+1+1) (w.heap.size+1+1+1) (w.heap.size+1+1+1+1+1+1) ?_ zj zj zj zj zj zj zj zj zj zj zj ?_ ?_ ?_ ?_ ?_ ?_;all_goals (first | (simp only [JG,JZ,Array.getElem?_push,Array.size_push];(try (repeat first | rw [if_pos trivial] | rw [if_neg zj] | rfl));done) | ((repeat first | exact uM _ _ | refine Below.drew ?_ | refine Below.alloc ?_ yX _);done)))
  | (refine Bo h0 h4 (w.heap.size+1+1) (w.heap.size+1) (w.heap.size+1+1+1) (w.heap.size+1+1+1+1+1) (w.heap.size+1+1+1+1) (w.heap.size+1+1+1+1+1+1) ?_ zj zj zj zj zj zj zj zj zj zj zj ?_ ?_ ?_ ?_ ?_ ?_;all_goals (first | (simp only [JG,JZ,Array.getElem?_push,Array.size_push];(try (repeat first | rw [if_pos trivial] | rw [if_neg zj] | rfl));done) | ((repeat first | exact uM _ _ | refine Below.drew ?_ | refine Below.alloc ?_ yX _);done)))
  | (refine Bo h0 h4 (w.heap.size+1+1+1) (w.heap.size+1+1) (w.heap.size+1) (w.heap.size+1+1+1+1+1) (w.heap.size+1+1+1+1) (w.heap.size+1+1+1+1+1+1) ?_ zj zj zj zj zj zj zj zj zj zj zj ?_ ?_ ?_ ?_ ?_ ?_;all_goals (first | (simp only [JG,JZ,Array.getElem?_push,Array.size_push];(try (repeat first | rw [if_pos trivial] | rw [if_neg zj] | rfl));done) | ((repeat first | exact uM _ _ | refine Below.drew ?_ | refine Below.alloc ?_ yX _);done))))
theorem zaS(ys):(mP lL ys).length=ys.length*3:=mu mG ys
theorem zcK(ys)(i c)(hi:i<ys.length)(hc:c<3):(mP lL ys)[i*3+c]? =some ((lL (ys[i]!))[c]!):=by
 simp_all [mi,mG,uJ,getElem!_pos,lL]
structure L1 (w:qW) (g:Nat) (ys:List Plc):Prop where
 cell:∀j u,(mP lL ys)[j]? =some u->w.cell? (qA g j)=some u
 free:∀j,j<ys.length*3->w.frozen? (qA g j)=false
theorem L1.has{w}{g}{ys}(h:L1 w g ys){j}(hj:j<ys.length*3):(w.cell? (qA g j)).isSome=true:=by
 have hl:j<(mP lL ys).length:=by rw [zaS];omega
 rw [h.cell j _ (uJ hl)];rfl
theorem L1.at{w}{g}{ys}(h:L1 w g ys){i}{x}(hi:ys[i]? =some x){c}{u}(hc:(lL x)[c]? =some u):w.cell? (qA g (i*3+c))=some u:=by
 have hl:=(uI.1 hi).1
 have h3:c<3:=by have:=(uI.1 hc).1;rw [mG] at this;exact this
 refine h.cell _ _ ?_
 grind [lL,mG,zcK,uJ]
theorem L1.same{w w'}{g}{ys}(h:L1 w g ys)(e:w'.heap[g]? =w.heap[g]?):L1 w' g ys:=
 ⟨fun j u hj=>by have:=h.cell j u hj;simp only [World.cell?] at this |-;rw [e];exact this,fun j hj=>xd⟩
theorem L1.set{w}{g}{cs}(h:L1 w g cs){i}(hi:i<cs.length)(x):L1 (w.setCells g (i*3) (lL x)) g (cs.set i x):=by
 constructor
 ·intro j u hj;have hl:=(uI.1 hj).1;rw [zaS,YL] at hl;have h2:j / 3*3+j % 3=j:=zj;have c:=zcK (cs.set i x) (j / 3) (j % 3) qt zj;rw [h2,hj] at c;have hq:j / 3<(cs.set i x).length:=qt;rw [getElem!_pos (cs.set i x) (j / 3) hq,List.getElem_set] at c;by_cases e:i=j / 3
  ·rw [if_pos e] at c;have hr:j % 3<(lL x).length:=vB;have k:=World.cell?_setCells_in g (lL x) (i*3) w (fun q hq'=>h.has (by rw [mG] at hq';omega)) (j % 3) hr;rw [show i*3+j % 3=j by omega] at k;rw [k];rw [getElem!_pos (lL x) (j % 3) hr] at c;exact c.symm
  rw [if_neg e] at c;rw [ZZ g (lL x) (i*3) w (qA g j) (fun _ _=>by rw [mG];show j<i*3\/i*3+3<=j;omega)];refine h.cell j u ?_;rw [<-h2,zcK cs (j / 3) (j % 3) zj zj,getElem!_pos cs (j / 3) zj];exact c.symm
 exact kl9
theorem L1.ins{w}{g}{ys}(h:L1 w g ys):Q9 w (qS g) ys:=.inr ⟨g,0,rfl,fun j u hj=>by rw [Zc];exact h.cell j u hj⟩
theorem L1.take{w}{g}{cs}(h:L1 w g cs){i}(hi:i<=cs.length)(vs):L1 (w.setCells g (i*3) vs) g (cs.take i):=by
 have hlen:(cs.take i).length=i:=zm;constructor
 ·intro j u hj;have hl:=(uI.1 hj).1;rw [zaS,hlen] at hl;rw [ZZ g vs (i*3) w (qA g j) (fun _ _=>.inl (by show j<i*3;omega))];refine h.cell j u ?_
  have e:mP lL cs=mP lL (cs.take i)++mP lL (cs.drop i):=by rw [<-nR,Zx]
  rw [e,Yh (by rw [zaS,hlen];omega)];exact hj
 exact km9
structure aae (p:Plc->Bool) (ys:List Plc) (i j:Nat) (cs:List Plc):Prop where
 lt:i<j
 le:j<=ys.length
 D4:cs.length=ys.length
 aaK:cs.take i=(ys.take j).filter (fun x=> !p x)
 rest:cs.drop j=ys.drop j
theorem aae.start{p}{ys}{k}{x}(hx:ys[k]? =some x)(hp:p x=true)(hk:∀j y,j<k->ys[j]? =some y->p y=false):aae p ys k (k+1) ys:=by
 exact kc6
theorem aae.e{p}{ys cs}{i j}(h:aae p ys i j cs){x}(hx:ys[j]? =some x):cs[j]? =some x:=by
 exact kl3
theorem aae.skip{p}{ys cs}{i j}(h:aae p ys i j cs){x}(hx:ys[j]? =some x)(hp:p x=true):aae p ys i (j+1) cs:=by
 have hl:=(uI.1 hx).1;refine ⟨by have:=h.lt;omega,zj,h.D4,?_,?_⟩
 ·rw [Zy,hx,Ya,h.aaK];simp [hp]
 exact kf9
theorem aae.F9{p}{ys cs}{i j}(h:aae p ys i j cs){x}(hx:ys[j]? =some x)(hp:p x=false):aae p ys (i+1) (j+1) (cs.set i x):=by
 have hl:=(uI.1 hx).1;have hlt:=h.lt;have hlen:=h.D4;refine ⟨zj,zj,by rw [YL];exact h.D4,?_,?_⟩
 ·exact kh9
 rw [List.drop_set_of_lt zj];exact kf9
abbrev zeroPV:Value:=.agg #[qI 0,qI 0,.string ⟨#[]⟩]
theorem AN:zeroPV.cells.size=3:=rfl
def Jv(n:Nat):List Value:=(Builtin.zeroCells zeroPV.cells n).toList
theorem Of(n):∀v∈(Builtin.zeroCells zeroPV.cells n).toList,v.oneCell'=true:=by
 intro v hv;unfold Builtin.zeroCells at hv;rw [Array.toList_map,Zj] at hv;obtain ⟨a,_,rfl⟩:=hv;rw [AN];have h8:a % 3<3:=Nat.mod_lt _ zj
 have Y9:∀q,q<3->(zeroPV.cells[q]!).oneCell'=true:=fun q hq=>by
  match q,hq with
  | 0,_=>rfl
  | 1,_=>rfl
  | 2,_=>rfl
 exact Y9 _ h8
structure zbz (w:qW) (g a:Nat) (x:Plc):Prop where
 c0:w.cell? (qA g a)=some (qI x.1)
 c1:w.cell? (qA g (a+1))=some (qI x.2.1)
 c2:w.cell? (qA g (a+2))=some (.string x.2.2)
 f0:w.frozen? (qA g a)=false
 f1:w.frozen? (qA g (a+1))=false
 f2:w.frozen? (qA g (a+2))=false
theorem L1.acI{w}{g}{cs}(h:L1 w g cs){i}{x}(hi:cs[i]? =some x):zbz w g (i*3) x:=by
 have hl:=(uI.1 hi).1;have e0:=h.at hi (c:=0) rfl;rw [ZC] at e0;exact ⟨e0,h.at hi (c:=1) rfl,h.at hi (c:=2) rfl,h.free _ zj,h.free _ zj,h.free _ zj⟩
theorem abz(w:qW)(g a)(n i)(s):(((w.setCell (qA g a) (qI n)).setCell (qA g (a+1)) (qI i)).setCell (qA g (a+2)) (.string s))=w.setCells g a (lL (n,i,s)):=rfl
def Ia(w:qW)(g cap l9:Nat)(zs:List Plc)(e:Ending)(w':qW):Prop:=e= .returned (qG g zs.length cap)/\L1 w' g zs/\Below l9 w w'
theorem OQ(p)(gf:Nat)(lb)(eg:∀args w,(callFunc gf args).run prog w= .ok (.enter gf args) w)(g cap l9)(ys)(w)(hbg:l9<=g)(cu:l9<=w.heap.size)(dH:g<w.heap.size)(hp:RR gf lb ys p l9 w)(hn:ys.length<=1000)(hc1:ys.length<=cap)(hc2:cap<=maxLen)(hO:L1 w g ys):
  qC 188 #[qG g ys.length cap,.func (.func gf) #[] lb] w (Ia w g cap l9 (ys.filter (fun x=> !p x))):=by
 have aQ:=Bp p gf lb eg (qS g) cap l9 ys w cu hp zj hO.ins
 have H:Aside (RR gf lb ys p l9 w/\L1 w g ys/\l9<=g/\l9<=w.heap.size/\g<w.heap.size):=⟨hp,hO,hbg,cu,dH⟩
 have hc63:(cap:Int)<=9223372036854775807:=by simp only [maxLen] at hc2;omega
 go_enter func188,ntmps188;go_wp2_with fail;refine aQ.mono ?_;rintro e w1 ⟨r,rfl,HR⟩
 rcases HR.o.1 with ⟨hr,ha⟩ | ⟨k,x,hr,hx,hpx,hfst⟩
 ·subst hr;have HF:Aside (ys.filter (fun x=> !p x)=ys):=List.filter_eq_self.2 (fun a h=>by rw [ha a h];rfl);go_wp2;go_ret;unfold Ia;exact kk6
 have hkl:=(uI.1 hx).1
 have H1:Aside (aae p ys k (k+1) ys/\L1 w1 g ys/\Below l9 w w1):=⟨aae.start hx hpx hfst,H.o.2.1.same (HR.o.2.block g H.o.2.2.2.2),HR.o.2.mono H.o.2.2.2.1⟩
 subst hr;go_wp2;go_loopg [5,6] ys.length (fun kx s5 s6 wr=>∃(i j:Nat) (cs:List Plc),s5=qN i/\s6=qN j/\ys.length - j<=kx/\Aside (aae p ys i j cs/\L1 wr g cs/\Below l9 w wr))
 case atStart=>exact ⟨k,k+1,ys,rfl,zr,zj,H1.o⟩
 case round=>
  obtain ⟨i,j,cs,rfl,rfl,aY,A⟩:=hrel;have aA:=A.o.1.lt;have eN:=A.o.1.le;have dQ:=A.o.1.D4;by_cases hlt:j<ys.length
  ·have aq:qlt j ys.length=true:=by simp;omega
   have dH:=uT H.o.2.2.2.2 A.o.2.2.size;have hbr:=A.o.2.2.size;have cu:=H.o.2.2.2.1;have ej:((j:Int)).toNat=j:=zj;have pj:(0:Int)<=(j:Int):=zj;have bj:(j:Int)<(ys.length:Int):=zj
   obtain ⟨⟨nd,i_,s⟩,hl⟩:∃l,Aside (ys[j]? =some l):=⟨ys[j],uJ hlt⟩
   obtain ⟨r0,r1,r2,-,-,-⟩:=A.o.2.1.acI (A.o.1.e hl.o);dsimp only at r0 r1 r2;have hbW:qL wr (wr.alloc (.cells #[qI nd,qI i_,.string s] 212)):=zh wr _;have hBW:=A.o.2.2.trans (hbW.mono zj);have ac:=H.o.1 _ (nd,i_,s) (uP hl.o) hBW
   have HW:Aside (x8 (wr.alloc (.cells #[qI nd,qI i_,.string s] 212)) wr.heap.size (nd,i_,s)/\L1 (wr.alloc (.cells #[qI nd,qI i_,.string s] 212)) g cs/\Below l9 w (wr.alloc (.cells #[qI nd,qI i_,.string s] 212))/\g<wr.heap.size):=⟨heap_alloc_new wr _,A.o.2.1.same (hbW.block g dH),hBW,dH⟩
   unfold pG at ac;dsimp only at ac
   cases hq:p (nd,i_,s) with
   | true=>
    rw [hq] at ac;have HQ:=Lib.hid hq;go_wp2_with (go_at_fn gf;refine ac.mono ?_;rintro e w' ⟨rfl,hb'⟩);go_roundg (ys.length - (j+1))
    case measure=>omega
    case rel=>
     have hsz:(wr.alloc (.cells #[qI nd,qI i_,.string s] 212)).heap.size=wr.heap.size+1:=zr;exact kh8
   | false=>
    rw [hq] at ac;have HQ:=Lib.hid hq;have ei:((i:Int)).toNat=i:=zj;have pi:(0:Int)<=(i:Int):=zj;have bi:(i:Int)<(ys.length:Int):=zj
    obtain ⟨z,hz⟩:∃z,Aside (cs[i]? =some z):=⟨cs[i],uJ zj⟩
    go_wp2_with (go_at_fn gf;refine ac.mono ?_;rintro e w' ⟨rfl,hb'⟩;have q0:=(HW.o.1.same (hb'.block _ HW.o.1.lt)).c0;have q1:=(HW.o.1.same (hb'.block _ HW.o.1.lt)).c1;have q2:=(HW.o.1.same (hb'.block _ HW.o.1.lt)).c2;dsimp only at q0 q1 q2;obtain ⟨y0,y1,y2,f0,f1,f2⟩:=(HW.o.2.1.same (hb'.block g yM)).acI hz.o);have hsz:(wr.alloc (.cells #[qI nd,qI i_,.string s] 212)).heap.size=wr.heap.size+1:=zr
    have HE:Aside (L1 w' g cs/\Below l9 w w'):=⟨HW.o.2.1.same (hb'.block g zj),HW.o.2.2.1.trans (hb'.mono zj)⟩
    go_roundg (ys.length - (j+1))
    case measure=>omega
    case rel=>
     rw [abz w' g (i*3) nd i_ s];refine ⟨i+1,j+1,cs.set i (nd,i_,s),?_,?_,uL _,?_⟩
     ·go_num
     ·go_num
     exact ⟨A.o.1.F9 hl.o HQ.o,HE.o.1.set zj (nd,i_,s),HE.o.2.trans ((lZ g (lL (nd,i_,s)) (i*3) w').m8 (uO H.o.2.2.2.1 HE.o.2.size) (fun k e=>xi))⟩
  have aq:qlt j ys.length=false:=zm;have dH:=uT H.o.2.2.2.2 A.o.2.2.size;have ei:((i:Int)).toNat=i:=zj;have pi:(0:Int)<=(i:Int):=zj;have bi:(i:Int)<=(ys.length:Int):=zj;have bi2:(i:Int)<=(cap:Int):=zj
  have hclear:∀ty,(Builtin.clear_ #[209] ty #[.slice (some (qA g (i*3))) (ys.length - i) (cap - i)]).run prog wr= .ok (.tuple #[]) (wr.setCells g (i*3) (Jv (ys.length - i))):=fun ty=>pQ (P:=prog) wr 209 212 ty _ underlying209 zeroValue212 g (i*3) (ys.length - i) (cap - i) zj (Of _) (fun q hq=>A.o.2.1.has (by rw [AN] at hq;omega)) (fun q hq=>A.o.2.1.free _ (by rw [AN] at hq;omega))
  go_wp2;go_ret;have st:=A.o.1.aaK;have ejl:j=ys.length:=zj;rw [ejl,Ym] at st
  have ce:(cs.take i).length=i:=by rw [Zr];omega
  unfold Ia;rw [<-st,ce];exact ⟨rfl,A.o.2.1.take zj _,A.o.2.2.trans ((lZ g (Jv (ys.length - i)) (i*3) wr).m8 (uO H.o.2.2.2.1 A.o.2.2.size) (fun k e=>xi))⟩

end