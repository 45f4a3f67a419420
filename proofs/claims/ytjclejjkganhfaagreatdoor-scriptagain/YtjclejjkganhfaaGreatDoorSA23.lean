import Derived.Test.YtjclejjkganhfaaGreatDoorSA20
set_option linter.unusedSimpArgs false
set_option linter.unusedVariables false
set_option maxRecDepth 100000
set_option maxHeartbeats 64000000
namespace Go.Proofs.YtjclejjkganhfaaGreatDoor
open Go.Proofs.Tryz
section
open RowKit
theorem Ex(W:qW){b}(hb:b<=W.heap.size):∃w0:World,w0.heap.size=b:=⟨{W with heap:=W.heap.extract 0 b},zl⟩
theorem VC{W}{b}(h:W.heap[b]? =some (.map #[] 0)):I6 W b 0 noT:=by
 obtain ⟨w0,rfl⟩:=Ex W (Yz (uN.1 h).1);exact (JR w0).same (h.trans (heap_alloc_new w0 _).symm)
theorem TH{W}{b}(h:W.heap[b]? =some (.map #[] 0)):L9 W b 0 noC:=by
 obtain ⟨w0,rfl⟩:=Ex W (Yz (uN.1 h).1);exact (JM w0).same (h.trans (heap_alloc_new w0 _).symm)
theorem Xz{W}{b}(h:W.heap[b]? =some (.map #[] 0)):sE prog 3 W b 0 tB:=by
 obtain ⟨w0,rfl⟩:=Ex W (Yz (uN.1 h).1);exact (NG w0).same (h.trans (heap_alloc_new w0 _).symm)
def pK(bt bm bx bc cm br:Nat):Nat->Nat:=fun k=>if k=br then 1 else if k=bt\/k=bm then 2 else if k=bx then 3 else if k=bc\/k=cm then 4 else 0
def Wk(w:qW)(o8:Int)(e:Ending)(w':qW):Prop:=∃c br,e=qT #[qP br,.nilIface]/\C8 w.heap.size w' c br o8 (fun _=>[])/\qL w w'
theorem Ck{w W}{b}(h0:0<=b)(h4:b<4)(bt bm bx bc cm br)(hb:qL w W)
  (l1:w.heap.size<=bt) (l2:w.heap.size<=bm) (l3:w.heap.size<=bx) (l4:w.heap.size<=bc) (l5:w.heap.size<=cm) (l6:w.heap.size<=br)
  (d1:bt≠br) (d2:bm≠br) (d3:bx≠br/\bx≠bt/\bx≠bm) (d4:bc≠br/\bc≠bt/\bc≠bm/\bc≠bx) (d5:cm≠br/\cm≠bt/\cm≠bm/\cm≠bx)
  (e1:W.heap[bt]? =some (.cells #[.map (some bm),qE] 188 (0,0))) (e2:W.heap[bm]? =some (.map #[] 0)) (e3:W.heap[bx]? =some (.map #[] 0))
  (e4:W.heap[bc]? =some (.cells #[.map (some cm)] 191 (0,0))) (e5:W.heap[cm]? =some (.map #[] 0))
  (e6:W.heap[br]? =some (.cells #[qI 0,qI b,qE,qE,qE,qE,qP bt,.map (some bx),qP bc] 140 (0,0))):
  Wk w b (qT #[qP br,.nilIface]) W:=by
 have hlt:∀ {k:Nat} {o:Obj},W.heap[k]? =some o->k<W.heap.size:=fun h=>(uN.1 h).1
 have u1:pK bt bm bx bc cm br br=1:=by unfold pK;simp
 have u2:pK bt bm bx bc cm br bt=2:=by unfold pK;simp [d1]
 have u3:pK bt bm bx bc cm br bm=2:=by unfold pK;simp [d2]
 have u4:pK bt bm bx bc cm br bx=3:=by unfold pK;simp [d3.1,d3.2.1,d3.2.2]
 have u5:pK bt bm bx bc cm br bc=4:=by unfold pK;simp [d4.1,d4.2.1,d4.2.2.1,d4.2.2.2]
 have u6:pK bt bm bx bc cm br cm=4:=by unfold pK;simp [d5.1,d5.2.1,d5.2.2.1,d5.2.2.2]
 refine ⟨pK bt bm bx bc cm br,br,rfl,⟨⟨0,fun _=>qE,bt,bx,bc,[],⟨e6,u1,?_,?_,?_,?_,Rp⟩,by unfold lY;simp_all,wY,h0,h4⟩,fun k hk=> ?_,fun k hk=> ?_⟩,hb⟩
 ·exact fun i hi=>⟨Zk _ _ _ _,fun g hg=>xC⟩
 ·refine ⟨bm,qE,[],⟨e1,⟨[],Sc,Zk _ _ _ _⟩,⟨0,zq,Xz e2⟩,List.Pairwise.nil,fun m hm=>by simp at hm⟩,List.Perm.refl _,u2,u3,fun g hg=>xC⟩
 ·refine ⟨0,noT,uM _,VC e3,u4,fun nd=>⟨fun h=>qd,fun ⟨x,hx,_⟩=>(by cases hx)⟩,fun nd p hp=>by cases hp⟩
 ·exact ⟨cm,[],⟨e4,TH e5⟩,List.Perm.refl _,u5,u6⟩
 ·by_cases q:k=br\/k=bt\/k=bm\/k=bx\/k=bc\/k=cm
  ·rcases q with rfl | rfl | rfl | rfl | rfl | rfl<;>assumption
  simp_all [pK,not_or]
 have:=hlt e1;have:=hlt e2;have:=hlt e3;have:=hlt e4;have:=hlt e5;have:=hlt e6;unfold pK
 grind
end
section
open RowKit Lib Go.Sort Maps
theorem Ik(w:qW)(o):(w.alloc o).heap=w.heap.push o:=rfl
theorem IE(w:qW):w.drew.heap=w.heap:=rfl
theorem SC(w)(b)(h0:0<=b)(h4:b<4):
  qC 28 #[qI b] w (Wk w b):=by
 have ff:= @run_makeMap prog;have hc:=zdj b w h0 h4;go_enter func28,ntmps28;go_wp2_with fail;refine hc.mono ?_;rintro e w1 ⟨rfl,rfl⟩;go_upto_region 4 with fail;go_region_with (first | (go_at_call 78;refine (zaq _).mono ?_;rintro e w' ⟨rfl,rfl⟩) | (go_at_call 79;refine (UA _).mono ?_;rintro e w' ⟨rfl,rfl⟩))
 all_goals (go_wp2;go_ret2)
 all_goals (first
  | (refine Ck h0 h4 (w.heap.size+1+1) (w.heap.size+1) (w.heap.size+1+1+1+1+1) (w.heap.size+1+1+1+1) (w.heap.size+1+1+1) (w.heap.size+1+1+1+1+1+1) ?_ zj zj zj zj zj zj zj zj zj zj zj ?_ ?_ ?_ ?_ ?_ ?_;all_goals (first | (simp only [Ik,IE,Array.getElem?_push,Array.size_push];(try (repeat first | rw [if_pos trivial] | rw [if_neg zj] | rfl));done) | ((repeat first | exact uO _ _ | refine Below.drew ?_ | refine Below.alloc ?_ yZ _);done)))
  | (refine Ck h0 h4 (w.heap.size+1+1) (w.heap.size+1) (w.heap.size+1+1+1) (w.heap.size+1+1+1+1+1) (w.heap.size+1+1+1+1) (w.heap.size+1+1+1+1+1+1) ?_ zj zj zj zj zj zj zj zj zj zj zj ?_ ?_ ?_ ?_ ?_ ?_;all_goals (first | (simp only [Ik,IE,Array.getElem?_push,Array.size_push];(try (repeat first | rw [if_pos trivial] | rw [if_neg zj] | rfl));done) | ((repeat first | exact uO _ _ | refine Below.drew ?_ | refine Below.alloc ?_ yZ _);done)))
  | (refine Ck h0 h4 (w.heap.size+1+1+1) (w.heap.size+1+1) (w.heap.size+1) (w.heap.size+1+1+1+1+1) (w.heap.size+1+1+1+1) (w.heap.size+1+1+1+1+1+1) ?_ zj zj zj zj zj zj zj zj zj zj zj ?_ ?_ ?_ ?_ ?_ ?_;all_goals (first | (simp only [Ik,IE,Array.getElem?_push,Array.size_push];(try (repeat first | rw [if_pos trivial] | rw [if_neg zj] | rfl));done) | ((repeat first | exact uO _ _ | refine Below.drew ?_ | refine Below.alloc ?_ yZ _);done))))
end
section
open RowKit Lib Go.Sort Maps
open scoped Classical
def zbw(ad:qF)(w:qW)(ok:Prop)(x:OpX)(cyc:Prop)(e:Ending)(w':qW):Prop:=qL w w'/\
 ((¬ok/\e=qT #[mH lQ,eV ad 6])\/(ok/\pZ x≠0/\e=qT #[mH lQ,eV ad (pZ x)])\/(ok/\pZ x=0/\cyc/\e=qT #[mH lQ,eV ad 10])\/(ok/\pZ x=0/\¬cyc/\e=qT #[mH x,.nilIface]))
theorem Pz{B}{ad}(w)(c)(br)(T)(i:Nat)(ao)(cap)(bt bx bc bm n)(f)(R)(nd into)(name)(hc:n7 w br T (i:Int) (kvs ao cap R) bt bx bc)(aP:E6 w c (kvs ao cap R) R)(ht:w.cell? (qB bt)=some (.map (some bm)))(hmap:sE prog 3 w bm n f)(hG:AV f)(hR:t7 R)(hE:F1 B ad w)(hcy:Aside (Cyc ad))(hi:i<4)(hT:0<=T)(hm:T<=1073741824)(hn:(lY R).length<=250)(aG:name.size<=1000000)(h2: -9223372036854775808<=nd)(h3:nd<=9223372036854775807)(h4: -9223372036854775808<=into)(h5:into<=9223372036854775807):
  qC 208 #[qP br,qI nd,qI into,.string name] w (zbw ad w (m9 (lY R) nd/\(into=0\/into=1\/m9 (lY R) into)) (nR T i (R i).length 109 nd into name ⟨#[]⟩) (into=nd\/Ins f into nd)):=by
 have dA:∀i,i<4->(R i).length<=1000:=fun i hi=>yE
 obtain ⟨S,hS⟩:=za w.heap.size;obtain ⟨U,hU⟩:=za (w.alloc qZc);have ah:qL w U:=zX;have Z0:m6 U S lQ:=yF;have aO:=hc.same (ah.block _ hc.lt)
 obtain ⟨zb,cQ⟩:∃zb:Bool,zb=true↔m9 (lY R) nd:=⟨@decide _ (Classical.propDecidable _),@decide_eq_true_iff _ (Classical.propDecidable _)⟩
 obtain ⟨zp,hzp⟩:∃zp:Bool,zp=true↔(into=0\/into=1\/m9 (lY R) into):=⟨@decide _ (Classical.propDecidable _),@decide_eq_true_iff _ (Classical.propDecidable _)⟩
 have eH:=rZ U ao cap R nd zb cQ ((hE.later ah).Q1) ((D7.r aP).later ah) hR.toN dA h2 h3;unfold kV at eH;have k2:U.cell? (qA br 2)=some (.slice (ao 0) (R 0).length (cap 0)):=aO.c2;have k3:U.cell? (qA br 3)=some (.slice (ao 1) (R 1).length (cap 1)):=aO.c3;have k4:U.cell? (qA br 4)=some (.slice (ao 2) (R 2).length (cap 2)):=aO.c4;have k5:U.cell? (qA br 5)=some (.slice (ao 3) (R 3).length (cap 3)):=aO.c5
 have HT:Aside (D7 U ao R/\I3 R/\(∀i,i<4->(R i).length<=1000)/\w.cell? (qB bt)=some (.map (some bm))/\sE prog 3 w bm n f/\AV f):=⟨(D7.r aP).later ah,hR.toN,dA,ht,hmap,hG⟩
 have H0:Aside (n7 U br T (i:Int) (kvs ao cap R) bt bx bc/\m6 U S lQ/\qL w U/\S=w.heap.size/\F1 B ad U/\B<=w.heap.size/\(zb=true↔m9 (lY R) nd)/\(zp=true↔(into=0\/into=1\/m9 (lY R) into))):=⟨aO,Z0,ah,hS,hE.later ah,hE.size,cQ,hzp⟩
 have HU:Aside (U=w.alloc qZc):=hU;clear hU aO Z0 ah hE hc hS cQ hzp aP hR ht hmap hG dA;go_enter func208,ntmps208;go_upto_region 1 with fail;rw [<-HU.o,<-H0.o.2.2.2.1];go_wp2_with fail;refine eH.mono ?_;rintro e w1 ⟨rfl,hb1⟩;have Z1:=H0.o.2.1.later hb1
 have H1:Aside (m6 w1 S lQ/\qL w w1/\F1 B ad w1/\n7 w1 br T (i:Int) (kvs ao cap R) bt bx bc/\D7 w1 ao R):=⟨Z1,zi H0.o.2.2.1 hb1,H0.o.2.2.2.2.1.later hb1,H0.o.1.same (hb1.block _ H0.o.1.lt),HT.o.1.later hb1⟩
 cases zb with
 | false=>
  have jU:=Lib.hid (show ¬(m9 (lY R) nd/\(into=0\/into=1\/m9 (lY R) into)) from fun q=>by have:=H0.o.2.2.2.2.2.2.1.2 q.1;cases this);obtain ⟨z0,z1,z2,z3,z4,z5,z6,z7,zf⟩:=m6.ct H1.o.1;have eg:=H1.o.2.2.1.c5;have bu:=H1.o.2.2.1.low;have ab:=H0.o.2.2.2.1;have bI:=H0.o.2.2.2.2.2.1;have n1:5≠S:=zj;have n2:S≠5:=zj;clear bu ab bI;go_wp2_with fail;go_region
  all_goals
   go_wp2;(try simp only [Exit.inBlock,Exit.then]);refine bodyPost_ret (v:=.tuple #[mH lQ,eV ad 6]) ?_ rfl ⟨?_,.inl ⟨jU.o,rfl⟩⟩
   ·exact kd1
   exact kg4
 | true=>
  have HK1:Aside (m9 (lY R) nd):=H0.o.2.2.2.2.2.2.1.1 rfl;have aX:=tI w1 ao cap R into zp H0.o.2.2.2.2.2.2.2 H1.o.2.2.1.Q1 H1.o.2.2.2.2 HT.o.2.1 HT.o.2.2.1 h4 h5;unfold kV at aX;have k2:w1.cell? (qA br 2)=some (.slice (ao 0) (R 0).length (cap 0)):=H1.o.2.2.2.1.c2;have k3:w1.cell? (qA br 3)=some (.slice (ao 1) (R 1).length (cap 1)):=H1.o.2.2.2.1.c3;have k4:w1.cell? (qA br 4)=some (.slice (ao 2) (R 2).length (cap 2)):=H1.o.2.2.2.1.c4;have k5:w1.cell? (qA br 5)=some (.slice (ao 3) (R 3).length (cap 3)):=H1.o.2.2.2.1.c5;go_wp2_with fail;refine aX.mono ?_;rintro e w2 ⟨rfl,hb2⟩
  have H2:Aside (m6 w2 S lQ/\qL w w2/\F1 B ad w2/\n7 w2 br T (i:Int) (kvs ao cap R) bt bx bc):=⟨H1.o.1.later hb2,zi H1.o.2.1 hb2,H1.o.2.2.1.later hb2,H1.o.2.2.2.1.same (hb2.block _ H1.o.2.2.2.1.lt)⟩
  cases zp with
  | false=>
   have jU:=Lib.hid (show ¬(m9 (lY R) nd/\(into=0\/into=1\/m9 (lY R) into)) from fun q=>by have:=H0.o.2.2.2.2.2.2.2.2 q.2;cases this);obtain ⟨z0,z1,z2,z3,z4,z5,z6,z7,zf⟩:=m6.ct H2.o.1;have eg:=H2.o.2.2.1.c5;have bu:=H2.o.2.2.1.low;have ab:=H0.o.2.2.2.1;have bI:=H0.o.2.2.2.2.2.1;have n1:5≠S:=zj;have n2:S≠5:=zj;clear bu ab bI;go_wp2_with fail;go_region
   all_goals
    go_wp2;(try simp only [Exit.inBlock,Exit.then]);refine bodyPost_ret (v:=.tuple #[mH lQ,eV ad 6]) ?_ rfl ⟨?_,.inl ⟨jU.o,rfl⟩⟩
    ·exact kd1
    exact (mV (b:=S) H2.o.2.1 yw 0 qZl).drew
  | true=>
   have lg:Aside (m9 (lY R) nd/\(into=0\/into=1\/m9 (lY R) into)):=⟨HK1.o,H0.o.2.2.2.2.2.2.2.1 rfl⟩
   have hown:=AD w2 br T i ao cap bt bx bc R 109 nd into name ⟨#[]⟩ H2.o.2.2.2 H2.o.2.2.1 hi hT hm hn aG zo;unfold mH at hown;go_wp2_with fail;refine hown.mono ?_;rintro e w3 ⟨he,hb3⟩;obtain ⟨x,hx⟩:=za ((nR T i (R i).length 109 nd into name ⟨#[]⟩));rw [<-hx] at he
   have H3:Aside (m6 w3 S lQ/\qL w w3/\F1 B ad w3/\n7 w3 br T (i:Int) (kvs ao cap R) bt bx bc):=⟨H2.o.1.later hb3,zi H2.o.2.1 hb3,H2.o.2.2.1.later hb3,H2.o.2.2.2.same (hb3.block _ H2.o.2.2.2.lt)⟩
   have HXE:Aside (x=(nR T i (R i).length 109 nd into name ⟨#[]⟩)):=hx;clear hb3 hx;by_cases he0:pZ x=0
   ·rw [if_pos he0,he0] at he;subst he;obtain ⟨t,b,m,kd,nd',o,s,v⟩:=x;have HX:=Lib.hid he0;unfold mH eV;dsimp only;go_upto_region 4 with fail;obtain ⟨W,hW⟩:=za (w3.alloc (qOc t b m kd nd' o s v));obtain ⟨V,hV⟩:=za w3.heap.size;rw [<-hW,<-hV]
    have hbW:qL w3 W:=by rw [hW];exact zh w3 _
    have hN:m6 W V (t,b,m,kd,nd',o,s,v):=by rw [hW,hV];exact m6.GA w3 (t,b,m,kd,nd',o,s,v)
    have jQ:=zi H3.o.2.1 hbW
    have H4:Aside (m6 W S lQ/\qL w W/\F1 B ad W/\n7 W br T (i:Int) (kvs ao cap R) bt bx bc/\m6 W V (t,b,m,kd,nd',o,s,v)/\V=w3.heap.size/\S<V):=⟨H3.o.1.later hbW,jQ,H3.o.2.2.1.later hbW,H3.o.2.2.2.same (hbW.block _ H3.o.2.2.2.lt),hN,hV,by rw [hV];exact H3.o.1.lt⟩
    obtain ⟨z,hz⟩:∃z:Bool,z=true↔Ins f into nd:=⟨@decide _ (Classical.propDecidable _),@decide_eq_true_iff _ (Classical.propDecidable _)⟩
    have hins:=wX W bt bm n f into nd z hz (cell_later jQ HT.o.2.2.2.1) (HT.o.2.2.2.2.1.same (jQ.block _ HT.o.2.2.2.2.1.lt)) HT.o.2.2.2.2.2 (Eg zj zj);have HZ:Aside (z=true↔Ins f into nd):=hz;have k6:=H4.o.2.2.2.1.c6
    have jS:Aside (pZ (nR T i (R i).length 109 nd into name ⟨#[]⟩)=0):=by have:=HX.o;rw [HXE.o] at this;exact this
    clear hbW hN jQ hz hW hV;by_cases hq:into=nd
    ·have HCY:Aside (into=nd\/Ins f into nd):=.inl hq;subst hq;obtain ⟨z0,z1,z2,z3,z4,z5,z6,z7,zf⟩:=m6.ct H4.o.1;have eg:=H4.o.2.2.1.c9 hcy.o;have bu:=H4.o.2.2.1.low;have ab:=H0.o.2.2.2.1;have bI:=H0.o.2.2.2.2.2.1;have n1:9≠S:=zj;have n2:S≠9:=zj;clear bu ab bI;go_wp2_with fail;go_region
     all_goals
      go_wp2;(try simp only [Exit.inBlock,Exit.then]);refine bodyPost_ret (v:=.tuple #[mH lQ,eV ad 10]) ?_ rfl ⟨?_,.inr (.inr (.inl ⟨lg.o,jS.o,HCY.o,rfl⟩))⟩
      ·exact kd1
      exact (mV (b:=S) H4.o.2.1 yw 0 qZl).drew
    have HNQ:=Lib.hid hq;go_wp2_with fail;refine hins.mono ?_;rintro e w5 ⟨rfl,hb5⟩
    have H5:Aside (m6 w5 S lQ/\qL w w5/\F1 B ad w5/\m6 w5 V (t,b,m,kd,nd',o,s,v)):=⟨H4.o.1.later hb5,zi H4.o.2.1 hb5,H4.o.2.2.1.later hb5,H4.o.2.2.2.2.1.later hb5⟩
    cases z with
    | true=>
     have HCY:Aside (into=nd\/Ins f into nd):=.inr (HZ.o.1 rfl);obtain ⟨z0,z1,z2,z3,z4,z5,z6,z7,zf⟩:=m6.ct H5.o.1;have eg:=H5.o.2.2.1.c9 hcy.o;have bu:=H5.o.2.2.1.low;have ab:=H0.o.2.2.2.1;have bI:=H0.o.2.2.2.2.2.1;have n1:9≠S:=zj;have n2:S≠9:=zj;clear bu ab bI;go_wp2_with fail;go_region
     all_goals
      go_wp2;(try simp only [Exit.inBlock,Exit.then]);refine bodyPost_ret (v:=.tuple #[mH lQ,eV ad 10]) ?_ rfl ⟨?_,.inr (.inr (.inl ⟨lg.o,jS.o,HCY.o,rfl⟩))⟩
      ·exact kd1
      exact (mV (b:=S) H5.o.2.1 yw 0 qZl).drew
    | false=>
     have HNC:=Lib.hid (show ¬(into=nd\/Ins f into nd) from fun q=>q.elim HNQ.o (fun q=>by have:=HZ.o.2 q;cases this));obtain ⟨z0,z1,z2,z3,z4,z5,z6,z7,zf⟩:=m6.ct H5.o.1;obtain ⟨y0,y1,y2,y3,y4,y5,y6,y7,yf⟩:=m6.ct H5.o.2.2.2;go_wp2;(try simp only [Exit.inBlock,Exit.then]);refine bodyPost_ret (v:=.tuple #[.agg (qOa t b m kd nd' o s v),.nilIface]) ?_ rfl ⟨?_,.inr (.inr (.inr ⟨lg.o,jS.o,HNC.o,by rw [<-HXE.o];rfl⟩))⟩
     ·exact kc3
     exact mV (b:=S) H5.o.2.1 yw 0 (qOl t b m kd nd' o s v)
   rw [if_neg he0] at he;subst he;have jS:=Lib.hid (show pZ (nR T i (R i).length 109 nd into name ⟨#[]⟩)≠0 by rw [<-HXE.o];exact he0);obtain ⟨er,aB⟩:=za (pZ x - 1)
   have a8:eV ad (pZ x)= .iface 437 (.pointer (some (ad er))):=by rw [aB];unfold eV;rw [if_neg he0]
   have HEV:Aside (eV ad (pZ x)= .iface 437 (.pointer (some (ad er)))):=a8;rw [a8];obtain ⟨z0,z1,z2,z3,z4,z5,z6,z7,zf⟩:=m6.ct H3.o.1;have hlt:=H3.o.1.lt;have nS':w3.heap.size≠S:=zj;unfold mH lQ;dsimp only;go_wp2;(try simp only [Exit.inBlock,Exit.then]);refine bodyPost_ret (v:=.tuple #[mH lQ,.iface 437 (.pointer (some (ad er)))]) ?_ rfl ⟨?_,.inr (.inl ⟨lg.o,jS.o,by rw [<-HXE.o,HEV.o]⟩)⟩
   ·exact kf0
   have cG:=mV (b:=S) H3.o.2.1 yw 0 qZl;exact cG.alloc cG.size _
end
section
open RowKit Lib Go.Sort Maps
theorem UT{B}{ad}(w)(c)(br)(T)(i:Nat)(ao)(cap)(bt bx bc)(R)(nd)(name value)(hc:n7 w br T (i:Int) (kvs ao cap R) bt bx bc)(aP:E6 w c (kvs ao cap R) R)(hR:t7 R)(hE:F1 B ad w)(hi:i<4)(hT:0<=T)(hm:T<=1073741824)(hn:(lY R).length<=250)(aG:name.size<=1000000)(aN:value.size<=1000000)(h2: -9223372036854775808<=nd)(h3:nd<=9223372036854775807):
  qC 212 #[qP br,qI nd,.string name,.string value] w (CJ ad w (m9 (lY R) nd) (nR T i (R i).length 115 nd 0 name value)):=by
 have dA:∀i,i<4->(R i).length<=1000:=fun i hi=>yE
 obtain ⟨S,hS⟩:=za w.heap.size;obtain ⟨U,hU⟩:=za (w.alloc qZc);have ah:qL w U:=zX;have Z0:m6 U S lQ:=yF;have aO:=hc.same (ah.block _ hc.lt)
 obtain ⟨zb,cQ⟩:∃zb:Bool,zb=true↔(m9 (lY R) nd):=⟨@decide _ (Classical.propDecidable _),@decide_eq_true_iff _ (Classical.propDecidable _)⟩
 have aX:=rZ U ao cap R nd zb cQ ((hE.later ah).Q1) ((D7.r aP).later ah) hR.toN dA h2 h3;unfold kV at aX;have k2:U.cell? (qA br 2)=some (.slice (ao 0) (R 0).length (cap 0)):=aO.c2;have k3:U.cell? (qA br 3)=some (.slice (ao 1) (R 1).length (cap 1)):=aO.c3;have k4:U.cell? (qA br 4)=some (.slice (ao 2) (R 2).length (cap 2)):=aO.c4;have k5:U.cell? (qA br 5)=some (.slice (ao 3) (R 3).length (cap 3)):=aO.c5
 have H0:Aside (n7 U br T (i:Int) (kvs ao cap R) bt bx bc/\m6 U S lQ/\qL w U/\S=w.heap.size/\F1 B ad U/\B<=w.heap.size/\(zb=true↔(m9 (lY R) nd))):=⟨aO,Z0,ah,hS,hE.later ah,hE.size,cQ⟩
 have HU:Aside (U=w.alloc qZc):=hU;clear hU aO Z0 ah hE hc hS cQ aP hR;go_enter func212,ntmps212;go_upto_region 1 with fail;rw [<-HU.o,<-H0.o.2.2.2.1];go_wp2_with fail;refine aX.mono ?_;rintro e w1 ⟨rfl,hb1⟩;have Z1:=H0.o.2.1.later hb1
 have H1:Aside (m6 w1 S lQ/\qL w w1/\F1 B ad w1/\n7 w1 br T (i:Int) (kvs ao cap R) bt bx bc):=⟨Z1,zi H0.o.2.2.1 hb1,H0.o.2.2.2.2.1.later hb1,H0.o.1.same (hb1.block _ H0.o.1.lt)⟩
 cases zb with
 | false=>
  have hno:¬(m9 (lY R) nd):=fun q=>uD
  obtain ⟨z0,z1,z2,z3,z4,z5,z6,z7,zf⟩:=m6.ct H1.o.1;have eg:=H1.o.2.2.1.c5;have bu:=H1.o.2.2.1.low;have ab:=H0.o.2.2.2.1;have bI:=H0.o.2.2.2.2.2.1;have n2:S≠5:=zj;have jU:=Lib.hid hno;clear bu ab bI hno;go_wp2_with fail;go_region
  all_goals
   go_wp2;(try simp only [Exit.inBlock,Exit.then]);refine bodyPost_ret (v:=.tuple #[mH lQ,eV ad 6]) ?_ rfl (.inr ⟨jU.o,rfl,?_⟩)
   ·exact kd1
   exact kg4
 | true=>
  have lg:Aside (m9 (lY R) nd):=H0.o.2.2.2.2.2.2.1 rfl;have hown:=AD w1 br T i ao cap bt bx bc R 115 nd 0 name value H1.o.2.2.2 H1.o.2.2.1 hi hT hm hn aG aN;unfold mH at hown;go_wp2_with fail;refine hown.mono ?_;rintro e w2 ⟨he,hb2⟩;obtain ⟨y,hy⟩:=za ((if pZ (nR T i (R i).length 115 nd 0 name value)=0 then nR T i (R i).length 115 nd 0 name value else lQ));obtain ⟨er,aB⟩:=za (eV ad (pZ (nR T i (R i).length 115 nd 0 name value)));rw [<-hy,<-aB] at he;subst he
  have HY:Aside (y=(if pZ (nR T i (R i).length 115 nd 0 name value)=0 then nR T i (R i).length 115 nd 0 name value else lQ)/\er=eV ad (pZ (nR T i (R i).length 115 nd 0 name value))):=⟨hy,aB⟩
  clear hy aB;obtain ⟨t,b,n,kd,nd',o,s,v⟩:=y;unfold mH;dsimp only;have Z2:=H1.o.1.later hb2;obtain ⟨z0,z1,z2,z3,z4,z5,z6,z7,zf⟩:=m6.ct Z2;have B2:Aside (qL w w2):=zi H1.o.2.1 hb2;go_wp2;(try simp only [Exit.inBlock,Exit.then]);refine bodyPost_ret (v:=.tuple #[.agg (qOa t b n kd nd' o s v),er]) ?_ rfl (.inl ⟨lg.o,⟨by rw [<-HY.o.1,<-HY.o.2];rfl,?_⟩⟩)
  ·exact kc3
  exact mV (b:=S) B2.o yw 0 (qOl t b n kd nd' o s v)
theorem RM{B}{ad}(w)(c)(br)(T)(i:Nat)(ao)(cap)(bt bx bc)(R)(A)(nd n)(hc:n7 w br T (i:Int) (kvs ao cap R) bt bx bc)(cT:P0 w c bx A)(hperm:A.Perm (lY R))(hE:F1 B ad w)(hi:i<4)(hT:0<=T)(hm:T<=1073741824)(hn:(lY R).length<=250)(h2: -9223372036854775808<=nd)(h3:nd<=9223372036854775807)(kk: -9223372036854775808<=n)(hn2:n<=9223372036854775807):
  qC 211 #[qP br,qI nd,qI n] w fun e w'=>∃a:Int×Bool,((¬m9 A nd->a=(0,false))/\(m9 A nd->∃L,u9 A nd L/\a=atL n L))/\CJ ad w (a.2=true) (nR T i (R i).length 100 nd a.1 ⟨#[]⟩ ⟨#[]⟩) e w':=by
 have hAl:A.length<=250:=xZ;obtain ⟨S,hS⟩:=za w.heap.size;obtain ⟨U,hU⟩:=za (w.alloc qZc);have ah:qL w U:=zX;have Z0:m6 U S lQ:=yF;have aO:=hc.same (ah.block _ hc.lt);have htU:=cT.kept ⟨fun k hk _=>ah.block k hk,fun _ _=>rfl⟩ (fun _ _=>⟨fun k hk _=>ah.block k hk,fun _ _=>rfl⟩);have iq:=Dz U c br T (i:Int) (kvs ao cap R) bt bx bc A nd n aO htU zj zj zj ⟨kk,hn2⟩
 have H0:Aside (n7 U br T (i:Int) (kvs ao cap R) bt bx bc/\m6 U S lQ/\qL w U/\S=w.heap.size/\F1 B ad U/\B<=w.heap.size):=⟨aO,Z0,ah,hS,hE.later ah,hE.size⟩
 have HU:Aside (U=w.alloc qZc):=hU;clear hU aO Z0 ah hE hc hS cT htU;go_enter func211,ntmps211;go_upto_region 1 with fail;rw [<-HU.o,<-H0.o.2.2.2.1];go_wp2_with fail;refine iq.mono ?_;rintro e w1 ⟨⟨into,zb⟩,rfl,ha1,ha2,hb1⟩;dsimp only
 have HA:Aside ((¬m9 A nd->(into,zb)=((0:Int),false))/\(m9 A nd->∃L,u9 A nd L/\(into,zb)=atL n L)):=⟨ha1,ha2⟩
 have Z1:=H0.o.2.1.later hb1
 have H1:Aside (m6 w1 S lQ/\qL w w1/\F1 B ad w1/\n7 w1 br T (i:Int) (kvs ao cap R) bt bx bc):=⟨Z1,zi H0.o.2.2.1 hb1,H0.o.2.2.2.2.1.later hb1,H0.o.1.same (hb1.block _ H0.o.1.lt)⟩
 cases zb with
 | false=>
  have hno:¬(((into,false):Int×Bool).2=true):=zq;obtain ⟨z0,z1,z2,z3,z4,z5,z6,z7,zf⟩:=m6.ct H1.o.1;have eg:=H1.o.2.2.1.c5;have bu:=H1.o.2.2.1.low;have ab:=H0.o.2.2.2.1;have bI:=H0.o.2.2.2.2.2;have n2:S≠5:=zj;have jU:=Lib.hid hno;clear bu ab bI hno;go_wp2_with fail;go_region
  all_goals
   go_wp2;(try simp only [Exit.inBlock,Exit.then]);refine bodyPost_ret (v:=.tuple #[mH lQ,eV ad 6]) ?_ rfl ⟨(into,false),HA.o,.inr ⟨jU.o,rfl,?_⟩⟩
   ·exact kd1
   exact kg4
 | true=>
  have hown:=AD w1 br T i ao cap bt bx bc R 100 nd into ⟨#[]⟩ ⟨#[]⟩ H1.o.2.2.2 H1.o.2.2.1 hi hT hm hn zo zo;unfold mH at hown;go_wp2_with fail;refine hown.mono ?_;rintro e w2 ⟨he,hb2⟩;obtain ⟨y,hy⟩:=za ((if pZ (nR T i (R i).length 100 nd into ⟨#[]⟩ ⟨#[]⟩)=0 then nR T i (R i).length 100 nd into ⟨#[]⟩ ⟨#[]⟩ else lQ));obtain ⟨er,aB⟩:=za (eV ad (pZ (nR T i (R i).length 100 nd into ⟨#[]⟩ ⟨#[]⟩)));rw [<-hy,<-aB] at he;subst he
  have HY:Aside (y=(if pZ (nR T i (R i).length 100 nd into ⟨#[]⟩ ⟨#[]⟩)=0 then nR T i (R i).length 100 nd into ⟨#[]⟩ ⟨#[]⟩ else lQ)/\er=eV ad (pZ (nR T i (R i).length 100 nd into ⟨#[]⟩ ⟨#[]⟩))):=⟨hy,aB⟩
  clear hy aB;obtain ⟨t,b,m,kd,nd',o,s,v⟩:=y;unfold mH;dsimp only;have Z2:=H1.o.1.later hb2;obtain ⟨z0,z1,z2,z3,z4,z5,z6,z7,zf⟩:=m6.ct Z2;have B2:Aside (qL w w2):=zi H1.o.2.1 hb2;go_wp2;(try simp only [Exit.inBlock,Exit.then]);refine bodyPost_ret (v:=.tuple #[.agg (qOa t b m kd nd' o s v),er]) ?_ rfl ⟨(into,true),HA.o,.inl ⟨rfl,⟨by dsimp only;rw [<-HY.o.1,<-HY.o.2];rfl,?_⟩⟩⟩
  ·exact kc3
  exact ki0

end