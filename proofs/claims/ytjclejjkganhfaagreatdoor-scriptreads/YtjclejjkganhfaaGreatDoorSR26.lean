import Derived.Test.YtjclejjkganhfaaGreatDoorSR21
import Derived.Test.YtjclejjkganhfaaGreatDoorSR22
import Derived.Test.YtjclejjkganhfaaGreatDoorSR23
import Derived.Test.YtjclejjkganhfaaGreatDoorSR24
set_option linter.unusedSimpArgs false
set_option linter.unusedVariables false
set_option maxRecDepth 100000
set_option maxHeartbeats 64000000
namespace Go.Proofs.YtjclejjkganhfaaGreatDoor
open Go.Proofs.Tryz
section
open RowKit Lib Go.Sort
def QI(B:Nat)(ad:qF)(w:qW)(c:Nat->Nat)(br:Nat)(o9:Int)(R:Rws)(l:qX)(e:Ending)(w':qW):Prop:=∃a c',oW (lX R) l a/\L7 w c w' c'/\(match a with
 | .inl (i,cd)=>B9 B w' c' br o9 R/\∃v,e=qT #[qI 0,v]/\((i= -1/\v=eV ad cd/\cd≠0)\/(0<=i/\NC ad w' v i cd))
 | .inr fresh=>e=qT #[qN fresh.length,.nilIface]/\∃R',B9 B w' c' br o9 R'/\∀x,x∈lX R'↔x∈lX R++fresh)
theorem At(R){i}(hi:i<4):(R i).length<=(lX R).length:=by
 grind [lX]
theorem Gq{B}{ad}(w)(c)(br)(o9)(R)(la)(lc)(l)(h:B9 B w c br o9 R)(hE:E8 B ad w)(hin:F1 w la l)(hs:UA l)(hR1:(lX R).length<=250)(hl1:l.length<=1000)(jh:∀F,oX (lX R) 0 [] l= .inr F->(lX R).length+F.length<=250):
  qC 116 #[qP br,.slice la l.length lc] w (QI B ad w c br o9 R l):=by
 obtain ⟨T,kv,bt,bx,bc,A,hM0,hperm,hK,hb0,hb4⟩:=h.GP;obtain ⟨ao,cap,hM⟩:=hM0.aa0
 have dA:∀i,i<4->(R i).length<=250:=fun i hi=>yD
 have k2:w.cell? (qA br 2)=some (.slice (ao 0) (R 0).length (cap 0)):=hM.cell.c2;have k3:w.cell? (qA br 3)=some (.slice (ao 1) (R 1).length (cap 1)):=hM.cell.c3;have k4:w.cell? (qA br 4)=some (.slice (ao 2) (R 2).length (cap 2)):=hM.cell.c4;have k5:w.cell? (qA br 5)=some (.slice (ao 3) (R 3).length (cap 3)):=hM.cell.c5;have fT:=TZ w ao cap R la lc l hE.P7 hE.c6 (C8.r hM.GC) hK.num (fun i hi=>by have:=dA i hi;omega) hin hs zj;unfold kV at fT
 have H0:Aside (G9 w c br T o9 (kvs ao cap R) bt bx bc R A/\A.Perm (lX R)/\u9 R/\B9 B w c br o9 R/\E8 B ad w/\0<=o9/\o9<4):=⟨hM,hperm,hK,h,hE,hb0,hb4⟩
 have HF1:Aside (∀F,oX (lX R) 0 [] l= .inr F->(lX R).length+F.length<=250):=jh;clear hM hM0 hperm hK h hE hin hs jh;go_enter func116,ntmps116;go_wp2_with fail;refine fT.mono ?_;clear fT;rintro e w1 ⟨hso,hb1⟩
 cases kI:oX (lX R) 0 [] l with
 | inl ic=>
  obtain ⟨i,cd⟩:=ic;rw [kI] at hso;obtain ⟨v,rfl,blk,rfl,hblk⟩:=hso
  have HF:Aside (oX (lX R) 0 [] l= .inl (i,cd)/\qL w w1/\w1.heap[blk]? =some (.cells #[qN i,eV ad cd] 71 (0,0))):=⟨kI,hb1,hblk⟩
  clear kI hb1 hblk;go_wp2;go_ret2;refine ⟨.inl ((i:Int),cd),c,?_,L7.y c HF.o.2.1,H0.o.2.2.2.1.later HF.o.2.1,_,rfl,.inr ⟨Int.natCast_nonneg _,blk,rfl,HF.o.2.2⟩⟩;unfold oW;rw [HF.o.1]
 | inr fresh=>
  rw [kI] at hso;obtain ⟨v,rfl,hrow⟩:=hso;obtain ⟨fa,fc,rfl⟩:=mC hrow;obtain ⟨g1,g2,g3,g4,g5⟩:=oT (pW _) kI;have hn:=HF1.o fresh kI
  have jg:fresh.length<=l.length:=by simpa using g5
  have dY:F1 w1 fa fresh:=by
   rcases Cg hrow with ⟨_,q⟩ | ⟨b,o,cp,q1,q2⟩
   ·exact .inl q
   exact kj5
  have cg:=H0.o.1.later hb1
  have H1:Aside (oX (lX R) 0 [] l= .inr fresh/\qL w w1/\M2 (lX R) fresh/\w1.ownsRow w.heap.size 88 8 (.slice fa fresh.length fc) fresh.length (cellsOf fresh)/\G9 w1 c br T o9 (kvs ao cap R) bt bx bc R A/\E8 B ad w1):=⟨kI,hb1,g1,hrow,cg,H0.o.2.2.2.2.1.later hb1⟩
  have g6:=VY w1 c ao cap R fa fc fresh H1.o.2.2.2.2.2 H0.o.2.2.2.1.low cg.GC dY g1.ok (fun k hk=>H0.o.2.2.2.1.high k (uO hb1.size hk)) zj (fun i hi=>by have:=dA i hi;omega);have k2':w1.cell? (qA br 2)=some (.slice (ao 0) (R 0).length (cap 0)):=cg.cell.c2;have k3':w1.cell? (qA br 3)=some (.slice (ao 1) (R 1).length (cap 1)):=cg.cell.c3;have k4':w1.cell? (qA br 4)=some (.slice (ao 2) (R 2).length (cap 2)):=cg.cell.c4;have k5':w1.cell? (qA br 5)=some (.slice (ao 3) (R 3).length (cap 3)):=cg.cell.c5;unfold kV at g6;clear kI hrow g1 g2 g3 g4 g5 dY cg k2 k3 k4 k5 hb1;go_wp2_with fail;refine g6.mono ?_;clear g6 k2' k3' k4' k5';rintro e w2 ⟨F,hFp,hFs,c2,hk2,hhue2,hold2,cn⟩;have jd:=Gf F R true H0.o.2.2.1.num (H1.o.2.2.1.G4 hFp) hFs (by simp [H0.o.2.2.1.adb])
  have kN:∀x,x∈lX R++F↔x∈lX R++fresh:=fun x=>by simp only [uV,hFp.mem_iff]
  have ew:G9 w2 c2 br T o9 (kvs ao cap R) bt bx bc R A:=by
   have hm:=H1.o.2.2.2.2.1
   have kp:∀j,j≠0->¬(10<=j/\j<14)->EK c j w1 c2 w2:=fun j _ hj=>⟨fun k hk e=>hk2.block k hk (fun q=>hj (by rw [<-e];exact q)),hhue2⟩
   exact ⟨hm.cell.same ((kp 1 zj zj).block _ hm.cell.lt hm.y9),(hhue2 _ hm.cell.lt).trans hm.y9,hold2,hm.Y7.kept (kp 2 zj zj),hm.P8.kept (kp 3 zj zj) (fun nd _=>kp _ yk yk),hm.N8.kept (kp 4 zj zj),hm.time⟩
  have H2:Aside (G9 w2 c2 br T o9 (kvs ao cap R) bt bx bc R A/\m7 (fun k=>c k≠0) w w2/\(∀k,k<w.heap.size->c2 k=c k)/\E8 B ad w2/\(∀x,x∈lX R++F↔x∈lX R++fresh)/\F.Perm fresh/\F1 w2 fa fresh/\(∀a,fa=some a->w.heap.size<=a.block\/fresh= [])):=by
   have cB:=H1.o.2.2.2.1
   have hfa:∀g,(Value.slice fa fresh.length fc).ownBlock=some g->c g=0:=fun g hg=>H0.o.2.2.2.1.high g (cB.lt g hg).1
   have hkw:m7 (fun k=>c k≠0) w w2:=((lW H1.o.2.1).mono (fun k hk e=>absurd hk zj)).then hk2 (fun k _ e=>zj)
   refine ⟨ew,hkw,fun k hk=>hhue2 k (uT hk H1.o.2.1.size),H0.o.2.2.2.2.1.mono (hkw.m8 H0.o.2.2.2.2.1.size (fun k e=>H0.o.2.2.2.1.low k e)),kN,hFp,?_,?_⟩
   ·rcases Cg (nh cB (fun g hg=>hk2.block g (cB.lt g hg).2 (fun q=>by have:=hfa g hg;omega))) with ⟨_,q⟩ | ⟨b,o,cp,q1,q2⟩
    ·exact .inl q
    exact kj5
   intro a ha
   rcases cB.2 with ⟨_,q⟩ | ⟨g,cp,cur,q1,q2,_⟩
   ·exact .inr (Zg.1 q)
   have:=(Value.slice.inj q1).1;rw [ha] at this
   cases this
   exact .inl q2
  have KC:Aside (∀w3,qL w2 w3->∃c',L7 w c w3 c'/\B9 B w3 c' br o9 R):=fun w3 hb3=>QQ (H2.o.1.later hb3) H0.o.2.1 H0.o.2.2.1 H0.o.2.2.2.2.2 (H2.o.2.1.then (lW hb3) (fun k hk e=>by have:=H2.o.2.1.size;omega)) H2.o.2.2.1 H0.o.2.2.2.1.low H0.o.2.2.2.2.1.size
  clear hk2 hhue2 hold2 ew kN
  rcases jd with ⟨kL,hgap⟩ | ⟨R',z',hsome,hngap,hN',hmem',hz',hlen',hext'⟩
  ·rw [kL] at cn;subst cn;have HG:Aside (Gap (lX R++fresh)):=hgap.congr H2.o.2.2.2.2.1;have ev:eV ad 9= .iface 437 (.pointer (some (ad 8))):=rfl;rw [ev];clear kL hgap ev;go_wp2;go_ret2;obtain ⟨c',a1,a2⟩:=KC.o _ (zh w2 _);refine ⟨.inl (-1,9),c',?_,a1,a2,_,rfl,.inl ⟨rfl,rfl,zo⟩⟩;unfold oW;rw [H1.o.1];exact .inl ⟨HG.o,rfl⟩
  cases z' with
  | false=>
   rw [hsome] at cn;have cn:e= .returned (.tuple #[.agg #[qE,qE,qE,qE],eV ad 3]):=cn;subst cn
   have HG:Aside (¬Gap (lX R++fresh)/\U4 (lX R++fresh)):=⟨fun q=>hngap (q.congr (fun x=>(H2.o.2.2.2.2.1 x).symm)),by
    refine Classical.byContradiction (fun q=> ?_)
    have:=hz'.2 (fun k=>q (k.congr H2.o.2.2.2.2.1))
    cases this⟩
   have ev:eV ad 3= .iface 437 (.pointer (some (ad 2))):=rfl;rw [ev];clear hsome hngap ev hN' hmem' hz' hlen' hext';go_wp2;go_ret2;obtain ⟨c',a1,a2⟩:=KC.o _ (zh w2 _);refine ⟨.inl (-1,3),c',?_,a1,a2,_,rfl,.inl ⟨rfl,rfl,zo⟩⟩;unfold oW;rw [H1.o.1];exact .inr (.inl ⟨HG.o.1,HG.o.2,rfl⟩)
  | true=>
   rw [hsome] at cn;obtain ⟨ao',cap',rfl,hnew⟩:=cn
   have hNF:¬U4 (lX R++fresh):=fun q=>(hz'.1 rfl) (q.congr (fun x=>(H2.o.2.2.2.2.1 x).symm))
   have hNG:¬Gap (lX R++fresh):=fun q=>hngap (q.congr (fun x=>(H2.o.2.2.2.2.1 x).symm))
   have hmem:∀x,x∈lX R'↔x∈lX R++fresh:=fun x=>(hmem' x).trans (H2.o.2.2.2.2.1 x)
   have jm:I3 R':=⟨hN',fun x hx y hy e1 e2=>Classical.byContradiction (fun q=>hNF ⟨x,(hmem x).1 hx,y,(hmem y).1 hy,e1,e2,q⟩)⟩
   have fw:(lX R').length<=250:=by have:=H2.o.2.2.2.2.2.1.length_eq;omega
   have hrl':∀i,i<4->(R' i).length<=1000:=fun i hi=>by have:=At R' hi;omega
   have jC:∀x∈F,mv x=0:=fun x hx=>H1.o.2.2.1.ok x (H2.o.2.2.2.2.2.1.mem_iff.1 hx)
   have dE:=(Bv F R true R' true jC hsome).trans (H2.o.2.2.2.2.2.1.append_left _);obtain ⟨U,hU⟩:=za (w2.alloc (.cells #[.slice (ao' 0) (R' 0).length (cap' 0),.slice (ao' 1) (R' 1).length (cap' 1),.slice (ao' 2) (R' 2).length (cap' 2),.slice (ao' 3) (R' 3).length (cap' 3)] 138))
   have ah:qL w2 U:=by rw [hU];exact zh w2 _
   obtain ⟨Q,hQ⟩:=za w2.heap.size
   have hkb:I4 U Q ao' cap' R':=by rw [hU,hQ];exact I4.F5 w2 ao' cap' R'
   have hnU:=hnew.kept (fun i _=>⟨fun k hk _=>ah.block k hk,fun _ _=>rfl⟩)
   obtain ⟨zb,cY⟩:∃zb:Bool,zb=true↔∀x∈fresh,L8 (lX R') x:=⟨@decide _ (Classical.propDecidable _),@decide_eq_true_iff _ (Classical.propDecidable _)⟩
   have fG:=Fj U ao' cap' R' fa fc fresh (H2.o.2.2.2.2.2.2.1.later ah) (fun x hx=>(hmem x).2 (ZB _ hx)) zb cY ((H2.o.2.2.2.1.later ah).P7) (C8.r hnU) jm hrl' zj
   have H3:Aside (G9 U c2 br T o9 (kvs ao cap R) bt bx bc R A/\E4 U c2 (kvs ao' cap' R') R'/\I3 R'/\(∀x,x∈lX R'↔x∈lX R++fresh)/\(lX R').Perm (lX R++fresh)/\¬Gap (lX R++fresh)/\¬U4 (lX R++fresh)/\(zb=true↔∀x∈fresh,L8 (lX R') x)/\qL w2 U/\I4 U Q ao' cap' R'/\Q=w2.heap.size):=⟨H2.o.1.later ah,hnU,jm,hmem,dE,hNG,hNF,cY,ah,hkb,hQ⟩
   have HU:Aside (U=w2.alloc (.cells #[.slice (ao' 0) (R' 0).length (cap' 0),.slice (ao' 1) (R' 1).length (cap' 1),.slice (ao' 2) (R' 2).length (cap' 2),.slice (ao' 3) (R' 3).length (cap' 3)] 138)/\Q=w2.heap.size):=⟨hU,hQ⟩
   have k0:=hkb.at (i:=0) zj;have k1:=hkb.at (i:=1) zj;have k2:=hkb.at (i:=2) zj;have k3:=hkb.at (i:=3) zj
   unfold kV at fG |-
   clear hnew hNF hNG jm dE jC hU hQ ah hkb hnU cY hsome hngap hN' hmem' hz' hlen' hext' hmem;go_upto_region 7 with fail;rw [<-HU.o.1,<-HU.o.2];go_wp2_with fail;refine fG.mono ?_;clear fG;rintro e w3 ⟨rfl,hb3⟩;have eT:=H3.o.1.later hb3;have fx:=H3.o.2.2.2.2.2.2.2.2.2.1.later hb3;have E3:=(H2.o.2.2.2.1.later H3.o.2.2.2.2.2.2.2.2.1).later hb3
   have H4:Aside (G9 w3 c2 br T o9 (kvs ao cap R) bt bx bc R A/\E4 w3 c2 (kvs ao' cap' R') R'/\qL w2 w3/\I4 w3 Q ao' cap' R'/\E8 B ad w3):=⟨eT,H3.o.2.1.kept (fun i _=>⟨fun k hk _=>hb3.block k hk,fun _ _=>rfl⟩),zi H3.o.2.2.2.2.2.2.2.2.1 hb3,fx,E3⟩
   clear k0 k1 k2 k3
   cases zb with
   | false=>
    have eg:=E3.c5
    have HN:Aside (∃x∈lX R++fresh,¬L8 (lX R++fresh) x):=by
     refine Classical.byContradiction (fun q=> ?_);have:=H3.o.2.2.2.2.2.2.2.1.2 (fun x hx=>Classical.byContradiction (fun k=>q ⟨x,ZB _ hx,fun k'=>k (k'.mono (fun y hy=>(H3.o.2.2.2.1 y).2 hy))⟩))
     cases this
    clear eT fx E3 hb3;go_wp2_with fail;go_quiet (fail);go_wp2;go_ret2;obtain ⟨c',a1,a2⟩:=KC.o _ (Go.below_drewN H4.o.2.2.1 _);refine ⟨.inl (-1,6),c',?_,a1,a2,_,rfl,.inl ⟨rfl,rfl,zo⟩⟩;unfold oW;rw [H1.o.1];exact .inr (.inr (.inl ⟨H3.o.2.2.2.2.2.1,H3.o.2.2.2.2.2.2.1,HN.o,rfl⟩))
   | true=>
    have hall:=H3.o.2.2.2.2.2.2.2.1.1 rfl;have jm:=H3.o.2.2.1;have hmem:=H3.o.2.2.2.1
    have hW:D5 (lX R'):=⟨jm.num.ok,jm.num.one,jm.num.gap,jm.up,fun x hx=>by
     rcases uV.1 ((hmem x).1 hx) with q | q
     ·exact (H0.o.2.2.1.G6.R9 x q).mono (fun y hy=>(hmem y).2 (Zm _ hy))
     ·exact hall x q⟩
    have HW:Aside (u9 R'):=⟨jm.num,hW⟩
    have dn:decide ((400:Int)<((lX R').length:Int))=false:=zm;have dn':decide (400<(lX R').length)=false:=zm;have aL:=Bh w3 ao' cap' R' hrl';unfold kV at aL;have k0:=fx.at (i:=0) zj;have k1:=fx.at (i:=1) zj;have k2:=fx.at (i:=2) zj;have k3:=fx.at (i:=3) zj;clear eT fx E3 hall jm hmem hW hb3;go_wp2_with fail;refine aL.mono ?_;clear aL k0 k1 k2 k3;rintro e w4 ⟨rfl,hb4'⟩;have hM4:=H4.o.1.later hb4';have iz:=H4.o.2.2.2.1.later hb4';have k0:=iz.at (i:=0) zj;have k1:=iz.at (i:=1) zj;have k2:=iz.at (i:=2) zj;have k3:=iz.at (i:=3) zj;have q2:=hM4.cell.c2;have q3:=hM4.cell.c3;have q4:=hM4.cell.c4;have q5:=hM4.cell.c5;have qf:=hM4.cell.fz;obtain ⟨w5,ju⟩:=za ((((w4.setCell (qA br 2) (.slice (ao' 0) (R' 0).length (cap' 0))).setCell (qA br 3) (.slice (ao' 1) (R' 1).length (cap' 1))).setCell (qA br 4) (.slice (ao' 2) (R' 2).length (cap' 2))).setCell (qA br 5) (.slice (ao' 3) (R' 3).length (cap' 3)))
    have cV:m7 (fun k=>k=br) w4 w5:=by rw [ju];exact lZ br [.slice (ao' 0) (R' 0).length (cap' 0),.slice (ao' 1) (R' 1).length (cap' 1),.slice (ao' 2) (R' 2).length (cap' 2),.slice (ao' 3) (R' 3).length (cap' 3)] 2 w4
    have hp5:F7 w5 c2 br T o9 (kvs ao' cap' R') bt bx bc R' A:=by
     have kp:∀i,i≠1->EK c2 i w4 c2 w5:=fun i hi=>⟨fun k hk e=>cV.block k hk (fun q=>by have q':=q;rw [q',hM4.y9] at e;omega),fun _ _=>rfl⟩
     have hr4:=H4.o.2.1.kept (fun i _=>⟨fun k hk _=>hb4'.block k hk,fun _ _=>rfl⟩);refine ⟨?_,hM4.y9,hr4.kept (fun i _=>kp _ zj),hM4.Y7.kept (kp 2 zj),hM4.P8.kept (kp 3 zj) (fun nd _=>kp _ yk),hM4.N8.kept (kp 4 zj)⟩;have hh:=mF br [.slice (ao' 0) (R' 0).length (cap' 0),.slice (ao' 1) (R' 1).length (cap' 1),.slice (ao' 2) (R' 2).length (cap' 2),.slice (ao' 3) (R' 3).length (cap' 3)] 2 w4 _ _ hM4.cell;unfold n7;rw [ju];refine Eq.trans hh ?_;simp [LG,kvs]
    have hkw5:=((H2.o.2.1.then (lW H4.o.2.2.1) (fun k hk e=>by have:=H2.o.2.1.size;omega)).then (lW hb4') (fun k hk e=>by have:=H2.o.2.1.size;have:=H4.o.2.2.1.size;omega)).then cV (fun k hk e=>by have e':=e;have:=H2.o.2.2.1 k hk;rw [e'] at this |-;rw [<-this,H2.o.1.y9];decide)
    have im:F1 w5 fa fresh:=by
     have ho:=(H2.o.2.2.2.2.2.2.1.later H4.o.2.2.1).later hb4'
     rcases ho with q | ⟨bb,oo,e1,e2⟩
     ·exact .inl q
     refine .inr ⟨bb,oo,e1,fun j u hj=> ?_⟩;have hcell:=e2 j u hj;have cN:=uN w4 (qA bb (oo+j)) hcell
     rw [uS (a:=(qA bb (oo+j))) (cV.block bb cN (fun q=>by
      have q':=q
      rcases H2.o.2.2.2.2.2.2.2 _ e1 with q2 | q2
      ·have:=H0.o.1.cell.lt;dsimp only at q2;omega
      ·rw [q2] at hj;simp [cellsOf] at hj))]
     exact hcell
    have H5:Aside (F7 w5 c2 br T o9 (kvs ao' cap' R') bt bx bc R' A/\m7 (fun k=>c k≠0) w w5/\F1 w5 fa fresh/\E8 B ad w5):=⟨hp5,hkw5,im,H0.o.2.2.2.2.1.mono (hkw5.m8 H0.o.2.2.2.2.1.size (fun k e=>H0.o.2.2.2.1.low k e))⟩
    have HW5:Aside (w5=(((w4.setCell (qA br 2) (.slice (ao' 0) (R' 0).length (cap' 0))).setCell (qA br 3) (.slice (ao' 1) (R' 1).length (cap' 1))).setCell (qA br 4) (.slice (ao' 2) (R' 2).length (cap' 2))).setCell (qA br 5) (.slice (ao' 3) (R' 3).length (cap' 3))):=ju
    have hsort:=Lt w5 (.slice fa fresh.length fc) fresh (by
     rcases H1.o.2.2.2.1.2 with ⟨e1,e2⟩ | ⟨g,cp,cur,e1,_⟩
     ·exact .inl ⟨e1,Zg.1 e2⟩
     ·rcases im with q | ⟨bb,oo,e4,e5⟩
      ·exact .inr ⟨g,0,fc,by rw [(Value.slice.inj e1).1],fun j u hj=>by rw [q] at hj;simp [cellsOf] at hj⟩
      ·exact .inr ⟨bb,oo,fc,by rw [e4],e5⟩) zj
    clear ju cV hp5 hkw5 im hM4 iz hb4';go_upto_region 12 with fail;rw [<-HW5.o];clear q2 q3 q4 q5 qf k0 k1 k2 k3;go_wp2_with fail;refine hsort.mono ?_;clear hsort;rintro e w6 ⟨v6,ys,rfl,hy6,hst,hb6,hnew6⟩
    obtain ⟨va,vc,rfl,hin6⟩:∃va vc,v6= .slice va ys.length vc/\F1 w6 va ys:=by
     rcases hy6 with ⟨rfl,rfl⟩ | ⟨bb,oo,cp,rfl,e2⟩
     ·exact ⟨none,0,rfl,.inl rfl⟩
     exact ⟨_,_,rfl,.inr ⟨bb,oo,rfl,e2⟩⟩
    obtain ⟨kF,hys⟩:=rY hst;have hmem:=H3.o.2.2.2.1
    have hmy:∀x∈ys,x∈lX R':=fun x hx=>(hmem x).2 (ZB _ (kF.mem_iff.1 hx))
    have hyc:=Us hys (FC H3.o.2.2.1 hmy (H1.o.2.2.1.G4 kF).one);have hylen:=kF.length_eq;obtain ⟨c6,jU⟩:=za (GL w w5 c c2);have hsz56:=hb6.size;have hszw:=H5.o.2.1.size
    have H6:Aside (F7 w6 c6 br T o9 (kvs ao' cap' R') bt bx bc R' A/\L7 w c w6 c6/\(∀k,c6 k≠0->B<=k)/\(∀k,w6.heap.size<=k->c6 k=0)/\F1 w6 va ys/\(∀a,va=some a->c6 a.block=0)/\(∀k o,ys[k]? =some o->G7 (lX R++ys.take k) o)/\ys.Perm fresh/\oE A T):=by
     have hz5:∀k,w5.heap.size<=k->c6 k=0:=fun k hk=>by
      rw [jU];unfold GL;rw [if_neg zj,if_neg zj]
     refine ⟨(H5.o.1.kept (fun i _=>⟨fun _ _ _=>rfl,fun k hk=>by rw [jU];exact Ji H2.o.2.2.1 hk⟩)).later hb6,⟨H5.o.2.1.then (lW hb6) (fun k hk e=>zj),fun k hk=>by rw [jU];exact if_pos hk⟩,fun k q=> ?_,fun k hk=>hz5 k zj,hin6,fun a ha=> ?_,fun k o hko=> ?_,kF,H0.o.1.time⟩
     ·rw [jU] at q;unfold GL at q;by_cases e:k<w.heap.size
      ·rw [if_pos e] at q;exact H0.o.2.2.2.1.low k q
      have:=H0.o.2.2.2.2.1.size;omega
     ·rw [ha] at hnew6;exact hz5 _ (hnew6 a.block rfl)
     refine Ho HW.o.G6 (fun x=> ?_) H0.o.2.2.1.G6.R9 hyc (fun x hx cQ=> ?_) hko
     ·rw [hmem x,uV];exact ⟨fun q=>q.imp id (fun q=>kF.mem_iff.2 q),fun q=>q.imp id (fun q=>kF.mem_iff.1 q)⟩
     exact H1.o.2.2.1.off x (kF.mem_iff.1 hx) x cQ ⟨rfl,rfl⟩
    have hAl:A.length+ys.length<=250:=by have:=H0.o.2.1.length_eq;omega
    clear hy6 hst hb6 hnew6 hin6 kF hys hmem hmy hyc jU hsz56 hszw;go_wp2;go_loopg [51] ys.length (fun kx s51 wr=>∃(k:Nat) (TT:Int) (cc:Nat->Nat),s51=qN k/\k<=ys.length/\ys.length - k<=kx/\Aside (F7 wr cc br TT o9 (kvs ao' cap' R') bt bx bc R' ((ys.take k).reverse++A)/\oE ((ys.take k).reverse++A) TT/\L7 w c wr cc/\(∀k,cc k≠0->B<=k)/\(∀k,wr.heap.size<=k->cc k=0)/\F1 wr va ys/\(∀a,va=some a->cc a.block=0)))
    case atStart=>exact ⟨0,T,c6,rfl,uW _,uL _,by simpa using H6.o.1,by simpa using H6.o.2.2.2.2.2.2.2.2,H6.o.2.1,H6.o.2.2.1,H6.o.2.2.2.1,H6.o.2.2.2.2.1,H6.o.2.2.2.2.2.1⟩
    case round=>
     obtain ⟨k,TT,cc,rfl,hkl,aY,L⟩:=hrel;by_cases hlt:k<ys.length
     ·have d1:qlt k ys.length=true:=by simp;omega
      have wk:((k:Int)).toNat=k:=zj;have pk:(0:Int)<=(k:Int):=zj
      obtain ⟨⟨t,b,n,kd,nd,o,s,v⟩,hx⟩:∃x,Aside (ys[k]? =some x):=⟨ys[k],uJ hlt⟩
      have ig:=H6.o.2.2.2.2.2.2.1 k _ hx.o;have hpA:(lX R++ys.take k).Perm ((ys.take k).reverse++A):=(Yp).trans (((List.reverse_perm _).symm.append_right _).trans (H0.o.2.1.symm.append_left _));have ay:=ig.G4 hpA;obtain ⟨blk,off,aG,hc⟩:=L.o.2.2.2.2.2.1.e hx.o;subst aG;have r0:=hc 0 _ rfl;have r1:=hc 1 _ rfl;have r2:=hc 2 _ rfl;have r3:=hc 3 _ rfl;have r4:=hc 4 _ rfl;have r5:=hc 5 _ rfl;have r6:=hc 6 _ rfl;have r7:=hc 7 _ rfl;simp only [ZC] at r0;clear hc
      have ah:∀ob,qL wr (wr.alloc ob):=fun ob=>(uM _ wr).alloc zg ob
      have Ewr:=H0.o.2.2.2.2.1.mono (L.o.2.2.1.L0.m8 H0.o.2.2.2.2.1.size (fun k e=>H0.o.2.2.2.1.low k e));have aZ:=Nn (wr.alloc (qOc t b n kd nd o s v)) cc br TT o9 (kvs ao' cap' R') bt bx bc R' ((ys.take k).reverse++A) (t,b,n,kd,nd,o,s,v) (L.o.1.later (ah _)) ay (Ewr.later (ah _)) L.o.2.2.2.1 (fun q hq=>L.o.2.2.2.2.1 q (by simp at hq;omega)) zm;have fP:1<=t:=(wu ay.ok).1;unfold mJ at aZ;dsimp only at aZ
      have HTK:Aside ((ys.take (k+1)).reverse=(t,b,n,kd,nd,o,s,v)::(ys.take k).reverse):=by
       show (ys.take (k+1)).reverse=_
       rw [Zy,hx.o];simp
      clear ig ay hpA Ewr;go_wp2_with fail;refine aZ.mono ?_;clear aZ r0 r1 r2 r3 r4 r5 r6 r7;rintro e w7 ⟨⟨u,rfl⟩,c7,p1,p2,p3,p4⟩
      have LN:Aside (F7 w7 c7 br (if TT<t then t else TT) o9 (kvs ao' cap' R') bt bx bc R' ((ys.take (k+1)).reverse++A)/\oE ((ys.take (k+1)).reverse++A) (if TT<t then t else TT)/\L7 w c w7 c7/\(∀k,c7 k≠0->B<=k)/\(∀k,w7.heap.size<=k->c7 k=0)/\F1 w7 (some (qA blk off)) ys/\(∀a,some ((qA blk off):Addr)=some a->c7 a.block=0)):=by
       have hbk:blk<wr.heap.size:=by
        obtain ⟨b2,o2,e2,hc2⟩:=L.o.2.2.2.2.2.1.e hx.o
        cases e2
        exact uN wr (qA blk (off+k*8+0)) (hc2 0 _ rfl)
       have fj:cc blk=0:=L.o.2.2.2.2.2.2 _ rfl;refine ⟨by rw [HTK.o];exact p1,by rw [HTK.o];exact Lp L.o.2.1 _ fP,(L.o.2.2.1.trans (L7.y cc (ah _))).trans p2,p3,p4,?_,fun a ha=> ?_⟩
       ·rcases L.o.2.2.2.2.2.1.later (ah _) with q | ⟨bb,oo,e1,e2⟩
        ·exact .inl q
        cases e1
        refine .inr ⟨blk,off,rfl,fun j u hj=> ?_⟩;rw [uS (a:=(qA blk (off+j))) (p2.L0.block blk zm (fun q=>q fj))];exact e2 j u hj
       cases ha
       rw [p2.y9 blk zm];exact fj
      clear p1 p2 p3 p4;go_wp2;go_roundg (ys.length - (k+1))
      case measure=>omega
      case rel=>exact ⟨k+1,_,c7,zN,zj,uL _,LN.o⟩
     have d1:qlt k ys.length=false:=zm;obtain rfl:k=ys.length:=zj;go_wp2;go_ret2;refine ⟨.inr fresh,cc,?_,L.o.2.2.1,rfl,R',⟨⟨TT,_,bt,bx,bc,_,⟨L.o.1.cell,L.o.1.y9,L.o.1.GC,L.o.1.Y7,L.o.1.P8,L.o.1.N8,L.o.2.1⟩,?_,HW.o,H0.o.2.2.2.2.2⟩,L.o.2.2.2.1,L.o.2.2.2.2.1⟩,H3.o.2.2.2.1⟩
     ·unfold oW;rw [H1.o.1];refine .inr (.inr (.inr (.inr ⟨HW.o.G6.congr H3.o.2.2.2.1,zj,rfl⟩)))
     rw [Ym];refine ((List.reverse_perm ys).append_right A).trans (Yp.trans ?_);exact ((H0.o.2.1.append_right ys).trans (H6.o.2.2.2.2.2.2.2.1.append_left _)).trans H3.o.2.2.2.2.1.symm
theorem TS{B}{ad}(w)(c)(br)(o9)(R)(la)(lc)(l)(h:B9 B w c br o9 R)(hE:E8 B ad w)(hin:F1 w la l)(hs:UA l)(hn:(lX R).length+l.length<=250):
  qC 116 #[qP br,.slice la l.length lc] w (QI B ad w c br o9 R l):=
 Gq w c br o9 R la lc l h hE hin hs zj zj (fun F hF=>by have:=(oT (pW _) hF).2.2.2.2;simp at this;omega)
theorem Nu{w W w'}{pb}(h:qL w W)(hp:w.heap.size<=pb)(hb:But pb W w'):qL w w':=
 h.trans ⟨hb.os,hb.tape,hb.output,hb.size,fun k hk=>hb.block k (uT hk h.size) zj⟩
theorem SJ(w)(pb)(T o9)(h0:w.cell? (qB pb)=some (qI T))(h1:w.cell? (qA pb 1)=some (qI o9))(hT:0<=T)(hm:T<1073741824):
  qC 322 #[qP pb] w (qR (.tuple #[.agg #[qI (T+1),qI o9],.nilIface]) w):=by
 have hpl:pb<w.heap.size:=uN w (qB pb) h0;obtain ⟨S,hS⟩:=za w.heap.size;obtain ⟨U,hU⟩:=za ((w.alloc (.cells #[qI 0,qI 0] 86)).alloc (.cells #[qI T,qI o9] 128));have ah:qL w U:=zP
 have cA:U.heap[S+1]? =some (.cells #[qI T,qI o9] 128 (0,0)):=by
  rw [hU,hS];have:=heap_alloc_new (w.alloc (.cells #[qI 0,qI 0] 86)) (.cells #[qI T,qI o9] 128);exact kc7
 have bI:U.heap[S]? =some (.cells #[qI 0,qI 0] 86 (0,0)):=by
  exact kf1
 have iM:Clk (S+1) T o9 U:=⟨xC,xC,by simp [World.frozen?,cA]⟩
 have ac:=zaj (S+1) T o9 U iM hT hm
 have HB:Aside (qL w U/\S=w.heap.size/\U.heap[S]? =some (.cells #[qI 0,qI 0] 86 (0,0))):=⟨ah,hS,bI⟩
 have HU:Aside (U=(w.alloc (.cells #[qI 0,qI 0] 86)).alloc (.cells #[qI T,qI o9] 128)):=hU;clear hU ah cA bI iM;go_enter func322,ntmps322;go_wp2_with fail;rw [<-HU.o,<-HB.o.2.1];clear hS;refine ac.mono ?_;clear ac;rintro e w1 ⟨rfl,hbut,-⟩;have hS1:=(hbut.block S (uK.1 HB.o.2.2).1 zj).trans HB.o.2.2;have y0:w1.cell? (qB S)=some (qI 0):=xr;have y1:w1.cell? (qA S 1)=some (qI 0):=xr
 have yf:∀o,w1.frozen? (qA S o)=false:=fun o=>by simp [World.frozen?,hS1]
 have B1:Aside (qL w w1):=Nu HB.o.1 vh hbut;clear hbut hS1;go_wp2;(try simp only [Exit.inBlock,Exit.then]);refine bodyPost_ret (v:=.tuple #[.agg #[qI (T+1),qI o9],.nilIface]) ?_ rfl ⟨rfl,?_⟩
 ·exact kc1
 exact mZ (b:=S) B1.o vh 0 [qI (T+1),qI o9]
theorem Xv(x)(w)(h1:1<=x.1)(h2:x.1<=1073741824)(h3:0<=byO x)(h4:byO x<4):qC 82 #[mJ x] w (qR (qI (idO x)) w):=by
 obtain ⟨t,b,n,k,nd,o,s,v⟩:=x;unfold mJ idO;dsimp only at*;exact ke8
theorem n7.row{w}{br}{T o9}{kv}{bt bx bc}(h:n7 w br T o9 kv bt bx bc){i}(hi:i<4):w.cell? (qA br (2+i))=some (kv i):=by
 have h4:i=0\/i=1\/i=2\/i=3:=zj
 rcases h4 with rfl | rfl | rfl | rfl
 ·exact h.c2
 ·exact h.c3
 ·exact h.c4
 exact h.c5
def nQ(T:Int)(i m:Nat)(kd:Nat)(nd o:Int)(s v:qY):OpX:=(T+1,(i:Int),(m:Int)+1,kd,if nd=0 then (T+1)*4+(i:Int) else nd,o,s,v)
def Xz(ad:qF)(w:qW)(x:OpX)(e:Ending)(w':qW):Prop:=e=qT #[mJ (if mv x=0 then x else lQ),eV ad (mv x)]/\qL w w'
def od(x:OpX):Nat:=if 1073741824<x.1 then 8 else mv x
theorem XP{x}(h:x.1<=1073741824):od x=mv x:=if_neg zj
theorem TB{T}{i m kd}{nd o}{s v}(h:T<1073741824):od (nQ T i m kd nd o s v)=mv (nQ T i m kd nd o s v):=XP (by show T+1<=1073741824;omega)
def VP(ad:qF)(w:qW)(x:OpX)(e:Ending)(w':qW):Prop:=e=qT #[mJ (if od x=0 then x else lQ),eV ad (od x)]/\qL w w'
theorem aag{B}{ad}(w)(br)(T)(i:Nat)(ao)(cap)(bt bx bc)(R)(kd)(nd o)(s v)(hc:n7 w br T (i:Int) (kvs ao cap R) bt bx bc)(hE:E8 B ad w)(hi:i<4)(hT:0<=T)(hm:T<1073741824)(hn:(lX R).length<=250)(aI:s.size<=1000000)(aJ:v.size<=1000000):
  qC 261 #[qP br,mJ (0,0,0,kd,nd,o,s,v)] w (Xz ad w (nQ T i (R i).length kd nd o s v)):=by
 have dA:∀i,i<4->(R i).length<=1000:=fun i hi=>yD
 have hri:=dA i hi;obtain ⟨S,hS⟩:=za w.heap.size;obtain ⟨U,hU⟩:=za ((w.alloc (qOc 0 0 0 kd nd o s v)).alloc qZc);have ah:qL w U:=zP
 have O0:m6 U S (0,0,0,kd,nd,o,s,v):=by rw [hU,hS];exact (uR _ _ _ zr).trans (m6.F5 w (0,0,0,kd,nd,o,s,v))
 have O1:m6 U (S+1) lQ:=by
  rw [hU,hS];have:=m6.F5 (w.alloc (qOc 0 0 0 kd nd o s v)) lQ;exact kc7
 have aO:=hc.same (ah.block _ hc.lt)
 have hbr:br<S:=by rw [hS];exact hc.lt
 have aL:=Bh U ao cap R dA;unfold kV at aL;have k2:U.cell? (qA br 2)=some (.slice (ao 0) (R 0).length (cap 0)):=aO.c2;have k3:U.cell? (qA br 3)=some (.slice (ao 1) (R 1).length (cap 1)):=aO.c3;have k4:U.cell? (qA br 4)=some (.slice (ao 2) (R 2).length (cap 2)):=aO.c4;have k5:U.cell? (qA br 5)=some (.slice (ao 3) (R 3).length (cap 3)):=aO.c5;have dn:decide ((400:Int)<=((lX R).length:Int))=false:=zm;have dn':decide (400<=(lX R).length)=false:=zm
 have H0:Aside (n7 U br T (i:Int) (kvs ao cap R) bt bx bc/\m6 U S (0,0,0,kd,nd,o,s,v)/\m6 U (S+1) lQ/\qL w U/\S=w.heap.size/\E8 B ad U):=⟨aO,O0,O1,ah,hS,hE.later ah⟩
 have HU:Aside (U=(w.alloc (qOc 0 0 0 kd nd o s v)).alloc qZc):=hU;have hEw:=hE.size;clear hU aO O0 O1 ah hE hc hS;unfold mJ;go_enter func261,ntmps261;go_upto_region 1 with fail;rw [<-HU.o,<-H0.o.2.2.2.2.1];go_wp2_with fail;refine aL.mono ?_;clear aL k2 k3 k4 k5;rintro e w1 ⟨rfl,hb1⟩;have hc1:=H0.o.1.same (hb1.block _ H0.o.1.lt);have be:=SJ w1 br T (i:Int) hc1.c0 hc1.c1 hT hm;clear hc1;go_wp2_with fail;refine be.mono ?_;clear be;rintro e w2 ⟨rfl,hb2⟩;obtain ⟨Q,hQ⟩:=za w2.heap.size;obtain ⟨V,hV⟩:=za (w2.alloc (.cells #[qI (T+1),qN i] 86))
 have ai:qL w2 V:=by rw [hV];exact zh w2 _
 have gH:=hb1.trans ((hb2.mono hb1.size).trans (ai.mono (uO hb1.size hb2.size)))
 have hst:V.heap[Q]? =some (.cells #[qI (T+1),qN i] 86 (0,0)):=by rw [hV,hQ];exact heap_alloc_new w2 _
 have hSQ:S+1<Q:=by have:=H0.o.2.2.1.lt;have:=hb1.size;have:=hb2.size;omega
 have H1:Aside (n7 V br T (i:Int) (kvs ao cap R) bt bx bc/\m6 V S (0,0,0,kd,nd,o,s,v)/\m6 V (S+1) lQ/\qL U V/\E8 B ad V):=⟨H0.o.1.same (gH.block _ H0.o.1.lt),H0.o.2.1.later gH,H0.o.2.2.1.later gH,gH,H0.o.2.2.2.2.2.later gH⟩
 have HV:Aside (V=w2.alloc (.cells #[qI (T+1),qN i] 86)/\Q=w2.heap.size):=⟨hV,hQ⟩
 have s0:V.cell? (qB Q)=some (qI (T+1)):=by simp [World.cell?,hst]
 have s1:V.cell? (qA Q 1)=some (qN i):=by simp [World.cell?,hst]
 have kb:V.cell? (qA br (2+i))=some (.slice (ao i) (R i).length (cap i)):=H1.o.1.row hi;obtain ⟨y0,y1,y2,y3,y4,y5,y6,y7,f8⟩:=m6.ct H1.o.2.1;have wi:((i:Int)).toNat=i:=zj;have pi:(0:Int)<=(i:Int):=zj;have bi:(i:Int)<4:=zj;clear ai gH hst hb1 hb2 hV hQ;go_upto_region 6 with fail;rw [<-HV.o.1,<-HV.o.2];go_region;obtain ⟨w5,ju⟩:=za ((((V.setCell (qB S) (qI (T+1))).setCell (qA S 1) (qN i)).setCell (qA S 2) (qI (((R i).length:Int)+1))).drew)
 have cV:m7 (fun k=>k=S) V w5:=by rw [ju];exact (lZ S [qI (T+1),qN i,qI (((R i).length:Int)+1)] 0 V).drew
 have O5:m6 w5 S (T+1,(i:Int),((R i).length:Int)+1,kd,nd,o,s,v):=by
  have hh:=mF S [qI (T+1),qN i,qI (((R i).length:Int)+1)] 0 V _ _ H1.o.2.1;unfold m6;rw [ju];refine Eq.trans hh ?_;simp [LG]
 have Z5:m6 w5 (S+1) lQ:=(cV.block (S+1) H1.o.2.2.1.lt zj).trans H1.o.2.2.1;have B5:=(zi H0.o.2.2.2.1 H1.o.2.2.2.1).trans (cV.m8 (uO H0.o.2.2.2.1.size H1.o.2.2.2.1.size) (fun k e=>by have:=H0.o.2.2.2.2.1;omega))
 have OX:Aside (m6 w5 S (T+1,(i:Int),((R i).length:Int)+1,kd,nd,o,s,v)/\m6 w5 (S+1) lQ/\qL w w5):=⟨O5,Z5,B5⟩
 have EX:Aside (E8 B ad w5):=H1.o.2.2.2.2.mono (cV.m8 H1.o.2.2.2.2.size (fun k e=>by have:=H0.o.2.2.2.2.1;omega));rw [<-ju];clear ju cV O5 Z5 B5 s0 s1 kb y0 y1 y2 y3 y4 y5 y6 y7 f8;by_cases cq:nd=0
 ·have hid:=Xv (T+1,(i:Int),((R i).length:Int)+1,kd,nd,o,s,v) w5 zj zj zj zj;have eid:idO (T+1,(i:Int),((R i).length:Int)+1,kd,nd,o,s,v)=(T+1)*4+(i:Int):=rfl;rw [eid] at hid
  have hown:nQ T i (R i).length kd nd o s v=(T+1,(i:Int),((R i).length:Int)+1,kd,(T+1)*4+(i:Int),o,s,v):=by unfold nQ;rw [if_pos cq]
  have HOW:=Lib.hid hown;unfold mJ at hid;obtain ⟨y0,y1,y2,y3,y4,y5,y6,y7,f8⟩:=m6.ct OX.o.1
  have dnd:(nd==0)=true:=by simp [cq]
  clear cq hown eid;go_wp2_with fail;refine hid.mono ?_;clear hid y0 y1 y2 y3 y4 y5 y6 y7 f8;rintro e w5' ⟨rfl,hb5⟩;have O5:=OX.o.1.later hb5;have Z5:=OX.o.2.1.later hb5;obtain ⟨w6,gv⟩:=za (w5'.setCell (qA S 4) (qI ((T+1)*4+(i:Int))))
  have kX:m7 (fun k=>k=S) w5' w6:=by rw [gv];exact lZ S [qI ((T+1)*4+(i:Int))] 4 w5'
  have gT:=H0.o.2.2.2.2.1
  have O6:m6 w6 S (T+1,(i:Int),((R i).length:Int)+1,kd,(T+1)*4+(i:Int),o,s,v):=by
   have hh:=mF S [qI ((T+1)*4+(i:Int))] 4 w5' _ _ O5;unfold m6;rw [gv];refine Eq.trans hh ?_;simp [LG]
  have B5':=zi OX.o.2.2 hb5
  have kk:Aside (m6 w6 S (T+1,(i:Int),((R i).length:Int)+1,kd,(T+1)*4+(i:Int),o,s,v)/\m6 w6 (S+1) lQ/\qL w w6):=⟨O6,(kX.block (S+1) Z5.lt zj).trans Z5,B5'.trans (kX.m8 B5'.size (fun k e=>zj))⟩
  have EX6:Aside (E8 B ad w6):=(EX.o.later hb5).mono (kX.m8 (EX.o.later hb5).size (fun k e=>zj));obtain ⟨y0,y1,y2,y3,y4,y5,y6,y7,f8⟩:=m6.ct O5;have HW6:=Lib.hid gv;clear gv kX gT O6 B5' O5 Z5 hb5;go_upto_region 9 with fail;rw [<-HW6.o];have hown:=HOW.o;clear y0 y1 y2 y3 y4 y5 y6 y7 f8;have bE:=mr (T+1) (i:Int) (((R i).length:Int)+1) kd ((T+1)*4+(i:Int)) o s v w6 (EX6.o.P7) aI aJ;obtain ⟨y0,y1,y2,y3,y4,y5,y6,y7,f8⟩:=m6.ct kk.o.1;have hlz:=kk.o.2.1.lt
  cases au:opE (T+1) (i:Int) (((R i).length:Int)+1) kd ((T+1)*4+(i:Int)) o s.data.toList v.data.toList with
  | zero=>
   rw [au] at bE;have aR:eV ad 0= .nilIface:=rfl;rw [aR] at bE
   have HR:Aside (mv (nQ T i (R i).length kd nd o s v)=0/\nQ T i (R i).length kd nd o s v=(T+1,(i:Int),((R i).length:Int)+1,kd,(T+1)*4+(i:Int),o,s,v)):=⟨by rw [hown];exact au,hown⟩
   clear au aR hown;go_wp2_with fail;refine bE.mono ?_;clear bE y0 y1 y2 y3 y4 y5 y6 y7 f8;rintro e w7 ⟨rfl,hb7⟩;have O7:=kk.o.1.later hb7;have Z7:=kk.o.2.1.later hb7;have hz7:=Z7.lt;obtain ⟨y0,y1,y2,y3,y4,y5,y6,y7,f8⟩:=m6.ct O7;obtain ⟨z0,z1,z2,z3,z4,z5,z6,z7,zf⟩:=m6.ct Z7
   have B7:Aside (qL w w7/\S=w.heap.size):=⟨zi kk.o.2.2 hb7,H0.o.2.2.2.2.1⟩
   clear hb7 O7 Z7;go_wp2;(try simp only [Exit.inBlock,Exit.then]);refine bodyPost_ret (v:=.tuple #[.agg #[qI (T+1),qN i,qI (((R i).length:Int)+1),.int .u8 (kd:Int),qI ((T+1)*4+(i:Int)),qI o,.string s,.string v],.nilIface]) ?_ rfl ⟨by rw [HR.o.1,if_pos rfl,HR.o.2];rfl,?_⟩
   ·exact kc1
   exact mZ (b:=S+1) B7.o.1 xj 0 [qI (T+1),qN i,qI (((R i).length:Int)+1),.int .u8 (kd:Int),qI ((T+1)*4+(i:Int)),qI o,.string s,.string v]
  | succ cd=>
   rw [au] at bE;have aR:eV ad (cd+1)= .iface 437 (.pointer (some (ad cd))):=rfl;rw [aR] at bE
   have HR:Aside (mv (nQ T i (R i).length kd nd o s v)=cd+1):=by show mv _=_;rw [hown];exact au
   clear au aR hown;go_wp2_with fail;refine bE.mono ?_;clear bE y0 y1 y2 y3 y4 y5 y6 y7 f8;rintro e w7 ⟨rfl,hb7⟩;have Z7:=kk.o.2.1.later hb7;have hz7:=Z7.lt;obtain ⟨z0,z1,z2,z3,z4,z5,z6,z7,zf⟩:=m6.ct Z7
   have B7:Aside (qL w w7/\S=w.heap.size):=⟨zi kk.o.2.2 hb7,H0.o.2.2.2.2.1⟩
   clear hb7 Z7;go_wp2;(try simp only [Exit.inBlock,Exit.then]);refine bodyPost_ret (v:=.tuple #[mJ lQ,.iface 437 (.pointer (some (ad cd)))]) ?_ rfl ⟨by rw [HR.o,if_neg zj];rfl,?_⟩
   ·exact ke7
   exact mZ (b:=S+1) B7.o.1 xj 0 qZl
 have hown:nQ T i (R i).length kd nd o s v=(T+1,(i:Int),((R i).length:Int)+1,kd,nd,o,s,v):=by unfold nQ;rw [if_neg cq]
 have dnd:(nd==0)=false:=by simp [cq]
 have bE:=mr (T+1) (i:Int) (((R i).length:Int)+1) kd nd o s v w5 (EX.o.P7) aI aJ;obtain ⟨y0,y1,y2,y3,y4,y5,y6,y7,f8⟩:=m6.ct OX.o.1;have hlz:=OX.o.2.1.lt
 cases au:opE (T+1) (i:Int) (((R i).length:Int)+1) kd nd o s.data.toList v.data.toList with
 | zero=>
  rw [au] at bE;have aR:eV ad 0= .nilIface:=rfl;rw [aR] at bE
  have HR:Aside (mv (nQ T i (R i).length kd nd o s v)=0/\nQ T i (R i).length kd nd o s v=(T+1,(i:Int),((R i).length:Int)+1,kd,nd,o,s,v)):=⟨by rw [hown];exact au,hown⟩
  clear au aR hown;go_wp2_with fail;refine bE.mono ?_;clear bE y0 y1 y2 y3 y4 y5 y6 y7 f8;rintro e w7 ⟨rfl,hb7⟩;have O7:=OX.o.1.later hb7;have Z7:=OX.o.2.1.later hb7;have hz7:=Z7.lt;obtain ⟨y0,y1,y2,y3,y4,y5,y6,y7,f8⟩:=m6.ct O7;obtain ⟨z0,z1,z2,z3,z4,z5,z6,z7,zf⟩:=m6.ct Z7
  have B7:Aside (qL w w7/\S=w.heap.size):=⟨zi OX.o.2.2 hb7,H0.o.2.2.2.2.1⟩
  clear hb7 O7 Z7;go_wp2;(try simp only [Exit.inBlock,Exit.then]);refine bodyPost_ret (v:=.tuple #[.agg #[qI (T+1),qN i,qI (((R i).length:Int)+1),.int .u8 (kd:Int),qI (nd),qI o,.string s,.string v],.nilIface]) ?_ rfl ⟨by rw [HR.o.1,if_pos rfl,HR.o.2];rfl,?_⟩
  ·exact kc1
  exact mZ (b:=S+1) B7.o.1 xj 0 [qI (T+1),qN i,qI (((R i).length:Int)+1),.int .u8 (kd:Int),qI (nd),qI o,.string s,.string v]
 | succ cd=>
  rw [au] at bE;have aR:eV ad (cd+1)= .iface 437 (.pointer (some (ad cd))):=rfl;rw [aR] at bE
  have HR:Aside (mv (nQ T i (R i).length kd nd o s v)=cd+1):=by show mv _=_;rw [hown];exact au
  clear au aR hown;go_wp2_with fail;refine bE.mono ?_;clear bE y0 y1 y2 y3 y4 y5 y6 y7 f8;rintro e w7 ⟨rfl,hb7⟩;have Z7:=OX.o.2.1.later hb7;have hz7:=Z7.lt;obtain ⟨z0,z1,z2,z3,z4,z5,z6,z7,zf⟩:=m6.ct Z7
  have B7:Aside (qL w w7/\S=w.heap.size):=⟨zi OX.o.2.2 hb7,H0.o.2.2.2.2.1⟩
  clear hb7 Z7;go_wp2;(try simp only [Exit.inBlock,Exit.then]);refine bodyPost_ret (v:=.tuple #[mJ lQ,.iface 437 (.pointer (some (ad cd)))]) ?_ rfl ⟨by rw [HR.o,if_neg zj];rfl,?_⟩
  ·exact ke7
  exact mZ (b:=S+1) B7.o.1 xj 0 qZl
theorem Kr(w)(pb)(T o9)(eb)(hg:w.cell? (qB 7)=some eb)(h0:w.cell? (qB pb)=some (qI T))(h1:w.cell? (qA pb 1)=some (qI o9))(hm:1073741824<=T):
  qC 322 #[qP pb] w (qR (.tuple #[.agg #[qI 0,qI 0],eb]) w):=by
 have hpl:pb<w.heap.size:=uN w (qB pb) h0;have bY:7<w.heap.size:=uN w (qB 7) hg;obtain ⟨S,hS⟩:=za w.heap.size;obtain ⟨U,hU⟩:=za ((w.alloc (.cells #[qI 0,qI 0] 86)).alloc (.cells #[qI T,qI o9] 128));have ah:qL w U:=zP
 have cA:U.heap[S+1]? =some (.cells #[qI T,qI o9] 128 (0,0)):=by
  rw [hU,hS];have:=heap_alloc_new (w.alloc (.cells #[qI 0,qI 0] 86)) (.cells #[qI T,qI o9] 128);exact kc7
 have bI:U.heap[S]? =some (.cells #[qI 0,qI 0] 86 (0,0)):=by
  exact kf1
 have iM:Clk (S+1) T o9 U:=⟨xC,xC,by simp [World.frozen?,cA]⟩
 have ac:=Oq (S+1) T o9 U eb ((ah.cell (p:=(qB 7)) bY).trans hg) iM hm
 have HB:Aside (qL w U/\S=w.heap.size/\U.heap[S]? =some (.cells #[qI 0,qI 0] 86 (0,0))):=⟨ah,hS,bI⟩
 have HU:Aside (U=(w.alloc (.cells #[qI 0,qI 0] 86)).alloc (.cells #[qI T,qI o9] 128)):=hU;clear hU ah cA bI iM;go_enter func322,ntmps322;go_wp2_with fail;rw [<-HU.o,<-HB.o.2.1];clear hS;refine ac.mono ?_;clear ac;rintro e w1 ⟨rfl,hb1⟩;have hS1:=(hb1.block S (uK.1 HB.o.2.2).1).trans HB.o.2.2;have y0:w1.cell? (qB S)=some (qI 0):=xr;have y1:w1.cell? (qA S 1)=some (qI 0):=xr
 have yf:∀o,w1.frozen? (qA S o)=false:=fun o=>by simp [World.frozen?,hS1]
 have B1:Aside (qL w w1):=zi HB.o.1 hb1;clear hb1 hS1;go_wp2;(try simp only [Exit.inBlock,Exit.then]);refine bodyPost_ret (v:=.tuple #[.agg #[qI 0,qI 0],eb]) ?_ rfl ⟨rfl,?_⟩
 ·exact kc1
 exact mZ (b:=S) B1.o vh 0 [qI 0,qI 0]
theorem Up{B}{ad}(w)(br)(T)(i:Nat)(ao)(cap)(bt bx bc)(R)(kd)(nd o)(s v)(hc:n7 w br T (i:Int) (kvs ao cap R) bt bx bc)(hE:E8 B ad w)(hi:i<4)(hm:1073741824<=T)(hn:(lX R).length<=250):
  qC 261 #[qP br,mJ (0,0,0,kd,nd,o,s,v)] w (qR (.tuple #[mJ lQ,eV ad 8]) w):=by
 have dA:∀i,i<4->(R i).length<=1000:=fun i hi=>yD
 obtain ⟨S,hS⟩:=za w.heap.size;obtain ⟨U,hU⟩:=za ((w.alloc (qOc 0 0 0 kd nd o s v)).alloc qZc);have ah:qL w U:=zP
 have O1:m6 U (S+1) lQ:=by
  rw [hU,hS];have:=m6.F5 (w.alloc (qOc 0 0 0 kd nd o s v)) lQ;exact kc7
 have aO:=hc.same (ah.block _ hc.lt);have aL:=Bh U ao cap R dA;unfold kV at aL;have k2:U.cell? (qA br 2)=some (.slice (ao 0) (R 0).length (cap 0)):=aO.c2;have k3:U.cell? (qA br 3)=some (.slice (ao 1) (R 1).length (cap 1)):=aO.c3;have k4:U.cell? (qA br 4)=some (.slice (ao 2) (R 2).length (cap 2)):=aO.c4;have k5:U.cell? (qA br 5)=some (.slice (ao 3) (R 3).length (cap 3)):=aO.c5;have dn:decide ((400:Int)<=((lX R).length:Int))=false:=zm;have dn':decide (400<=(lX R).length)=false:=zm
 have H0:Aside (n7 U br T (i:Int) (kvs ao cap R) bt bx bc/\m6 U (S+1) lQ/\qL w U/\S=w.heap.size/\E8 B ad U):=⟨aO,O1,ah,hS,hE.later ah⟩
 have HU:Aside (U=(w.alloc (qOc 0 0 0 kd nd o s v)).alloc qZc):=hU;clear hU aO O1 ah hE hc hS;unfold mJ;go_enter func261,ntmps261;go_upto_region 1 with fail;rw [<-HU.o,<-H0.o.2.2.2.1];go_wp2_with fail;refine aL.mono ?_;clear aL k2 k3 k4 k5;rintro e w1 ⟨rfl,hb1⟩;have hc1:=H0.o.1.same (hb1.block _ H0.o.1.lt);have be:=Kr w1 br T (i:Int) _ (H0.o.2.2.2.2.later hb1).c7 hc1.c0 hc1.c1 hm;clear hc1;go_wp2_with fail;refine be.mono ?_;clear be;rintro e w2 ⟨rfl,hb2⟩;have hb12:=zi hb1 hb2;have Z7:=H0.o.2.1.later hb12
 have B7:Aside (qL w w2/\S=w.heap.size):=⟨zi H0.o.2.2.1 hb12,H0.o.2.2.2.1⟩
 clear hb1 hb2 hb12;obtain ⟨V,hV⟩:=ze (w2.alloc (.cells #[qI 0,qI 0] 86))
 have ai:qL w2 V:=by rw [hV.o];exact zh w2 _
 have ZV:=Z7.later ai;obtain ⟨z0,z1,z2,z3,z4,z5,z6,z7,zf⟩:=m6.ct ZV
 have BV:Aside (qL w V/\S=w.heap.size):=⟨zi B7.o.1 ai,B7.o.2⟩
 clear ai ZV Z7 B7;go_upto_region 5 with fail;rw [<-hV.o];go_wp2;(try simp only [Exit.inBlock,Exit.then]);refine bodyPost_ret (v:=.tuple #[mJ lQ,.iface 437 (.pointer (some (ad 7)))]) ?_ rfl ⟨rfl,?_⟩
 ·exact ke7
 exact mZ (b:=S+1) BV.o.1 (by have:=BV.o.2;omega) 0 qZl
theorem Az{B}{ad}(w)(br)(T)(i:Nat)(ao)(cap)(bt bx bc)(R)(kd)(nd o)(s v)(hc:n7 w br T (i:Int) (kvs ao cap R) bt bx bc)(hE:E8 B ad w)(hi:i<4)(hT:0<=T)(hm:T<=1073741824)(hn:(lX R).length<=250)(aI:s.size<=1000000)(aJ:v.size<=1000000):
  qC 261 #[qP br,mJ (0,0,0,kd,nd,o,s,v)] w (VP ad w (nQ T i (R i).length kd nd o s v)):=by
 by_cases bR:T<1073741824
 ·refine (aag w br T i ao cap bt bx bc R kd nd o s v hc hE hi hT bR hn aI aJ).mono ?_;rintro e w' ⟨he,hb⟩;exact ⟨by rw [TB bR];exact he,hb⟩
 refine (Up w br T i ao cap bt bx bc R kd nd o s v hc hE hi zj hn).mono ?_;rintro e w' ⟨he,hb⟩;have e8:od (nQ T i (R i).length kd nd o s v)=8:=if_pos (by show 1073741824<T+1;omega);exact ⟨by rw [e8];exact he,hb⟩
end
section
open RowKit Lib Go.Sort Maps
def Be(ad:qF)(w:qW)(ok:Prop)(x:OpX)(e:Ending)(w':qW):Prop:=(ok/\VP ad w x e w')\/(¬ok/\e=qT #[mJ lQ,eV ad 6]/\qL w w')
theorem UY{B}{ad}(w)(c)(br)(T)(i:Nat)(ao)(cap)(bt bx bc)(R)(into)(name)(hc:n7 w br T (i:Int) (kvs ao cap R) bt bx bc)(aP:E4 w c (kvs ao cap R) R)(hR:u9 R)(hE:E8 B ad w)(hi:i<4)(hT:0<=T)(hm:T<=1073741824)(hn:(lX R).length<=250)(aI:name.size<=1000000)(h2: -9223372036854775808<=into)(h3:into<=9223372036854775807):
  qC 207 #[qP br,qI into,.string name] w (Be ad w (into=0\/into=1\/m9 (lX R) into) (nQ T i (R i).length 109 0 into name ⟨#[]⟩)):=by
 have dA:∀i,i<4->(R i).length<=1000:=fun i hi=>yD
 obtain ⟨S,hS⟩:=za w.heap.size;obtain ⟨U,hU⟩:=za (w.alloc qZc);have ah:qL w U:=zX;have Z0:m6 U S lQ:=yE;have aO:=hc.same (ah.block _ hc.lt)
 obtain ⟨zb,cY⟩:∃zb:Bool,zb=true↔(into=0\/into=1\/m9 (lX R) into):=⟨@decide _ (Classical.propDecidable _),@decide_eq_true_iff _ (Classical.propDecidable _)⟩
 have aK:=tR U ao cap R into zb cY ((hE.later ah).P7) ((C8.r aP).later ah) hR.toN dA h2 h3;unfold kV at aK;have k2:U.cell? (qA br 2)=some (.slice (ao 0) (R 0).length (cap 0)):=aO.c2;have k3:U.cell? (qA br 3)=some (.slice (ao 1) (R 1).length (cap 1)):=aO.c3;have k4:U.cell? (qA br 4)=some (.slice (ao 2) (R 2).length (cap 2)):=aO.c4;have k5:U.cell? (qA br 5)=some (.slice (ao 3) (R 3).length (cap 3)):=aO.c5
 have H0:Aside (n7 U br T (i:Int) (kvs ao cap R) bt bx bc/\m6 U S lQ/\qL w U/\S=w.heap.size/\E8 B ad U/\B<=w.heap.size/\(zb=true↔(into=0\/into=1\/m9 (lX R) into))):=⟨aO,Z0,ah,hS,hE.later ah,hE.size,cY⟩
 have HU:Aside (U=w.alloc qZc):=hU;clear hU aO Z0 ah hE hc hS cY aP hR;go_enter func207,ntmps207;go_upto_region 1 with fail;rw [<-HU.o,<-H0.o.2.2.2.1];go_wp2_with fail;refine aK.mono ?_;clear aK k2 k3 k4 k5;rintro e w1 ⟨rfl,hb1⟩;have Z1:=H0.o.2.1.later hb1
 have H1:Aside (m6 w1 S lQ/\qL w w1/\E8 B ad w1/\n7 w1 br T (i:Int) (kvs ao cap R) bt bx bc):=⟨Z1,zi H0.o.2.2.1 hb1,H0.o.2.2.2.2.1.later hb1,H0.o.1.same (hb1.block _ H0.o.1.lt)⟩
 clear hb1 Z1
 cases zb with
 | false=>
  have hno:¬(into=0\/into=1\/m9 (lX R) into):=fun q=>uC
  obtain ⟨z0,z1,z2,z3,z4,z5,z6,z7,zf⟩:=m6.ct H1.o.1;have eg:=H1.o.2.2.1.c5;have bC:=H1.o.2.2.1.low;have ab:=H0.o.2.2.2.1;have bF:=H0.o.2.2.2.2.2.1;have n2:S≠5:=zj;have kt:=Lib.hid hno;clear bC ab bF hno;go_wp2_with fail;go_region
  all_goals
   go_wp2;(try simp only [Exit.inBlock,Exit.then]);refine bodyPost_ret (v:=.tuple #[mJ lQ,eV ad 6]) ?_ rfl (.inr ⟨kt.o,rfl,?_⟩)
   ·exact kd1
   exact kg1
 | true=>
  have lH:Aside (into=0\/into=1\/m9 (lX R) into):=H0.o.2.2.2.2.2.2.1 rfl;have hown:=Az w1 br T i ao cap bt bx bc R 109 0 into name ⟨#[]⟩ H1.o.2.2.2 H1.o.2.2.1 hi hT hm hn aI zo;unfold mJ at hown;go_wp2_with fail;refine hown.mono ?_;clear hown;rintro e w2 ⟨he,hb2⟩;obtain ⟨y,hy⟩:=za ((if od (nQ T i (R i).length 109 0 into name ⟨#[]⟩)=0 then nQ T i (R i).length 109 0 into name ⟨#[]⟩ else lQ));obtain ⟨er,aB⟩:=za (eV ad (od (nQ T i (R i).length 109 0 into name ⟨#[]⟩)));rw [<-hy,<-aB] at he;subst he
  have HY:Aside (y=(if od (nQ T i (R i).length 109 0 into name ⟨#[]⟩)=0 then nQ T i (R i).length 109 0 into name ⟨#[]⟩ else lQ)/\er=eV ad (od (nQ T i (R i).length 109 0 into name ⟨#[]⟩))):=⟨hy,aB⟩
  clear hy aB;obtain ⟨t,b,n,kd,nd,o,s,v⟩:=y;unfold mJ;dsimp only;have Z2:=H1.o.1.later hb2;obtain ⟨z0,z1,z2,z3,z4,z5,z6,z7,zf⟩:=m6.ct Z2;have B2:Aside (qL w w2):=zi H1.o.2.1 hb2;clear hb2 Z2;go_wp2;(try simp only [Exit.inBlock,Exit.then]);refine bodyPost_ret (v:=.tuple #[.agg (qOa t b n kd nd o s v),er]) ?_ rfl (.inl ⟨lH.o,⟨by rw [<-HY.o.1,<-HY.o.2];rfl,?_⟩⟩)
  ·exact kc1
  exact mZ (b:=S) B2.o yv 0 (qOl t b n kd nd o s v)
def zaZ(A:qX)(nd:Int)(s:qY):Prop:=(¬m9 A nd/\s=⟨#[]⟩)\/(m9 A nd/\∃L,u7 A nd L/\s.data.toList=rz L)
theorem TL(w)(c)(br)(T o9)(kv)(bt bx bc)(A)(nd)(hc:n7 w br T o9 kv bt bx bc)(ht:O8 w c bx A)(hlen:A.length<=1000)(h2: -2^63<=nd)(h3:nd<2^63):
  qC 132 #[qP br,qI nd] w fun e w'=>∃s,e= .returned (.string s)/\zaZ A nd s/\qL w w':=by
 obtain ⟨nx,tx,t1,t2,t3,t4,t5⟩:=ht;have k7:=hc.c7;have lk:=t2.F (EL h2 h3)
 cases hp:tx nd with
 | none=>
  rw [hp] at lk;unfold AG at lk;simp only [Option.map_none,Yy] at lk
  have HN:Aside (¬m9 A nd):=fun q=>vW
  go_enter func132,ntmps132;go_wp2;go_ret;exact ⟨_,rfl,.inl ⟨HN.o,rfl⟩,uM _ w⟩
 | some p=>
  rw [hp] at lk;unfold AG at lk;simp only [YA,Yz] at lk;obtain ⟨v,L,l1,l2,l3,l4⟩:=t5 nd p hp;have ac:=Uc w (p+1) p v L l1 (uO l2.D4 hlen)
  have HK:Aside (m9 A nd/\u7 A nd L):=⟨(t4 nd).1 ua,l2⟩
  go_enter func132,ntmps132;go_wp2_with fail;refine ac.mono ?_;rintro e w' ⟨rfl,hb⟩;have HB:Aside (qL w w'):=hb;go_wp2;go_ret;exact ⟨_,rfl,.inr ⟨HK.o.1,L,HK.o.2,zr⟩,HB.o⟩
theorem Dl(w)(c)(br)(T o9)(kv)(bt bx bc)(A)(nd n)(hc:n7 w br T o9 kv bt bx bc)(ht:O8 w c bx A)(hlen:A.length<=1000)(h2: -2^63<=nd)(h3:nd<2^63)(hn: -9223372036854775808<=n/\n<=9223372036854775807):
  qC 263 #[qP br,qI nd,qI n] w fun e w'=>∃a:Int×Bool,e=qT #[qI a.1,.bool a.2]/\(¬m9 A nd->a=(0,false))/\(m9 A nd->∃L,u7 A nd L/\a=atL n L)/\qL w w':=by
 obtain ⟨nx,tx,t1,t2,t3,t4,t5⟩:=ht;have k7:=hc.c7;have lk:=t2.F (EL h2 h3)
 cases hp:tx nd with
 | none=>
  rw [hp] at lk;unfold AG at lk;simp only [Option.map_none,Yy] at lk
  have HN:Aside (¬m9 A nd):=fun q=>vW
  go_enter func263,ntmps263;go_wp2;go_ret2;exact ⟨(0,false),rfl,fun _=>rfl,fun q=>absurd q HN.o,uM _ w⟩
 | some p=>
  rw [hp] at lk;unfold AG at lk;simp only [YA,Yz] at lk;obtain ⟨v,L,l1,l2,l3,l4⟩:=t5 nd p hp;have ac:=zaX w (p+1) p v L n l1 (uO l2.D4 hlen) hn
  have HK:Aside (m9 A nd/\u7 A nd L):=⟨(t4 nd).1 ua,l2⟩
  go_enter func263,ntmps263;go_wp2_with fail;refine ac.mono ?_;rintro e w' ⟨rfl,hb⟩;have HB:Aside (qL w w'):=hb;go_wp2;go_ret2;exact ⟨atL n L,rfl,fun q=>absurd HK.o.1 q,fun _=>⟨L,HK.o.2,rfl⟩,HB.o⟩
end
section
open RowKit Lib Go.Sort Maps
open scoped Classical
structure J7 (w:qW) (S:Nat) (W1:qW) (v0:Value) (ls:List qU) (v:Value) (wr:qW):Prop where
 st:P1 S ls v wr
 m8:Below S w wr
 L0:m7 (fun k=>k=S\/v0.ownBlock=some k) W1 wr
 I8:∀k,v.ownBlock=some k->v0.ownBlock=some k\/W1.heap.size<=k
theorem J7.start{w W}{S}{ls}{v}(h:P1 S ls v W)(hb:Below S w W):J7 w S W v ls v W:=⟨h,hb,m7.refl _ _,fun k hk=>.inl hk⟩
theorem J7.later{w W1 wr w'}{S}{ls}{v0 v}(h:J7 w S W1 v0 ls v wr)(hb:qL wr w'):J7 w S W1 v0 ls v w':=
 ⟨h.st.later hb,h.m8.trans (hb.mono (Ys h.st.lt)),h.L0.trans ((lW hb).mono (fun k hk e=>absurd hk zj)),h.I8⟩
theorem J7.acG{w W1 wr w'}{S}{ls}{v0 v}{E5}{e}(h:J7 w S W1 v0 ls v wr)(ht:Hy S E5 ls v wr e w'):∃v',e=qT #[]/\J7 w S W1 v0 (ls++ [E5]) v' w':=by
 obtain ⟨v',rfl,h1,h2,h3⟩:=ht;have hs:=h.L0.size;refine ⟨v',rfl,h1,?_,h.L0.then h2 (fun i hi q=>q.imp id (fun q=> ?_)),fun k hk=> ?_⟩
 ·refine h.m8.trans (h2.m8 (Ys h.st.lt) (fun k q=> ?_))
  rcases q with rfl | q
  ·exact uL _
  have:=(h.st.row.lt k q).1;omega
 ·rcases h.I8 i q with q | q
  ·exact q
  omega
 rcases h3 k hk with q | q
 ·exact h.I8 k q
 omega
theorem J7.kept{w W1 wr}{S}{ls}{v0 v}(h:J7 w S W1 v0 ls v wr){g}(hg:g<W1.heap.size)(h1:g≠S)(h2:v0.ownBlock≠some g):wr.heap[g]? =W1.heap[g]? :=h.L0.block g hg (fun e=>e.elim h1 h2)
theorem J7.ab3{α}{enc}{w W1 wr}{S}{ls}{v0 v}(h:J7 w S W1 v0 ls v wr){ao}{zs:List α}(hz:N9 enc W1 ao zs)(hk:∀g o,ao=some (qA g o)->g<W1.heap.size/\g≠S/\v0.ownBlock≠some g):N9 enc wr ao zs:=
 hz.kept (fun g o e=>h.kept (hk g o e).1 (hk g o e).2.1 (hk g o e).2.2)
theorem TD{α}{enc}{k}(hlen:∀x,(enc x).length=k)(hk:0<k){w}{ao}{zs:List α}(h:N9 enc w ao zs)(hz:zs≠ []){g o}(e:ao=some (qA g o)):g<w.heap.size:=by
 cases zs with
 | nil=>exact absurd rfl hz
 | cons x t=>
  obtain ⟨b,o',e',hc⟩:=h.e hlen (i:=0) (x:=x) rfl;rw [e] at e'
  cases e'
  cases hx:enc x with
  | nil=>grind
  | cons u r=>exact uN w (qA g _) (hc 0 u (by rw [hx];rfl))
theorem zch{w}{v}{qs}(h:L9 w v qs):∃ao cap,v= .slice ao qs.length cap/\N9 lL w ao qs/\∀g o,ao=some (qA g o)->v.ownBlock=some g/\g<w.heap.size:=by
 rcases h with ⟨rfl,rfl⟩ | ⟨g,cap,rfl,hl,hc⟩
 ·exact ⟨none,0,rfl,.inl rfl,fun g o e=>yN⟩
 exact ⟨some (qB g),cap,rfl,.inr ⟨g,0,rfl,fun j u hj=>zL⟩,fun g' o e=>by cases e;exact ⟨rfl,hl⟩⟩
theorem EP(n)(h0:0<=n)(h1:n<2^62):(Lib.itoa n).length<=100:=by
 grind [Lib.itoa_length_le]
theorem Is(M):∀ls:List qU,(∀l∈ls,l.length<=M)->(Lib.join ls [10]).length<=ls.length*(M+1)
 | [],_=>by simp [Lib.join_nil]
 | x::r,h=>by
  rw [Lib.join_length]
  have:∀r:List qU,(∀l∈r,l.length<=M)->Lib.lens r<=r.length*M:=fun r=>by
   induction r with
   | nil=>intro _;simp [Lib.lens]
   | cons y r ih=>
    intro h;have h1:=h y zr;have h2:=ih (fun l hl=>h l (by simp [hl]))
    simp only [Lib.lens,ZS,List.sum_cons,Za] at h2 |-
    rw [YC];omega
  grind
theorem Hv{A}{mm}(h:P9 (rm A) mm){m}(hm:m∈mm):0<=m.1/\m.1<2^40/\m.2.1.size<=12/\m.2.2.size<=12:=by
 obtain ⟨-,s,hs⟩:=(h.U5 m).1 hm;have hb:=AI (rR A) (Ao m);unfold rm at hs;rw [hs] at hb;have hmem:(Ao m,(m.2.2,s))∈rR A:=hb.1;obtain ⟨x,hx,e⟩:=Yo.1 hmem
 have hx0:mv x=0:=by
  unfold Kz at e;split at e
  ·rename_i q;exact q.1
  cases e
 have ek:=Ay e;have q:=mT hx0;have e1:m.1=x.2.2.2.2.1:=congrArg (fun z=>z.1.1) ek;have e2:m.2.1=x.2.2.2.2.2.2.1:=congrArg (fun z=>z.1.2) ek;have e3:m.2.2=x.2.2.2.2.2.2.2:=congrArg (fun z=>z.2.1) ek;have l1:x.2.2.2.2.2.2.1.data.toList.length=x.2.2.2.2.2.2.1.size:=zr;have l2:x.2.2.2.2.2.2.2.data.toList.length=x.2.2.2.2.2.2.2.size:=zr
 grind
theorem BJ{α β:Type}(f:α->β)(l:List α){k}{x}(h:l[k]? =some x):(l.take (k+1)).map f=(l.take k).map f++ [f x]:=by
 rw [Zy,h,ZL];rfl
theorem SP(A):∃tf:Int->qU,Aside (∀nd L,u7 A nd L->tf nd=rz L):=by
 refine ⟨fun nd=>if h:∃L,u7 A nd L then rz h.choose else [],fun nd L hL=> ?_⟩
 have h:∃L,u7 A nd L:=⟨L,hL⟩
 simp only [dif_pos h];rw [h.choose_spec.q hL]
def SL(k:Int):List Value:=[qI k]
theorem FF(k):(SL k).length=1:=rfl
theorem Gw:∀ks:List Int,mP SL ks=Db ks
 | []=>rfl
 | k::r=>by rw [rk,Gw r];rfl
theorem EM(nd)(ws)(h0:0<=nd)(h1:nd<2^62)(hj:(Lib.join ws [32]).length<=5000):(AQ nd ws).length<=10000:=by
 grind [EP,AQ,uQ,Za,Zq]
theorem Ii{p}(h:O9 p):(Lib.join [[105,110],Lib.itoa p.2.1,p.2.2.data.toList] [32]).length<=200000:=by
 have h1:=EP p.2.1 h.lo' h.hi';have h2:=h.sz;have h3:p.2.2.data.toList.length=p.2.2.size:=zr;exact kd4
theorem FB{p}(h:O9 p):(oU p).length<=10000:=by
 refine EM _ _ h.lo h.hi ?_;have h1:=EP p.2.1 h.lo' h.hi';have h2:=h.sz;have h3:p.2.2.data.toList.length=p.2.2.size:=zr;exact kd4
theorem KS{t}(h:t.2.length<=1000)(h0:0<=t.1)(h1:t.1<2^40):(Ae t).length<=10000:=by
 refine EM _ _ h0 zj ?_;exact kd4
theorem Ja{m}(h:0<=m.1/\m.1<2^40/\m.2.1.size<=12/\m.2.2.size<=12):(GG m).length<=10000:=by
 refine EM _ _ h.1 zj ?_;have h3:m.2.1.data.toList.length=m.2.1.size:=zr;have h4:m.2.2.data.toList.length=m.2.2.size:=zr;exact kd4
theorem Qi(w)(S)(ls)(v)(h:P1 S ls v w)(hl:ls.length<=1000000)(hm:∀l∈ls,l.length<=10000):
  qC 104 #[v,.string ⟨#[10]⟩] w (qR (.string ⟨(Lib.join ls [10]).toArray⟩) w):=by
 have hlen:=Is 10000 ls hm;have hr:=h.row
 rcases h.row.2 with ⟨rfl,h0⟩ | ⟨g,cap,cur,rfl,hbg,hgb,r1,r2,r3,r4⟩
 ·have:=Zg.1 h0;subst this
  exact (Tryz.strings_Join_none none 0 ⟨#[10]⟩ w).mono fun e w' ⟨h1,h2⟩=>⟨h1,by rw [h2];exact uM _ _⟩
 have e1:(ls.map fun l=>(⟨l.toArray⟩:qY)).map (·.data.toList)=ls:=by
  rw [YY];exact (Yv (fun l _=>rfl)).trans (List.map_id ls)
 have e2:(ls.map fun l=>(⟨l.toArray⟩:qY)).length=ls.length:=Zh _
 have:=Tryz.strings_Join g 0 cap (ls.map fun l=>(⟨l.toArray⟩:qY)) ⟨#[10]⟩ w (fun j x hj=>by
  rw [Zc]
  obtain ⟨l,fw,rfl⟩:∃l,ls[j]? =some l/\(⟨l.toArray⟩:qY)=x:=by
   rw [ZM] at hj
   cases hq:ls[j]? with
   | none=>rw [hq] at hj;cases hj
   | some l=>rw [hq] at hj;cases hj;exact ⟨l,rfl,rfl⟩
  have eN:=(uI.1 fw).1
  rw [hr.cellAt j zj]
  grind [Kl]) (uK.1 hgb).1 (by rw [e2];omega) (by rw [e2];exact r1) zM
 rw [e1,e2] at this;exact this
end
section
open RowKit Lib Go.Sort
def BM(ok:Bool)(x:OpX):OpX×Nat:=if ok=false then (lQ,6) else if od x=0 then (x,0) else (lQ,od x)
end
section
theorem SReads.adc:joinedFacts prog 3 f3 Rows.scriptReadsSpec Rows.scriptReadsRow=true:=by
 unfold joinedFacts;rw [jfP,jfU,jfR,jfN];kernel_rfl

end