import Derived.Test.YtjclejjkganhfaaGreatDoorMacA
import Derived.Deep.Cut
import Derived.OwnWalk
import Derived.Deep.QuietTactic
import Derived.BigQuiet
import Derived.Shelf.Abstract
set_option linter.unusedSimpArgs false
set_option linter.unusedVariables false
namespace Go.Proofs
theorem ka0{P:Prop}(h:P:=by
 go_wp2_with (first
  | (go_at_call 325;first | (refine (FW _ _ _ zj zj).mono ?_;rintro e w' ⟨rfl,rfl⟩) | (refine (IB _ _ _ zj).mono ?_;rintro e w' ⟨rfl,rfl⟩))
  | (go_at_call 206;refine (IW _ _ _ yQ yQ).mono ?_;rintro e w' ⟨rfl,rfl⟩)
  | (go_at_call 326;refine (JN _ _ _ yQ yQ).mono ?_;rintro e w' ⟨rfl,rfl⟩))
 go_ret
 exact ⟨rfl,zh _ _⟩):P:=h
theorem ka1{P:Prop}(h:P:=by
 go_wp2_with (first
 | (go_at_call 325;first | (refine (FW _ _ _ zj zj).mono ?_;rintro e w' ⟨rfl,rfl⟩) | (refine (IB _ _ _ zj).mono ?_;rintro e w' ⟨rfl,rfl⟩))
 | (go_at_call 206;refine (IW _ _ _ yQ yQ).mono ?_;rintro e w' ⟨rfl,rfl⟩)
 | (go_at_call 326;refine (JN _ _ _ yQ yQ).mono ?_;rintro e w' ⟨rfl,rfl⟩))
 go_ret
 exact ⟨rfl,zh _ _⟩):P:=h
theorem ka2{P:Prop}(h:P:=by
 go_wp2_with (first
   | (go_at_call 325;first | (refine (FW _ _ _ zj zj).mono ?_;rintro e w' ⟨rfl,rfl⟩) | (refine (IB _ _ _ zj).mono ?_;rintro e w' ⟨rfl,rfl⟩))
   | (go_at_call 206;refine (IW _ _ _ yQ yQ).mono ?_;rintro e w' ⟨rfl,rfl⟩)
   | (go_at_call 326;refine (JN _ _ _ yQ yQ).mono ?_;rintro e w' ⟨rfl,rfl⟩))
 go_ret
 exact ⟨rfl,zh _ _⟩):P:=h
theorem ka3{P:Prop}(h:P:=by
 go_upto_region 1 with fail
 generalize w.alloc (.cells #[.slice a0 n0 q0,qG g1 n1 c1,.slice a2 n2 q2] 84)=V at*
 generalize w.heap.size=Sd at*
 have CS:=(D9.refl Kp V).drew
 refine lV (S:=D9 Kp V) zk CS (fun aa=> ?_)
 refine tk 0 CS ?_ (y:=ty yt)
 refine tk 1 CS ?_
 refine tk 2 CS ?_
 refine tk 3 CS ?_ (y:=ty yo)
 refine tk 4 CS ?_
 refine tk 5 CS ?_ (y:=ty uE)
 refine tk 6 CS ?_
 refine tk 7 CS ?_ (y:=ty (by intro w' ab;have q:=ab.cell (b:=g1) (o:=0) lq dR;clear ab;go_simp;try with_reducible rfl))
 refine an (i:=8) zk rfl (fun K hK=> ?_)
 go_simp
 refine hc.mono ?_
 rintro e w1 ⟨cd,rfl,H1⟩
 have C1:=CS.trans H1.o.1
 refine hK _ _ C1 ?_
 obtain ⟨ev,a8⟩:∃ev,Aside (ev=eV ad cd):=⟨_,rfl⟩
 rw [<-a8.o]
 refine qn ?_
 refine tk 9 C1 ?_
 refine wpAnyH_done zk ?_ _
 refine qn ?_
 go_wp2
 go_ret
 exact ⟨cd,by rw [<-a8.o];rfl,H1.o.2⟩):P:=h
theorem ka4{P:Prop}(h:P:=by
 rintro e w' ⟨rfl,hw⟩
 subst hw
 go_wp2
 refine bodyPost_ret (v:=.tuple #[.agg qZa,.bool false]) yi rfl ⟨by rw [HE.o];rfl,?_⟩
 exact ((((((((HB.o _).setCell zq _).setCell zq _).setCell zq _).setCell zq _).setCell zq _).setCell zq _).setCell zq _).setCell zq _):P:=h
theorem ka5{P:Prop}(h:P:=by
 have z0:=ZX.cell 0
 have z1:=ZX.cell 1
 have z2:=ZX.cell 2
 have zf:∀o,X.frozen? (qA Z o)=false:=fun o=>uI
 simp only [Zb,Zf] at z0 z1 z2
 have CY:ObS C g a form (.func (.func fn) #[] cs) ps (((X.setCell (qB Z) v0).setCell (qA Z 1) v1).setCell (qA Z 2) v2):=za8 CX ZX hne _ _ _
 have hY:Aside (o9 (((X.setCell (qB Z) v0).setCell (qA Z 1) v1).setCell (qA Z 2) v2) Z 84 [v0,v1,v2]/\C3 (((X.setCell (qB Z) v0).setCell (qA Z 1) v1).setCell (qA Z 2) v2) v0 v1 v2 ((nj form.data.toList ps).getD ([],[],[]))/\qL w (((X.setCell (qB Z) v0).setCell (qA Z 1) v1).setCell (qA Z 2) v2)):=⟨((ZX.set 0 v0).set 1 v1).set 2 v2,HX.o.1.put ZX v0 v1 v2,((HX.o.2.setCell hw0 _).setCell hw0 _).setCell hw0 _⟩
 obtain ⟨a0,n0,q0,rfl⟩:∃a0 n0 q0,v0= .slice a0 n0 q0:=by obtain ⟨⟨B0,h0⟩,_,_⟩:=HX.o.1;obtain ⟨x,y,e⟩:=mC h0;exact ⟨_,_,_,e⟩
 obtain ⟨a1,n1,q1,rfl⟩:∃a0 n0 q0,v1= .slice a0 n0 q0:=by obtain ⟨_,⟨B0,h0⟩,_⟩:=HX.o.1;obtain ⟨x,y,e⟩:=mC h0;exact ⟨_,_,_,e⟩
 obtain ⟨a2,n2,q2,rfl⟩:∃a0 n0 q0,v2= .slice a0 n0 q0:=by obtain ⟨_,_,⟨B0,h0⟩⟩:=HX.o.1;obtain ⟨x,y,e⟩:=mC h0;exact ⟨_,_,_,e⟩
 refine an (i:=9) zk rfl (fun K hK=> ?_)
 go_simp
 refine hK _ _ CY ?_
 refine qn ?_
 refine tk 10 CY ?_
 refine wpAnyH_done zk ?_ _
 refine qn ?_
 go_wp2
 go_meet
 exact ⟨Z,_,_,_,rfl,rfl,CY,hY.o.1,hY.o.2.1,hY.o.2.2,HNV.o⟩):P:=h
theorem ka6{P:Prop}(h:P:=by
 rintro e X ⟨yy,cd,rfl,hcd,H7⟩
 have CX:=CY.trans H7.o.1
 refine hK _ _ CX ?_
 refine qn ?_
 have hKZ:=fG Z zj
 have ZX:o9 X Z 88 qZl:=(H7.o.1.block Z hKZ ZY.lt).trans ZY
 have HZ:Aside (∀w'',m7 (fun k=>k=Z) X w''->P yy cd w''):=fun w'' hk=>H7.o.2 w'' (hk.mono (fun k _ e=>by have e':=e;have:=ZY.lt;omega))
 obtain ⟨t',b',m',kd',nd',o',s',v'⟩:=yy
 obtain ⟨er,aB⟩:∃er,Aside (er=eV ad cd):=⟨_,rfl⟩
 rw [<-aB.o]
 unfold mH
 refine qn ?_
 refine tk 12 CX ?_
 refine tk 13 CX ?_
 refine tk 14 CX ?_
 have zz:=ZX.cell
 have z0:=zz 0;have z1:=zz 1;have z2:=zz 2;have z3:=zz 3;have z4:=zz 4;have z5:=zz 5;have z6:=zz 6;have z7:=zz 7
 have zf:∀o,X.frozen? (qA Z o)=false:=fun o=>uI
 simp only [Zb,Zf] at z0 z1 z2 z3 z4 z5 z6 z7
 have HF:=zcd hcd CX jJ ZX rfl HZ.o
 refine an (i:=16) zk rfl (fun K hK=> ?_)
 go_simp
 refine hK _ _ HF.1 ?_
 refine qn ?_
 refine tk 17 HF.1 ?_
 refine wpAnyH_done zk ?_ _
 refine qn ?_
 go_wp2
 go_meet
 exact ⟨Z,cd,_,rfl,aB.o,HF.2⟩):P:=h
theorem ka7{P:Prop}(h:P:=by
 go_wp2
 go_ret
 exact ⟨rfl,rfl⟩):P:=h
theorem ka8{P:Prop}(h:P:=by
 skip
 have b0:qlt mid e=true:=zl
 have b1:qlt e b=true:=zl
 have RU:=ci.o.2.1.off zj f9.o.1
 have eZ:Aside (F0 lt mid e b d2):=RU
 clear RU
 go_wp2_with fail
 clear b0 b1
 have C:=k9.o mid e b d2 w2 zj zj k8.o eZ.o zj zj zj zj
 unfold pz at C
 rw [gh] at C
 refine C.mono ?_
 clear C
 rintro ex w3 ⟨rfl,d3,⟨PMd3,SOd3⟩,S_d3⟩
 have lw:d3.size=d.size:=by rw [PMd3.1,gh]
 have eY:Aside (SWK enc k w0 blk off d3 w3):=S_d3
 have cH:Aside (PermIn mid b d2 d3/\SortedIn (slt lt) mid b d3):=⟨PMd3,SOd3⟩
 clear PMd3 SOd3 S_d3
 clear k8
 go_wp2
 go_end0
 have PP:=pE (lt:=lt) (a:=a) (c:=mid) (b:=b) zj zj zj ci.o.2.2 f9.o.1 f9.o.2 cH.o.1 cH.o.2
 exact ⟨rfl,_,⟨permIn_trans _ _ _ _ _ gN.o PP.1,PP.2⟩,eY.o⟩):P:=h
theorem ka9{P:Prop}(h:P:=by
 skip
 have b0:qlt mid e=true:=zl
 have b1:qlt e b=true:=zl
 have RU:=ci.o.2.1.off zj eo.o.1
 have eZ:Aside (F0 lt mid e b d1):=RU
 clear RU
 go_wp2_with fail
 clear b0 b1
 have C:=k9.o mid e b d1 w1 zj zj S2.o eZ.o zj zj zj zj
 unfold pz at C
 rw [cj] at C
 refine C.mono ?_
 clear C
 rintro ex w3 ⟨rfl,d3,⟨PMd3,SOd3⟩,S_d3⟩
 have lw:d3.size=d.size:=by rw [PMd3.1,cj]
 have eY:Aside (SWK enc k w0 blk off d3 w3):=S_d3
 have cH:Aside (PermIn mid b d1 d3/\SortedIn (slt lt) mid b d3):=⟨PMd3,SOd3⟩
 clear PMd3 SOd3 S_d3
 clear S2
 go_wp2
 go_end0
 have PP:=pE (lt:=lt) (a:=a) (c:=mid) (b:=b) zj zj zj ci.o.2.2 eo.o.1 eo.o.2 cH.o.1 cH.o.2
 exact ⟨rfl,_,⟨permIn_trans _ _ _ _ _ gN.o PP.1,PP.2⟩,eY.o⟩):P:=h
theorem kb0{P:Prop}(h:P:=by
 go_enter Tryz.func213,Tryz.ntmps213
 go_wp2_with fail
 generalize w.alloc (qOc t b n k l8 other name value)=u at O0 E0 B0 |-
 refine (MD _ _ _ s1 s2 s3 s4).mono ?_
 rintro e w1 ⟨rfl,hb⟩
 have O1:=O0.later hb
 have E1:=E0.later hb
 have B1:=zi B0 hb
 have z1:=uP w1 (qB w.heap.size) O1.c0
 obtain ⟨x0,x1,x2,x3,x4,x5,x6,x7⟩:=O1
 obtain ⟨y1,y2,y3,y4⟩:=id E1
 go_wp2
 go_ret
 exact ⟨rfl,B1⟩):P:=h
theorem kb1{P:Prop}(h:P:=by
 have RU:=ci.o.2.1.off zj eo.o.1
 have eZ:Aside (F0 lt mid e b d1):=RU
 clear RU
 go_wp2
 go_end0
 have cH:Aside (PermIn mid b d1 d1/\SortedIn (slt lt) mid b d1):=⟨permIn_refl _ _ _,F0.O eZ.o zj⟩
 have eY:=S2
 have PP:=pE (lt:=lt) (a:=a) (c:=mid) (b:=b) zj zj zj ci.o.2.2 eo.o.1 eo.o.2 cH.o.1 cH.o.2
 exact ⟨rfl,_,⟨permIn_trans _ _ _ _ _ gN.o PP.1,PP.2⟩,eY.o⟩):P:=h
theorem kb5{P:Prop}(h:P:=by
 have aq:qlt k zs.length=false:=zl
 go_wp2
 go_ret
 refine ⟨_,rfl,.inl ⟨rfl,fun l hl=> ?_⟩,A.o.1⟩
 obtain ⟨j,hj,rfl⟩:=YH hl
 exact A.o.2 j _ zj (uL hj)):P:=h
theorem kb6{P:Prop}(h:P:=by
 clear ar h0
 go_enter Tryz.func85,Tryz.ntmps85
 go_upto_region 2 with fail
 refine lV (S:=(fun w'=>w'.cell? (qB 0)=some (.iface 437 (.pointer (some (ad 1)))))) zk SD (fun aa=> ?_)
 refine tk 0 aa ?_ (y:=ty xJ)
 refine tk 1 aa ?_ (y:=ty zm)
 refine an (i:=2) zk rfl (fun kQ hK=> ?_)
 go_simp
 refine hK _ _ SD ?_
 clear hK kQ
 refine wpAnyH_done zk ?_ _
 refine qn ?_
 go_wp2
 go_ret2
 exact .inl ⟨HI.o,rfl,(uO _ w).drew⟩):P:=h
theorem kb7{P:Prop}(h:P:=by
 have hne:∀k,c k=0\/c k=1\/c k=3->¬(k=p\/some k=vl.ownBlock):=fun k e e'=>by
  have:=e'.elim (fun q=>by rw [q];exact HL.o.2.2.2.1.1) (fun q=>HL.o.2.2.2.1.2 k q.symm)
  unfold ni at this
  omega
 obtain ⟨v3,q1,q2,q3⟩:=rr hbX hact
 refine hK _ _ ⟨(q2.block P hP1 (hne P (.inl H0.o.2.2.2.2.2.2.2.2))).trans H1.o.2.1,H1.o.1.cell.same (q2.block br H1.o.1.cell.lt (hne br (.inr (.inl H1.o.1.B9)))),q2.block bx cG (hne bx (.inr (.inr HL.o.2.2.2.2.2.2.2.1)))⟩ ?_
 clear hK K
 refine qn ?_
 refine wpAnyH_done zk ?_ _
 go_wp2
 go_end0
 exact ⟨⟨_,rfl⟩,HS.o⟩):P:=h
theorem kb8{P:Prop}(h:P:=by
 go_wp2
 go_ret2
 exact ⟨_,_,rfl,zo,HB.o⟩):P:=h
theorem kb9{P:Prop}(h:P:=by
 go_enter Tryz.func227,Tryz.ntmps227
 go_wp2_with fail
 refine fV.mono ?_
 rintro e w1 ⟨rfl,hb⟩
 have B2:Aside (∀o,qL w (w1.alloc o)):=fun o=>hb.alloc hb.size o
 have c2:∀o,(w1.alloc o).cell? (qB 2)=_:=fun o=>(HE.o.later (B2.o o)).c2
 go_wp2
 go_ret
 exact ⟨rfl,B2.o _⟩):P:=h
theorem kc1{P:Prop}(h:P:=by
 have e1:((s[k].toNat:Int)==45)=false:=zl
 have e2:((s[k].toNat:Int)==46)=false:=zl
 have HE:=Lib.hid uG
 go_wp2
 go_ret
 exact ⟨by rw [<-HQ.o,HE.o];rfl,rfl⟩):P:=h
theorem kc2{P:Prop}(h:P:=by
 rintro e w1 ⟨rfl,hb⟩
 obtain ⟨hc,hf⟩:=Tx hb
 go_wp2
 have c0:w1.cell? (qB w.heap.size)=some (qI 0):=uk
 have c1:w1.cell? (qA w.heap.size 1)=some (qI 0):=uk
 refine bodyPost_ret (v:=.tuple #[.agg #[qI 0,qI 0],.iface u x]) uJ rfl ⟨rfl,?_⟩
 exact ((((zh _ _).alloc zq _).trans (hb.mono zl)).setCell zq _).setCell zq _):P:=h
theorem kc3{P:Prop}(h:P:=by
 rw [pW rfl]
 go_simp):P:=h
theorem kc4{P:Prop}(h:P:=by
 have RU:=ci.o.2.1.off zj f9.o.1
 have eZ:Aside (F0 lt mid e b d2):=RU
 clear RU
 go_wp2
 go_end0
 have cH:Aside (PermIn mid b d2 d2/\SortedIn (slt lt) mid b d2):=⟨permIn_refl _ _ _,F0.O eZ.o zj⟩
 have eY:=k8
 have PP:=pE (lt:=lt) (a:=a) (c:=mid) (b:=b) zj zj zj ci.o.2.2 f9.o.1 f9.o.2 cH.o.1 cH.o.2
 exact ⟨rfl,_,⟨permIn_trans _ _ _ _ _ gN.o PP.1,PP.2⟩,eY.o⟩):P:=h
theorem kc5{P:Prop}(h:P:=by
 refine hK _ _ HY.o ?_
 clear hK K hV ai hVn
 refine qn ?_
 refine an (i:=11) zk rfl (fun K hK=> ?_)
 go_simp
 refine (zcv V _ _ _ g0 g1).mono ?_
 rintro e w1 ⟨rfl,rfl⟩
 refine hK _ _ HY.o ?_
 clear hK K
 refine qn ?_
 refine an (i:=12) zk rfl (fun K hK=> ?_)
 go_simp
 refine hK _ _ HY.o ?_
 clear hK K
 refine wpAnyH_done zk ?_ _
 clear aa
 go_wp2
 go_ret
 exact ⟨rfl,HV.o⟩):P:=h
theorem kc8{P:Prop}(h:P:=by
 refine qn ?_
 refine mY (i:=17) zk rfl (fun K hK=> ?_)
 go_simp
 refine hK _ _ (.inr ⟨rfl,zo⟩) ?_
 clear hK K
 refine ma zk ?_ _
 have iO:Aside (VQ l9 w p v M (w5.setCell (qB p) (qG g' (L.length+1) cap'))):=zbz HT.o TX.o.2 HM.o.1 HM.o.2.1 HM.o.2.2.1 HM.o.2.2.2.1 HM.o.2.2.2.2.1 H5.o
 clear H5 u1 u2
 go_wp2
 go_ret
 exact ⟨rfl,iO.o⟩):P:=h
theorem kc9{P:Prop}(h:P:=by
 go_enter Tryz.func153,Tryz.ntmps153
 go_wp2
 go_ret
 exact ⟨rfl,zh _ _⟩):P:=h
theorem kd1{P:Prop}(h:P:=by
 rw [pW rfl]
 unfold mH lQ eV
 go_simp):P:=h
theorem kd2{P:Prop}(h:P:=by
 unfold kV at ac
 go_wp2_with fail
 refine ac.mono ?_
 rintro e w2 ⟨rfl,hb2⟩
 have B2:Aside (qL w w2):=zi H1.o.1 hb2
 go_wp2
 go_ret
 exact ⟨rfl,B2.o⟩):P:=h
theorem kd3{P:Prop}(h:P:=by
 refine an (i:=12) zk rfl (fun K hK=> ?_)
 go_simp
 refine hc.mono ?_
 rintro e w1 ⟨cd,rfl,H1⟩
 have C1:=CS.trans H1.o.1
 refine hK _ _ C1 ?_
 obtain ⟨ev,a8⟩:∃ev,Aside (ev=eV ad cd):=⟨_,rfl⟩
 rw [<-a8.o]
 refine qn ?_
 refine tk 13 C1 ?_
 refine wpAnyH_done zk ?_ _
 refine qn ?_
 go_wp2
 go_ret
 exact ⟨cd,by rw [<-a8.o];rfl,H1.o.2⟩):P:=h
theorem ke0{P:Prop}(h:P:=by
 refine hK _ _ ⟨(q3.block P GX.o.2.1.lt (hne P (.inl GX.o.2.2.2.2.2.2.2.2))).trans GX.o.2.1,GX.o.1.same (q3.block br GX.o.1.lt (hne br (.inr GX.o.2.2.1)))⟩ ?_
 clear hK K
 refine qn ?_
 refine wpAnyH_done zk ?_ _
 go_wp2
 go_end0
 exact ⟨⟨_,rfl⟩,HS.o⟩):P:=h
theorem ke1{P:Prop}(h:P:=by
 rw [e.o]
 go_enter Tryz.func151,Tryz.ntmps151
 go_wp2_with (go_at_call 206;refine hN.mono ?_;rintro e w' ⟨rfl,rfl⟩)
 go_ret
 exact ⟨rfl,rfl⟩):P:=h
theorem ke2{P:Prop}(h:P:=by
 rintro e w2 ⟨rfl,hb⟩
 have B2:=zi B1 hb
 go_wp2
 go_ret
 exact ⟨rfl,B2⟩):P:=h
theorem ke3{P:Prop}(h:P:=by
 go_enter Tryz.func178,Tryz.ntmps178
 go_wp2_with (go_at_call 242;refine (OL _ _).mono ?_;rintro e w' ⟨rfl,rfl⟩)
 go_ret
 exact ⟨rfl,rfl⟩):P:=h
theorem ke4{P:Prop}(h:P:=by
 go_wp2_with fail
 refine hc.mono ?_
 rintro e w1 ⟨s,rfl,HQ⟩
 go_wp2
 go_ret
 exact ⟨s,rfl,HQ.o⟩):P:=h
theorem ke7{P:Prop}(h:P:=by
 go_enter Tryz.func178,Tryz.ntmps178
 go_wp2_with (go_at_call 242;refine (zeJ _ _).mono ?_;rintro e w' ⟨rfl,rfl⟩)
 go_ret
 exact ⟨rfl,rfl⟩):P:=h
theorem ke8{P:Prop}(h:P:=by
 go_enter Tryz.func187,Tryz.ntmps187
 go_wp2_with (go_at_call 247;refine (zet _ _).mono ?_;rintro e w' ⟨rfl,rfl⟩)
 go_ret
 exact ⟨rfl,rfl⟩):P:=h
theorem ke9{P:Prop}(h:P:=by
 go_wp2
 go_ret
 exact ⟨rfl,zh W _⟩):P:=h
theorem kf0{P:Prop}(h:P:=by
 rw [pW rfl]
 unfold mH lQ
 go_simp):P:=h
theorem kf1{P:Prop}(h:P:=by
 go_enter Tryz.func82,Tryz.ntmps82
 go_wp2_with (go_at_call 114;refine (MD t b _ h1 h2 h3 h4).mono ?_;rintro e w1 ⟨rfl,hb⟩;have B1:Aside (qL w w1):=(zh w _).trans (hb.mono zq);clear hb)
 go_ret
 exact ⟨rfl,B1.o⟩):P:=h
theorem kf3{P:Prop}(h:P:=by
 go_wp2_with fail
 go_quiet (first | (go_at_call 382;first | exact Calls.quiet_of_same (Kx _ _ _ HZ.o.1) | exact Calls.quiet_of_same (Kx _ _ _ HZ.o.2)))
 go_wp2
 go_ret2
 exact ⟨by rw [HE.o];rfl,Cm hB _⟩):P:=h
theorem kf4{P:Prop}(h:P:=by
 have HE:=Lib.hid (by
      have:=HA.o
      rw [show Hz s[k]=false by unfold Hz;rw [decide_eq_false zj],Bool.false_and] at this
      exact this.symm)
 go_wp2
 go_ret
 exact ⟨by rw [HE.o];rfl,rfl⟩):P:=h
theorem kf6{P:Prop}(h:P:=by
 go_enter Tryz.func109,Tryz.ntmps109
 go_wp2_with (first | (go_at_call 150;refine hN.mono ?_;rintro e w' ⟨rfl,rfl⟩) | (at_builtin;refine Lib.wpList_append_run _ rfl _ _ _ _ rfl _ _ rfl rfl _ _ ae ?_))
 go_ret
 exact ⟨rfl,_,_,_,HF.o⟩):P:=h
theorem kf7{P:Prop}(h:P:=by
 go_wp2_with fail
 rw [<-hU]
 refine ac.mono ?_
 rintro e w1 ⟨rfl,hb1⟩
 have B1:Aside (qL w w1):=zi HB.o hb1
 go_wp2
 go_ret
 exact ⟨by rw [HZ.o];simp [BEq.beq],B1.o.alloc B1.o.size _⟩):P:=h
theorem kf9{P:Prop}(h:P:=by
 go_wp2
 go_ret2
 exact ⟨by rw [HN.o];rfl,rfl⟩):P:=h
theorem kg0{P:Prop}(h:P:=by
 rw [hq] at ac
 have HQ:=Lib.hid hq
 go_wp2_with (go_at_fn g;refine ac.mono ?_;rintro e w' ⟨rfl,hb'⟩)
 go_ret
 exact ⟨_,rfl,.inr ⟨k,_,rfl,hl.o,HQ.o,A.o.2⟩,zi A.o.1 hb'⟩):P:=h
theorem kg1{P:Prop}(h:P:=by
 go_wp2_with fail
 rw [<-hU]
 refine ac.mono ?_
 rintro e w1 ⟨rfl,hb1⟩
 have B1:Aside (qL w w1):=zi HB.o hb1
 go_wp2
 go_ret
 exact ⟨by rw [HZ.o];simp [hk],B1.o.alloc B1.o.size _⟩):P:=h
theorem kg5{P:Prop}(h:P:=by
 go_wp2_with fail
 rw [<-hU]
 refine ac.mono ?_
 rintro e w1 ⟨rfl,hb1⟩
 have B1:Aside (qL w w1):=zi HB.o hb1
 go_wp2
 go_ret
 exact ⟨rfl,B1.o.alloc B1.o.size _⟩):P:=h
theorem kg6{P:Prop}(h:P:=by
 have hd:qlt k s.size=false:=zl
 have HE:Hid (R=true):=Lib.hid uF
 go_wp2
 go_ret
 exact ⟨by rw [HE.o];rfl,rfl⟩):P:=h
theorem kg8{P:Prop}(h:P:=by
 have HA:Aside (zs.any p=false):=by
  show zs.any p=false
  rw [List.any_eq_false]
  intro x hx
  rw [ha x hx]
  decide
 subst hr
 go_wp2
 go_ret
 exact ⟨by rw [HA.o];rfl,H.o.2⟩):P:=h
theorem kh0{P:Prop}(h:P:=by
 rw [hq] at ac
 have HQ:=Lib.hid hq
 go_wp2_with (go_at_fn g;refine ac.mono ?_;rintro e w' ⟨rfl,hb'⟩)
 go_ret
 exact ⟨_,rfl,.inr ⟨k,_,rfl,hl.o,HQ.o,A.o.2⟩,hb'⟩):P:=h
theorem kh4{P:Prop}(h:P:=by
 go_wp2_with fail
 refine h.mono ?_
 rintro e w1 ⟨k,hk,rfl,hb⟩
 have H:Aside ((1<=k/\k<=8/\v<16^k)/\qL w w1):=⟨hk,hb⟩
 go_wp2
 go_ret
 exact ⟨k,H.o.1,rfl,H.o.2⟩):P:=h
theorem kh8{P:Prop}(h:P:=by
 go_enter Tryz.func17,Tryz.ntmps17
 go_wp2_with fail
 refine (PD u zj w).mono ?_
 rintro e w1 ⟨rfl,hb⟩
 go_wp2
 go_ret
 exact ⟨by rw [HE.o];rfl,hb⟩):P:=h
theorem ki2{P:Prop}(h:P:=by exact ⟨i,j+1,cs,rfl,zJ,uM _,⟨A.o.1.skip hl.o HQ.o,HW.o.2.1.same (hb'.block g zj),HW.o.2.2.1.trans (hb'.mono zj)⟩⟩):P:=h
theorem ki7{P:Prop}(h:P:=by
 go_ret
 exact ⟨rfl,0,_,vJ⟩):P:=h
theorem kj0{P:Prop}(h:P:=by
 have HA:Aside (zs.any p=true):=List.any_eq_true.2 ⟨x,uR hx,hpx⟩
 go_wp2
 go_ret
 exact ⟨by rw [HA.o];rfl,H.o.2⟩):P:=h
theorem kj1{P:Prop}(h:P:=by
 go_wp2
 go_ret
 exact ⟨rfl,A.o.m8⟩):P:=h
theorem kj2{P:Prop}(h:P:=by
 rw [HW.o]
 go_enter Tryz.func162,Tryz.ntmps162
 go_wp2
 go_ret
 exact ⟨rfl,_,H.o,m7.refl _ _,fun g hg=>.inl hg⟩):P:=h
theorem kj6{P:Prop}(h:P:=by
 go_enter Tryz.func218,Tryz.ntmps218
 go_wp2
 go_ret
 exact ⟨rfl,(zh _ _).alloc zq _⟩):P:=h
theorem kj8{P:Prop}(h:P:=by
 unfold kV
 go_enter Tryz.func260,Tryz.ntmps260
 go_wp2
 go_ret
 exact ⟨rfl,zh w _⟩):P:=h
theorem kk1{P:Prop}(h:P:=by
 go_wp2_with (at_builtin;refine Lib.wpList_append_run _ rfl _ _ _ _ rfl _ _ rfl rfl _ _ ae ?_)
 go_ret
 exact iB.o):P:=h
theorem kk4{P:Prop}(h:P:=by
 go_wp2
 go_quiet (fail)
 go_wp2
 go_ret2
 exact ⟨o,_,rfl,HF.o.1,Go.below_drewN HF.o.2 _⟩):P:=h
theorem kk5{P:Prop}(h:P:=by
 go_wp2_with fail
 go_wp2
 go_ret
 exact ⟨S,Nat.le_of_eq hS.o,rfl,T5.o.tbl,by rw [hS.o];exact T5.o.m8⟩):P:=h
theorem kk6{P:Prop}(h:P:=by
 obtain ⟨v2,ys,rfl,h⟩:=aN
 have H2:Aside (X6 w (lY R) (.returned v2) w2):=gZ
 go_wp2
 go_ret
 exact H2.o):P:=h
theorem kl0{P:Prop}(h:P:=by
 rintro e w2 ⟨rfl,hb⟩
 have hg2:=rH hg1 hb
 go_wp2
 go_ret
 exact ⟨rfl,hg2⟩):P:=h
theorem km1{P:Prop}(h:P:=by
 go_wp2
 go_ret
 refine ⟨rfl,?_,m7.refl _ _⟩
 unfold BH
 rw [HC.o]
 exact H.o):P:=h
theorem km3{P:Prop}(h:P:=by
 intro fB cU
 gi_wp2
 go_end0
 exact ⟨⟨_,rfl⟩,.inl ⟨ps,hC.all hr G cU,jd⟩⟩):P:=h
theorem km8{P:Prop}(h:P:=by
 go_ret2
 exact ⟨rfl,(zh _ _).trans (hb.mono zq)⟩):P:=h
theorem kn5{P:Prop}(h:P:=by
 have h1:(k:Int)<=(cap:Int):=zj
 have h0:(0:Int)<=(k:Int):=zj
 go_simp):P:=h
theorem kn8{P:Prop}(h:P:=by
 go_wp2
 go_ret
 exact ⟨rfl,H1.o.1⟩):P:=h
theorem ko7{P:Prop}(h:P:=by
 go_wp2
 go_ret
 exact ⟨rfl,HB1.o⟩):P:=h
