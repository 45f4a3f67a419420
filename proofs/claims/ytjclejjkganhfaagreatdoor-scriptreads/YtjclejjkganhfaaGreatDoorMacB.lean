import Derived.Test.YtjclejjkganhfaaGreatDoorMacA
import Derived.Deep.Cut
import Derived.OwnWalk
import Derived.Deep.QuietTactic
import Derived.BigQuiet
import Derived.Shelf.Abstract
set_option linter.unusedSimpArgs false
set_option linter.unusedVariables false
namespace Go.Proofs
theorem ka0{P:Prop}(h:P:=by
 go_wp2_with (first
  | (go_at_call 325;first | (refine (Eu _ _ _ zj zj).mono ?_;rintro e w' ⟨rfl,rfl⟩) | (refine (IP _ _ _ zj).mono ?_;rintro e w' ⟨rfl,rfl⟩))
  | (go_at_call 206;refine (Hw _ _ _ yC yC).mono ?_;rintro e w' ⟨rfl,rfl⟩)
  | (go_at_call 326;refine (Hi _ _ _ yC yC).mono ?_;rintro e w' ⟨rfl,rfl⟩))
 go_ret
 exact ⟨rfl,zh _ _⟩):P:=h
theorem ka1{P:Prop}(h:P:=by
 go_wp2_with (first
 | (go_at_call 325;first | (refine (Eu _ _ _ zj zj).mono ?_;rintro e w' ⟨rfl,rfl⟩) | (refine (IP _ _ _ zj).mono ?_;rintro e w' ⟨rfl,rfl⟩))
 | (go_at_call 206;refine (Hw _ _ _ yC yC).mono ?_;rintro e w' ⟨rfl,rfl⟩)
 | (go_at_call 326;refine (Hi _ _ _ yC yC).mono ?_;rintro e w' ⟨rfl,rfl⟩))
 go_ret
 exact ⟨rfl,zh _ _⟩):P:=h
theorem ka2{P:Prop}(h:P:=by
 go_wp2_with (first
   | (go_at_call 325;first | (refine (Eu _ _ _ zj zj).mono ?_;rintro e w' ⟨rfl,rfl⟩) | (refine (IP _ _ _ zj).mono ?_;rintro e w' ⟨rfl,rfl⟩))
   | (go_at_call 206;refine (Hw _ _ _ yC yC).mono ?_;rintro e w' ⟨rfl,rfl⟩)
   | (go_at_call 326;refine (Hi _ _ _ yC yC).mono ?_;rintro e w' ⟨rfl,rfl⟩))
 go_ret
 exact ⟨rfl,zh _ _⟩):P:=h
theorem ka3{P:Prop}(h:P:=by
 go_upto_region 1 with fail
 generalize w.alloc (.cells #[.slice a0 n0 q0,qG g1 n1 c1,.slice a2 n2 q2] 84)=V at*
 generalize w.heap.size=Sd at*
 have CS:=(D6.refl Kp V).drew
 refine lV (S:=D6 Kp V) zk CS (fun aa=> ?_)
 refine tk 0 CS ?_ (y:=ty yr)
 refine tk 1 CS ?_
 refine tk 2 CS ?_
 refine tk 3 CS ?_ (y:=ty ym)
 refine tk 4 CS ?_
 refine tk 5 CS ?_ (y:=ty uD)
 refine tk 6 CS ?_
 refine tk 7 CS ?_ (y:=ty (by intro w' ab;have q:=ab.cell (b:=g1) (o:=0) kq1 dV;clear ab;go_simp;try with_reducible rfl))
 refine an (i:=8) zk rfl (fun K hK=> ?_)
 go_simp
 refine hc.mono ?_
 rintro e w1 ⟨cd,rfl,H1⟩
 have C1:=CS.trans H1.o.1
 refine hK _ _ C1 ?_
 obtain ⟨ev,aR⟩:∃ev,Aside (ev=eV ad cd):=⟨_,rfl⟩
 rw [<-aR.o]
 refine qn ?_
 refine tk 9 C1 ?_
 refine wpAnyH_done zk ?_ _
 refine qn ?_
 go_wp2
 go_ret
 exact ⟨cd,by rw [<-aR.o];rfl,H1.o.2⟩):P:=h
theorem ka4{P:Prop}(h:P:=by
 rintro e w' ⟨rfl,hw⟩
 subst hw
 go_wp2
 refine bodyPost_ret (v:=.tuple #[.agg qZa,.bool false]) yh rfl ⟨by rw [HE.o];rfl,?_⟩
 exact ((((((((HB.o _).setCell zr _).setCell zr _).setCell zr _).setCell zr _).setCell zr _).setCell zr _).setCell zr _).setCell zr _):P:=h
theorem ka5{P:Prop}(h:P:=by
 have z0:=ZX.cell 0
 have z1:=ZX.cell 1
 have z2:=ZX.cell 2
 have zf:∀o,X.frozen? (qA Z o)=false:=fun o=>uF
 simp only [uZ,Zb] at z0 z1 z2
 have CY:ObS C g a form (.func (.func fn) #[] cs) ps (((X.setCell (qB Z) v0).setCell (qA Z 1) v1).setCell (qA Z 2) v2):=zat CX ZX hne _ _ _
 have hY:Aside (p8 (((X.setCell (qB Z) v0).setCell (qA Z 1) v1).setCell (qA Z 2) v2) Z 84 [v0,v1,v2]/\B8 (((X.setCell (qB Z) v0).setCell (qA Z 1) v1).setCell (qA Z 2) v2) v0 v1 v2 ((oQ form.data.toList ps).getD ([],[],[]))/\qL w (((X.setCell (qB Z) v0).setCell (qA Z 1) v1).setCell (qA Z 2) v2)):=⟨((ZX.set 0 v0).set 1 v1).set 2 v2,HX.o.1.put ZX v0 v1 v2,((HX.o.2.setCell hw0 _).setCell hw0 _).setCell hw0 _⟩
 obtain ⟨a0,n0,q0,rfl⟩:∃a0 n0 q0,v0= .slice a0 n0 q0:=by obtain ⟨⟨B0,h0⟩,_,_⟩:=HX.o.1;obtain ⟨x,y,e⟩:=mC h0;exact ⟨_,_,_,e⟩
 obtain ⟨a1,n1,q1,rfl⟩:∃a0 n0 q0,v1= .slice a0 n0 q0:=by obtain ⟨_,⟨B0,h0⟩,_⟩:=HX.o.1;obtain ⟨x,y,e⟩:=mC h0;exact ⟨_,_,_,e⟩
 obtain ⟨a2,n2,q2,rfl⟩:∃a0 n0 q0,v2= .slice a0 n0 q0:=by obtain ⟨_,_,⟨B0,h0⟩⟩:=HX.o.1;obtain ⟨x,y,e⟩:=mC h0;exact ⟨_,_,_,e⟩
 refine an (i:=9) zk rfl (fun K hK=> ?_)
 go_simp
 refine hK _ _ CY ?_
 refine qn ?_
 refine tk 10 CY ?_
 refine wpAnyH_done zk ?_ _
 refine qn ?_
 go_wp2
 go_meet
 exact ⟨Z,_,_,_,rfl,rfl,CY,hY.o.1,hY.o.2.1,hY.o.2.2,HNV.o⟩):P:=h
theorem ka6{P:Prop}(h:P:=by
 rintro e X ⟨yy,cd,rfl,hcd,H7⟩
 have CX:=CY.trans H7.o.1
 refine hK _ _ CX ?_
 clear hK K
 refine qn ?_
 have hKZ:=gT Z zj
 have ZX:p8 X Z 88 qZl:=(H7.o.1.block Z hKZ ZY.lt).trans ZY
 have HZ:Aside (∀w'',m7 (fun k=>k=Z) X w''->P yy cd w''):=fun w'' hk=>H7.o.2 w'' (hk.mono (fun k _ e=>by have e':=e;have:=ZY.lt;omega))
 clear H7 CY ZY HBY
 obtain ⟨t',b',m',kd',nd',o',s',v'⟩:=yy
 obtain ⟨er,aB⟩:∃er,Aside (er=eV ad cd):=⟨_,rfl⟩
 rw [<-aB.o]
 unfold mJ
 refine qn ?_
 refine tk 12 CX ?_
 refine tk 13 CX ?_
 refine tk 14 CX ?_
 have zz:=ZX.cell
 have z0:=zz 0;have z1:=zz 1;have z2:=zz 2;have z3:=zz 3;have z4:=zz 4;have z5:=zz 5;have z6:=zz 6;have z7:=zz 7
 have zf:∀o,X.frozen? (qA Z o)=false:=fun o=>uF
 simp only [uZ,Zb] at z0 z1 z2 z3 z4 z5 z6 z7
 have HF:=zb9 hcd CX jZ ZX rfl HZ.o
 clear zz
 refine an (i:=16) zk rfl (fun K hK=> ?_)
 go_simp
 refine hK _ _ HF.1 ?_
 clear hK K
 refine qn ?_
 refine tk 17 HF.1 ?_
 refine wpAnyH_done zk ?_ _
 refine qn ?_
 clear z0 z1 z2 z3 z4 z5 z6 z7 zf
 go_wp2
 go_meet
 exact ⟨Z,cd,_,rfl,aB.o,HF.2⟩):P:=h
theorem ka7{P:Prop}(h:P:=by
 go_wp2
 go_ret
 exact ⟨rfl,rfl⟩):P:=h
theorem ka8{P:Prop}(h:P:=by
 skip
 have b0:qlt mid e=true:=zm
 have b1:qlt e b=true:=zm
 have RU:=ci.o.2.1.off zj gm.o.1
 have fd:Aside (F0 lt mid e b d2):=RU
 clear RU
 go_wp2_with fail
 clear b0 b1
 have C:=lG.o mid e b d2 w2 zj zj lE.o fd.o zj zj zj zj
 unfold pr at C
 rw [gr] at C
 refine C.mono ?_
 clear C
 rintro ex w3 ⟨rfl,d3,⟨PMd3,SOd3⟩,S_d3⟩
 have hzd3:d3.size=d.size:=by rw [PMd3.1,gr]
 have fb:Aside (SWK enc k w0 blk off d3 w3):=S_d3
 have cO:Aside (PermIn mid b d2 d3/\SortedIn (slt lt) mid b d3):=⟨PMd3,SOd3⟩
 clear PMd3 SOd3 S_d3
 clear lE
 go_wp2
 go_end0
 have PP:=pE (lt:=lt) (a:=a) (c:=mid) (b:=b) zj zj zj ci.o.2.2 gm.o.1 gm.o.2 cO.o.1 cO.o.2
 exact ⟨rfl,_,⟨permIn_trans _ _ _ _ _ gV.o PP.1,PP.2⟩,fb.o⟩):P:=h
theorem ka9{P:Prop}(h:P:=by
 clear af
 go_enter Tryz.func213,Tryz.ntmps213
 go_wp2_with fail
 generalize w.alloc (qOc t b n k l8 other name value)=u at O0 E0 B0 |-
 refine (MZ _ _ _ s1 s2 s3 s4).mono ?_
 rintro e w1 ⟨rfl,hb⟩
 have O1:=O0.later hb
 have E1:=E0.later hb
 have B1:=zi B0 hb
 clear hb O0 E0 B0
 have z1:=uN w1 (qB w.heap.size) O1.c0
 obtain ⟨x0,x1,x2,x3,x4,x5,x6,x7⟩:=O1
 obtain ⟨y1,y2,y3,y4⟩:=id E1
 go_wp2
 go_ret
 exact ⟨rfl,B1⟩):P:=h
theorem kb0{P:Prop}(h:P:=by
 skip
 have b0:qlt mid e=true:=zm
 have b1:qlt e b=true:=zm
 have RU:=ci.o.2.1.off zj eA.o.1
 have fd:Aside (F0 lt mid e b d1):=RU
 clear RU
 go_wp2_with fail
 clear b0 b1
 have C:=lG.o mid e b d1 w1 zj zj S2.o fd.o zj zj zj zj
 unfold pr at C
 rw [cj] at C
 refine C.mono ?_
 clear C
 rintro ex w3 ⟨rfl,d3,⟨PMd3,SOd3⟩,S_d3⟩
 have hzd3:d3.size=d.size:=by rw [PMd3.1,cj]
 have fb:Aside (SWK enc k w0 blk off d3 w3):=S_d3
 have cO:Aside (PermIn mid b d1 d3/\SortedIn (slt lt) mid b d3):=⟨PMd3,SOd3⟩
 clear PMd3 SOd3 S_d3
 clear S2
 go_wp2
 go_end0
 have PP:=pE (lt:=lt) (a:=a) (c:=mid) (b:=b) zj zj zj ci.o.2.2 eA.o.1 eA.o.2 cO.o.1 cO.o.2
 exact ⟨rfl,_,⟨permIn_trans _ _ _ _ _ gV.o PP.1,PP.2⟩,fb.o⟩):P:=h
theorem kb1{P:Prop}(h:P:=by
 have RU:=ci.o.2.1.off zj eA.o.1
 have fd:Aside (F0 lt mid e b d1):=RU
 clear RU
 go_wp2
 go_end0
 have cO:Aside (PermIn mid b d1 d1/\SortedIn (slt lt) mid b d1):=⟨permIn_refl _ _ _,F0.V fd.o zj⟩
 have fb:=S2
 have PP:=pE (lt:=lt) (a:=a) (c:=mid) (b:=b) zj zj zj ci.o.2.2 eA.o.1 eA.o.2 cO.o.1 cO.o.2
 exact ⟨rfl,_,⟨permIn_trans _ _ _ _ _ gV.o PP.1,PP.2⟩,fb.o⟩):P:=h
theorem kb5{P:Prop}(h:P:=by
 have aq:qlt k zs.length=false:=zm
 go_wp2
 go_ret
 refine ⟨_,rfl,.inl ⟨rfl,fun l hl=> ?_⟩,A.o.1⟩
 obtain ⟨j,hj,rfl⟩:=YF hl
 exact A.o.2 j _ zj (uJ hj)):P:=h
theorem kb6{P:Prop}(h:P:=by
 clear hin h0
 go_enter Tryz.func85,Tryz.ntmps85
 go_upto_region 2 with fail
 refine lV (S:=(fun w'=>w'.cell? (qB 0)=some (.iface 437 (.pointer (some (ad 1)))))) zk SD (fun aa=> ?_)
 refine tk 0 aa ?_ (y:=ty xG)
 refine tk 1 aa ?_ (y:=ty zl)
 refine an (i:=2) zk rfl (fun kQ hK=> ?_)
 go_simp
 refine hK _ _ SD ?_
 clear hK kQ
 refine wpAnyH_done zk ?_ _
 refine qn ?_
 go_wp2
 go_ret2
 exact .inl ⟨HI.o,rfl,(uM _ w).drew⟩):P:=h
theorem kb7{P:Prop}(h:P:=by
 have hne:∀k,c k=0\/c k=1\/c k=3->¬(k=p\/some k=vl.ownBlock):=fun k e e'=>by
  have:=e'.elim (fun q=>by rw [q];exact HL.o.2.2.2.1.1) (fun q=>HL.o.2.2.2.1.2 k q.symm)
  unfold nc at this
  omega
 obtain ⟨v3,q1,q2,q3⟩:=rb hbX hact
 refine hK _ _ ⟨(q2.block P hP1 (hne P (.inl H0.o.2.2.2.2.2.2.2.2))).trans H1.o.2.1,H1.o.1.cell.same (q2.block br H1.o.1.cell.lt (hne br (.inr (.inl H1.o.1.y9)))),q2.block bx cN (hne bx (.inr (.inr HL.o.2.2.2.2.2.2.2.1)))⟩ ?_
 clear hK K
 refine qn ?_
 refine wpAnyH_done zk ?_ _
 go_wp2
 go_end0
 exact ⟨⟨_,rfl⟩,HS.o⟩):P:=h
theorem kb8{P:Prop}(h:P:=by
 go_enter Tryz.func227,Tryz.ntmps227
 go_wp2_with fail
 refine fY.mono ?_
 rintro e w1 ⟨rfl,hb⟩
 have B2:Aside (∀o,qL w (w1.alloc o)):=fun o=>hb.alloc hb.size o
 have c2:∀o,(w1.alloc o).cell? (qB 2)=_:=fun o=>(HE.o.later (B2.o o)).c2
 go_wp2
 go_ret
 exact ⟨rfl,B2.o _⟩):P:=h
theorem kc0{P:Prop}(h:P:=by
 rintro e w1 ⟨rfl,hb⟩
 obtain ⟨hc,hf⟩:=SC hb
 go_wp2
 have c0:w1.cell? (qB w.heap.size)=some (qI 0):=uu
 have c1:w1.cell? (qA w.heap.size 1)=some (qI 0):=uu
 refine bodyPost_ret (v:=.tuple #[.agg #[qI 0,qI 0],.iface u x]) uG rfl ⟨rfl,?_⟩
 exact ((((zh _ _).alloc zr _).trans (hb.mono zm)).setCell zr _).setCell zr _):P:=h
theorem kc1{P:Prop}(h:P:=by
 rw [pU rfl]
 go_simp):P:=h
theorem kc2{P:Prop}(h:P:=by
 unfold kV at ac
 clear hz hz'
 go_wp2_with fail
 refine ac.mono ?_
 clear ac
 rintro e w2 ⟨rfl,hb2⟩
 have B2:Aside (qL w w2):=zi H1.o.1 hb2
 clear hb2
 go_wp2
 go_ret
 exact ⟨rfl,B2.o⟩):P:=h
theorem kc3{P:Prop}(h:P:=by
 have RU:=ci.o.2.1.off zj gm.o.1
 have fd:Aside (F0 lt mid e b d2):=RU
 clear RU
 go_wp2
 go_end0
 have cO:Aside (PermIn mid b d2 d2/\SortedIn (slt lt) mid b d2):=⟨permIn_refl _ _ _,F0.V fd.o zj⟩
 have fb:=lE
 have PP:=pE (lt:=lt) (a:=a) (c:=mid) (b:=b) zj zj zj ci.o.2.2 gm.o.1 gm.o.2 cO.o.1 cO.o.2
 exact ⟨rfl,_,⟨permIn_trans _ _ _ _ _ gV.o PP.1,PP.2⟩,fb.o⟩):P:=h
theorem kc4{P:Prop}(h:P:=by
 rintro e w2 ⟨rfl,hb⟩
 have B2:=zi B1 hb
 clear hb x0 x1 x2 x3 x4 x5 x6 x7 y1 y2 y3 y4 B1 E1
 go_wp2
 go_ret
 exact ⟨rfl,B2⟩):P:=h
theorem kc5{P:Prop}(h:P:=by
 refine hK _ _ HY.o ?_
 clear hK K hV ai hVn
 refine qn ?_
 refine an (i:=11) zk rfl (fun K hK=> ?_)
 go_simp
 refine (za0 V _ _ _ g0 g1).mono ?_
 rintro e w1 ⟨rfl,rfl⟩
 refine hK _ _ HY.o ?_
 clear hK K
 refine qn ?_
 refine an (i:=12) zk rfl (fun K hK=> ?_)
 go_simp
 refine hK _ _ HY.o ?_
 clear hK K
 refine wpAnyH_done zk ?_ _
 clear aa
 go_wp2
 go_ret
 exact ⟨rfl,HV.o⟩):P:=h
theorem kc8{P:Prop}(h:P:=by
 refine qn ?_
 refine lN (i:=17) zk rfl (fun K hK=> ?_)
 go_simp
 refine hK _ _ (.inr ⟨rfl,zo⟩) ?_
 clear hK K
 refine nZ zk ?_ _
 have iW:Aside (UF l9 w p v M (w5.setCell (qB p) (qG g' (L.length+1) cap'))):=XB HT.o TX.o.2 HM.o.1 HM.o.2.1 HM.o.2.2.1 HM.o.2.2.2.1 HM.o.2.2.2.2.1 H5.o
 clear H5 u1 u2
 go_wp2
 go_ret
 exact ⟨rfl,iW.o⟩):P:=h
theorem kc9{P:Prop}(h:P:=by
 go_enter Tryz.func153,Tryz.ntmps153
 go_wp2
 go_ret
 exact ⟨rfl,zh _ _⟩):P:=h
theorem kd1{P:Prop}(h:P:=by
 rw [pU rfl]
 unfold mJ lQ eV
 go_simp):P:=h
theorem kd2{P:Prop}(h:P:=by
 refine an (i:=12) zk rfl (fun K hK=> ?_)
 go_simp
 refine hc.mono ?_
 rintro e w1 ⟨cd,rfl,H1⟩
 have C1:=CS.trans H1.o.1
 refine hK _ _ C1 ?_
 obtain ⟨ev,aR⟩:∃ev,Aside (ev=eV ad cd):=⟨_,rfl⟩
 rw [<-aR.o]
 refine qn ?_
 refine tk 13 C1 ?_
 refine wpAnyH_done zk ?_ _
 refine qn ?_
 go_wp2
 go_ret
 exact ⟨cd,by rw [<-aR.o];rfl,H1.o.2⟩):P:=h
theorem kd8{P:Prop}(h:P:=by
 refine hK _ _ ⟨(q3.block P GX.o.2.1.lt (hne P (.inl GX.o.2.2.2.2.2.2.2.2))).trans GX.o.2.1,GX.o.1.same (q3.block br GX.o.1.lt (hne br (.inr GX.o.2.2.1)))⟩ ?_
 clear hK K
 refine qn ?_
 refine wpAnyH_done zk ?_ _
 go_wp2
 go_end0
 exact ⟨⟨_,rfl⟩,HS.o⟩):P:=h
theorem kd9{P:Prop}(h:P:=by
 rw [e.o]
 go_enter Tryz.func151,Tryz.ntmps151
 go_wp2_with (go_at_call 206;refine hN.mono ?_;rintro e w' ⟨rfl,rfl⟩)
 go_ret
 exact ⟨rfl,rfl⟩):P:=h
theorem ke0{P:Prop}(h:P:=by
 go_enter Tryz.func178,Tryz.ntmps178
 go_wp2_with (go_at_call 242;refine (OF _ _).mono ?_;rintro e w' ⟨rfl,rfl⟩)
 go_ret
 exact ⟨rfl,rfl⟩):P:=h
theorem ke1{P:Prop}(h:P:=by
 go_wp2_with fail
 refine hc.mono ?_
 rintro e w1 ⟨s,rfl,HQ⟩
 go_wp2
 go_ret
 exact ⟨s,rfl,HQ.o⟩):P:=h
theorem ke4{P:Prop}(h:P:=by
 go_enter Tryz.func178,Tryz.ntmps178
 go_wp2_with (go_at_call 242;refine (zdz _ _).mono ?_;rintro e w' ⟨rfl,rfl⟩)
 go_ret
 exact ⟨rfl,rfl⟩):P:=h
theorem ke5{P:Prop}(h:P:=by
 go_enter Tryz.func187,Tryz.ntmps187
 go_wp2_with (go_at_call 247;refine (zdw _ _).mono ?_;rintro e w' ⟨rfl,rfl⟩)
 go_ret
 exact ⟨rfl,rfl⟩):P:=h
theorem ke6{P:Prop}(h:P:=by
 go_wp2
 go_ret
 exact ⟨rfl,zh W _⟩):P:=h
theorem ke7{P:Prop}(h:P:=by
 rw [pU rfl]
 unfold mJ lQ
 go_simp):P:=h
theorem ke8{P:Prop}(h:P:=by
 go_enter Tryz.func82,Tryz.ntmps82
 go_wp2_with (go_at_call 114;refine (MZ t b _ h1 h2 h3 h4).mono ?_;rintro e w1 ⟨rfl,hb⟩;have B1:Aside (qL w w1):=(zh w _).trans (hb.mono zr);clear hb)
 go_ret
 exact ⟨rfl,B1.o⟩):P:=h
theorem ke9{P:Prop}(h:P:=by
 go_wp2_with fail
 go_quiet (first | (go_at_call 382;first | exact Calls.quiet_of_same (Jz _ _ _ HZ.o.1) | exact Calls.quiet_of_same (Jz _ _ _ HZ.o.2)))
 go_wp2
 go_ret2
 exact ⟨by rw [HE.o];rfl,CO hB _⟩):P:=h
theorem kf0{P:Prop}(h:P:=by
 have HE:=Lib.hid (by
      have:=HA.o
      rw [show Fx s[k]=false by unfold Fx;rw [decide_eq_false zj],Bool.false_and] at this
      exact this.symm)
 go_wp2
 go_ret
 exact ⟨by rw [HE.o];rfl,rfl⟩):P:=h
theorem kf3{P:Prop}(h:P:=by
 go_enter Tryz.func109,Tryz.ntmps109
 go_wp2_with (first | (go_at_call 150;refine hN.mono ?_;rintro e w' ⟨rfl,rfl⟩) | (at_builtin;refine Lib.wpList_append_run _ rfl _ _ _ _ rfl _ _ rfl rfl _ _ ae ?_))
 go_ret
 exact ⟨rfl,_,_,_,HF.o⟩):P:=h
theorem kf4{P:Prop}(h:P:=by
 go_wp2_with fail
 rw [<-hU]
 refine ac.mono ?_
 rintro e w1 ⟨rfl,hb1⟩
 have B1:Aside (qL w w1):=zi HB.o hb1
 go_wp2
 go_ret
 exact ⟨by rw [HZ.o];simp [BEq.beq],B1.o.alloc B1.o.size _⟩):P:=h
theorem kf6{P:Prop}(h:P:=by
 go_wp2
 go_ret2
 exact ⟨by rw [HN.o];rfl,rfl⟩):P:=h
theorem kf7{P:Prop}(h:P:=by
 rw [hq] at ac
 have HQ:=Lib.hid hq
 go_wp2_with (go_at_fn g;refine ac.mono ?_;rintro e w' ⟨rfl,hb'⟩)
 go_ret
 exact ⟨_,rfl,.inr ⟨k,_,rfl,hl.o,HQ.o,A.o.2⟩,zi A.o.1 hb'⟩):P:=h
theorem kf8{P:Prop}(h:P:=by
 go_wp2_with fail
 rw [<-hU]
 refine ac.mono ?_
 rintro e w1 ⟨rfl,hb1⟩
 have B1:Aside (qL w w1):=zi HB.o hb1
 go_wp2
 go_ret
 exact ⟨by rw [HZ.o];simp [hk],B1.o.alloc B1.o.size _⟩):P:=h
theorem kg2{P:Prop}(h:P:=by
 go_wp2_with fail
 rw [<-hU]
 refine ac.mono ?_
 rintro e w1 ⟨rfl,hb1⟩
 have B1:Aside (qL w w1):=zi HB.o hb1
 go_wp2
 go_ret
 exact ⟨rfl,B1.o.alloc B1.o.size _⟩):P:=h
theorem kg3{P:Prop}(h:P:=by
 have hd:qlt k s.size=false:=zm
 have HE:Hid (R=true):=Lib.hid (by have:=HD.o;rw [show k=s.size by omega,AU] at this;exact this.symm)
 go_wp2
 go_ret
 exact ⟨by rw [HE.o];rfl,rfl⟩):P:=h
theorem kg5{P:Prop}(h:P:=by
 go_wp2_with fail
 refine h.mono ?_
 clear h
 rintro e w1 ⟨k,hk,rfl,hb⟩
 have H:Aside ((1<=k/\k<=8/\v<16^k)/\qL w w1):=⟨hk,hb⟩
 clear hk hb
 go_wp2
 go_ret
 exact ⟨k,H.o.1,rfl,H.o.2⟩):P:=h
theorem kg6{P:Prop}(h:P:=by
 have HA:Aside (zs.any p=false):=by
  show zs.any p=false
  rw [List.any_eq_false]
  intro x hx
  rw [ha x hx]
  decide
 subst hr
 go_wp2
 go_ret
 exact ⟨by rw [HA.o];rfl,H.o.2⟩):P:=h
theorem kg8{P:Prop}(h:P:=by
 rw [hq] at ac
 have HQ:=Lib.hid hq
 go_wp2_with (go_at_fn g;refine ac.mono ?_;rintro e w' ⟨rfl,hb'⟩)
 go_ret
 exact ⟨_,rfl,.inr ⟨k,_,rfl,hl.o,HQ.o,A.o.2⟩,hb'⟩):P:=h
theorem kh7{P:Prop}(h:P:=by
 go_enter Tryz.func7,Tryz.ntmps7
 go_wp2_with fail
 refine (Ov w h k hk).mono ?_
 rintro e w1 ⟨rfl,hw⟩
 go_wp2
 go_ret
 exact ⟨by rw [hb];rfl,hw⟩):P:=h
theorem kh8{P:Prop}(h:P:=by exact ⟨i,j+1,cs,rfl,zN,uL _,⟨A.o.1.skip hl.o HQ.o,HW.o.2.1.same (hb'.block g zj),HW.o.2.2.1.trans (hb'.mono zj)⟩⟩):P:=h
theorem ki4{P:Prop}(h:P:=by
 go_ret
 exact ⟨rfl,0,_,vG⟩):P:=h
theorem ki5{P:Prop}(h:P:=by
 clear T4 hb k0 k1
 go_wp2_with fail
 clear hr
 go_wp2
 go_ret
 exact ⟨S,Nat.le_of_eq hS.o,rfl,T5.o.tbl,by rw [hS.o];exact T5.o.m8⟩):P:=h
theorem ki7{P:Prop}(h:P:=by
 have HA:Aside (zs.any p=true):=List.any_eq_true.2 ⟨x,uP hx,hpx⟩
 go_wp2
 go_ret
 exact ⟨by rw [HA.o];rfl,H.o.2⟩):P:=h
theorem ki8{P:Prop}(h:P:=by
 rw [HW.o]
 go_enter Tryz.func162,Tryz.ntmps162
 go_wp2
 go_ret
 exact ⟨rfl,_,H.o,m7.refl _ _,fun g hg=>.inl hg⟩):P:=h
theorem kj2{P:Prop}(h:P:=by
 go_enter Tryz.func218,Tryz.ntmps218
 go_wp2
 go_ret
 exact ⟨rfl,(zh _ _).alloc zr _⟩):P:=h
theorem kj3{P:Prop}(h:P:=by
 unfold kV
 go_enter Tryz.func260,Tryz.ntmps260
 go_wp2
 go_ret
 exact ⟨rfl,zh w _⟩):P:=h
theorem kj6{P:Prop}(h:P:=by
 go_wp2_with (at_builtin;refine Lib.wpList_append_run _ rfl _ _ _ _ rfl _ _ rfl rfl _ _ ae ?_)
 go_ret
 exact iG.o):P:=h
theorem kj9{P:Prop}(h:P:=by
 obtain ⟨v2,ys,rfl,h⟩:=aJ
 have H2:Aside (X0 w (lX R) (.returned v2) w2):=gN
 go_wp2
 go_ret
 exact H2.o):P:=h
theorem kk4{P:Prop}(h:P:=by
 rintro e w2 ⟨rfl,hb⟩
 have hg2:=rL hg1 hb
 go_wp2
 go_ret
 exact ⟨rfl,hg2⟩):P:=h
theorem kl5{P:Prop}(h:P:=by
 go_wp2
 go_ret
 refine ⟨rfl,?_,m7.refl _ _⟩
 unfold BZ
 rw [HC.o]
 exact H.o):P:=h
theorem kl7{P:Prop}(h:P:=by
 intro fj cP
 gi_wp2
 go_end0
 exact ⟨⟨_,rfl⟩,.inl ⟨ps,hC.all hr G cP,jo⟩⟩):P:=h
theorem km1{P:Prop}(h:P:=by
 go_ret2
 exact ⟨rfl,(zh _ _).trans (hb.mono zr)⟩):P:=h
theorem km8{P:Prop}(h:P:=by
 have h1:(k:Int)<=(cap:Int):=zj
 have h0:(0:Int)<=(k:Int):=zj
 go_simp):P:=h
theorem kn1{P:Prop}(h:P:=by
 go_wp2
 go_ret
 exact ⟨rfl,H1.o.1⟩):P:=h
