import Derived.Test.YtehighgebbdenaaGreatDoorMacA
import Derived.Deep.Cut
import Derived.BigQuiet
import Derived.Shelf.Abstract
namespace Go.Proofs
theorem ka0{P:Prop}(h:P:=by
 clear hcode hln hlv
 go_enter Tryz.func55,Tryz.ntmps55
 go_wp2_with fail
 generalize w.alloc (.cells #[.int .i64 t,.int .i64 b,.int .i64 n,.int .u8 (k:Int),.int .i64 node,.int .i64 other,.string name,.string value] 38)=u at O0 B0 |-
 refine (cq _ _ _ s1 s2 s3 s4).mono ?_
 rintro e w1 ⟨rfl,hb⟩
 have O1:=O0.later hb
 have B1:Below w.heap.size w w1:=zj B0 hb
 clear hb O0 B0
 obtain ⟨x0,x1,x2,x3,x4,x5,x6,x7⟩:=id O1
 go_wp2_with fail
 refine (fK _ _ _ s1 s2 s3 s4).mono ?_
 rintro e w2 ⟨rfl,hb⟩
 have O2:=O1.later hb
 have B2:Below w.heap.size w w2:=zj B1 hb
 clear hb O1 B1 x0 x1 x2 x3 x4 x5 x6 x7
 obtain ⟨x0,x1,x2,x3,x4,x5,x6,x7⟩:=O2
 go_wp2_with (first
   | (go_at_call 130;refine (nw _ _ _ jp jp).mono ?_;rintro e w' ⟨rfl,rfl⟩)
   | (go_at_call 131;refine (oS _ _ _ jp jp).mono ?_;rintro e w' ⟨rfl,rfl⟩))
 go_ret
 exact ⟨rfl,B2⟩):P:=h
theorem ka1{P:Prop}(h:P:=by
 clear hcode hln hlv
 go_enter Tryz.func55,Tryz.ntmps55
 go_wp2_with fail
 generalize w.alloc (.cells #[.int .i64 t,.int .i64 b,.int .i64 n,.int .u8 (k:Int),.int .i64 node,.int .i64 other,.string name,.string value] 38)=u at O0 B0 |-
 refine (cq _ _ _ s1 s2 s3 s4).mono ?_
 rintro e w1 ⟨rfl,hb⟩
 have O1:=O0.later hb
 have B1:Below w.heap.size w w1:=zj B0 hb
 clear hb O0 B0
 obtain ⟨x0,x1,x2,x3,x4,x5,x6,x7⟩:=id O1
 go_wp2_with fail
 refine (fK _ _ _ s1 s2 s3 s4).mono ?_
 rintro e w2 ⟨rfl,hb⟩
 have O2:=O1.later hb
 have B2:Below w.heap.size w w2:=zj B1 hb
 clear hb O1 B1 x0 x1 x2 x3 x4 x5 x6 x7
 obtain ⟨x0,x1,x2,x3,x4,x5,x6,x7⟩:=O2
 go_wp2_with (first
  | (go_at_call 130;refine (nw _ _ _ jp jp).mono ?_;rintro e w' ⟨rfl,rfl⟩)
  | (go_at_call 131;refine (oS _ _ _ jp jp).mono ?_;rintro e w' ⟨rfl,rfl⟩))
 go_ret
 exact ⟨rfl,B2⟩):P:=h
theorem ka2{P:Prop}(h:P:=by
 clear hcode hln hlv
 go_enter Tryz.func55,Tryz.ntmps55
 go_wp2_with fail
 generalize w.alloc (.cells #[.int .i64 t,.int .i64 b,.int .i64 n,.int .u8 (k:Int),.int .i64 node,.int .i64 other,.string name,.string value] 38)=u at O0 B0 |-
 refine (cq _ _ _ s1 s2 s3 s4).mono ?_
 rintro e w1 ⟨rfl,hb⟩
 have O1:=O0.later hb
 have B1:Below w.heap.size w w1:=zj B0 hb
 clear hb O0 B0
 obtain ⟨x0,x1,x2,x3,x4,x5,x6,x7⟩:=id O1
 go_wp2_with fail
 refine (fK _ _ _ s1 s2 s3 s4).mono ?_
 rintro e w2 ⟨rfl,hb⟩
 have O2:=O1.later hb
 have B2:Below w.heap.size w w2:=zj B1 hb
 clear hb O1 B1 x0 x1 x2 x3 x4 x5 x6 x7
 obtain ⟨x0,x1,x2,x3,x4,x5,x6,x7⟩:=O2
 go_wp2_with (first
 | (go_at_call 130;refine (nw _ _ _ jp jp).mono ?_;rintro e w' ⟨rfl,rfl⟩)
 | (go_at_call 131;refine (oS _ _ _ jp jp).mono ?_;rintro e w' ⟨rfl,rfl⟩))
 go_ret
 exact ⟨rfl,B2⟩):P:=h
theorem ka3{P:Prop}(h:P:=by
 go_wp2_with (first
  | (go_at_call 220;first | (refine (oQ _ _ _ zo zo).mono ?_;rintro e w' ⟨rfl,rfl⟩) | (refine (sO _ _ _ zo).mono ?_;rintro e w' ⟨rfl,rfl⟩))
  | (go_at_call 221;refine (tZ _ _ _ jp jp).mono ?_;rintro e w' ⟨rfl,rfl⟩)
  | (go_at_call 222;refine (sm _ _ _ jp jp).mono ?_;rintro e w' ⟨rfl,rfl⟩))
 go_ret
 exact ⟨rfl,zh _ _⟩):P:=h
theorem ka4{P:Prop}(h:P:=by
 go_wp2_with (first
 | (go_at_call 220;first | (refine (oQ _ _ _ zo zo).mono ?_;rintro e w' ⟨rfl,rfl⟩) | (refine (sO _ _ _ zo).mono ?_;rintro e w' ⟨rfl,rfl⟩))
 | (go_at_call 221;refine (tZ _ _ _ jp jp).mono ?_;rintro e w' ⟨rfl,rfl⟩)
 | (go_at_call 222;refine (sm _ _ _ jp jp).mono ?_;rintro e w' ⟨rfl,rfl⟩))
 go_ret
 exact ⟨rfl,zh _ _⟩):P:=h
theorem ka5{P:Prop}(h:P:=by
 go_wp2_with (first
   | (go_at_call 220;first | (refine (oQ _ _ _ zo zo).mono ?_;rintro e w' ⟨rfl,rfl⟩) | (refine (sO _ _ _ zo).mono ?_;rintro e w' ⟨rfl,rfl⟩))
   | (go_at_call 221;refine (tZ _ _ _ jp jp).mono ?_;rintro e w' ⟨rfl,rfl⟩)
   | (go_at_call 222;refine (sm _ _ _ jp jp).mono ?_;rintro e w' ⟨rfl,rfl⟩))
 go_ret
 exact ⟨rfl,zh _ _⟩):P:=h
theorem ka7{P:Prop}(h:P:=by
 subst hW0 hW2
 go_enter Tryz.func135,Tryz.ntmps135
 go_upto_region 3 with (at_builtin;refine Lib.wpList_append_run _ rfl _ _ _ _ rfl _ _ rfl rfl _ _ r1 ?_)
 go_upto_region 4 with (at_builtin;refine Lib.wpList_append_run _ rfl _ _ _ _ rfl _ _ rfl rfl _ _ r3 ?_)
 go_wp2_with (at_builtin;refine Lib.wpList_append_run _ rfl _ _ _ _ rfl _ _ rfl rfl _ _ r4 ?_)
 go_end0
 exact ⟨⟨_,rfl⟩,_,HF'.o⟩):P:=h
theorem ka8{P:Prop}(h:P:=by
 clear hcode
 go_enter Tryz.func110,Tryz.ntmps110
 go_wp2_with fail
 generalize w.alloc (.cells #[.int .i64 t,.int .i64 b,.int .i64 n,.int .u8 (k:Int),.int .i64 node,.int .i64 other,.string name,.string value] 38)=u at O0 E0 B0 |-
 refine (BO _ _ _ s1 s2 s3 s4).mono ?_
 rintro e w1 ⟨rfl,hb⟩
 have O1:=O0.later hb
 have E1:=E0.later hb
 have B1:Below w.heap.size w w1:=zj B0 hb
 clear hb O0 E0 B0
 have z1:=vR w1 ⟨w.heap.size,0,none⟩ O1.c0
 obtain ⟨x0,x1,x2,x3,x4,x5,x6,x7⟩:=O1
 obtain ⟨y1,y2,y3,y4⟩:=id E1
 go_wp2
 go_ret
 exact ⟨rfl,B1⟩):P:=h
theorem ka9{P:Prop}(h:P:=by
 skip
 have b0:decide ((mid:Int)<(e:Int))=true:=zr
 have b1:decide ((e:Int)<(b:Int))=true:=zr
 have RU:Runs lt mid e b d2:=CUT.o.2.1.off zo Qd2.o.1
 have RUA:Aside (Runs lt mid e b d2):=RU
 clear RU
 go_wp2_with fail
 clear b0 b1
 have C:=IH0.o mid e b d2 w2 zo zo Sd2.o RUA.o zo zo zo zo
 unfold eK at C
 rw [hzd2] at C
 refine C.mono ?_
 clear C
 rintro ex w3 ⟨rfl,d3,⟨PMd3,SOd3⟩,S_d3⟩
 have hzd3:d3.size=d.size:=by rw [PMd3.1,hzd2]
 have Sd3:Aside (SWK enc k w0 blk off d3 w3):=S_d3
 have Qd3:Aside (PermIn mid b d2 d3/\SortedIn (slt lt) mid b d3):=⟨PMd3,SOd3⟩
 clear PMd3 SOd3 S_d3
 clear Sd2
 go_wp2
 go_end0
 have PP:=eP (lt:=lt) (a:=a) (c:=mid) (b:=b) zo zo zo CUT.o.2.2 Qd2.o.1 Qd2.o.2 Qd3.o.1 Qd3.o.2
 exact ⟨rfl,_,⟨permIn_trans _ _ _ _ _ PD1.o PP.1,PP.2⟩,Sd3.o⟩):P:=h
theorem kb0{P:Prop}(h:P:=by
 have hz:=hz16.o.symm
 rw [uB,decide_eq_true_eq] at hz
 have hle:xo<=((aK M).length:Int):=by
  have q:=hz.1
  rw [hzi.o,uB,uB,decide_eq_true_eq,decide_eq_true_eq] at q
  exact q.2.2
 obtain ⟨j,hj⟩:∃j:Nat,xo=(j:Int)+1:=⟨(xo - 1).toNat,zo⟩
 have hjl:j<(aK M).length:=zo
 obtain ⟨⟨la,lc,lg⟩,hla⟩:∃l,(aK M)[j]? =some l:=⟨_,vN hjl⟩
 have HBH:Aside (bh=la):=by
  show bh=la
  rw [hbh.o,<-hz16.o]
  unfold AD
  rw [if_pos rfl,show (xo - 1).toNat=j by omega,hla]
  rfl
 obtain ⟨g1,o1,e1,l0,l1,l2⟩:=HSN7.o.at hla
 subst e1
 have hw1:wrap64 (xo - 1)=(j:Int):=yl
 have hw2:xo - 1=(j:Int):=zo
 have wj:((j:Int)).toNat=j:=zo
 have pj:(0:Int)<=(j:Int):=zo
 have bj:(j:Int)<((aK M).length:Int):=zo
 have HJ:=Lib.hid hj
 clear hz hle hj hla hjl
 go_wp2
 go_meet
 exact ⟨by rw [HBH.o],rfl⟩):P:=h
theorem kb1{P:Prop}(h:P:=by
 skip
 have b0:decide ((mid:Int)<(e:Int))=true:=zr
 have b1:decide ((e:Int)<(b:Int))=true:=zr
 have RU:Runs lt mid e b d1:=CUT.o.2.1.off zo Qd1.o.1
 have RUA:Aside (Runs lt mid e b d1):=RU
 clear RU
 go_wp2_with fail
 clear b0 b1
 have C:=IH0.o mid e b d1 w1 zo zo S2.o RUA.o zo zo zo zo
 unfold eK at C
 rw [hzd1] at C
 refine C.mono ?_
 clear C
 rintro ex w3 ⟨rfl,d3,⟨PMd3,SOd3⟩,S_d3⟩
 have hzd3:d3.size=d.size:=by rw [PMd3.1,hzd1]
 have Sd3:Aside (SWK enc k w0 blk off d3 w3):=S_d3
 have Qd3:Aside (PermIn mid b d1 d3/\SortedIn (slt lt) mid b d3):=⟨PMd3,SOd3⟩
 clear PMd3 SOd3 S_d3
 clear S2
 go_wp2
 go_end0
 have PP:=eP (lt:=lt) (a:=a) (c:=mid) (b:=b) zo zo zo CUT.o.2.2 Qd1.o.1 Qd1.o.2 Qd3.o.1 Qd3.o.2
 exact ⟨rfl,_,⟨permIn_trans _ _ _ _ _ PD1.o PP.1,PP.2⟩,Sd3.o⟩):P:=h
theorem kb3{P:Prop}(h:P:=by
 have RU:Runs lt mid e b d1:=CUT.o.2.1.off zo Qd1.o.1
 have RUA:Aside (Runs lt mid e b d1):=RU
 clear RU
 go_wp2
 go_end0
 have Qd3:Aside (PermIn mid b d1 d1/\SortedIn (slt lt) mid b d1):=⟨permIn_refl _ _ _,Runs.sorted RUA.o zo⟩
 have Sd3:=S2
 have PP:=eP (lt:=lt) (a:=a) (c:=mid) (b:=b) zo zo zo CUT.o.2.2 Qd1.o.1 Qd1.o.2 Qd3.o.1 Qd3.o.2
 exact ⟨rfl,_,⟨permIn_trans _ _ _ _ _ PD1.o PP.1,PP.2⟩,Sd3.o⟩):P:=h
theorem kb4{P:Prop}(h:P:=by
 go_wp2
 go_ret
 exact ⟨rfl,rfl⟩):P:=h
theorem kb6{P:Prop}(h:P:=by
 have HE:Hid (R=false):=Lib.hid (by
      have:=HA.o
      rw [show gl s[k]=false by unfold gl;rw [decide_eq_false zo],Bool.false_and] at this
      exact this.symm)
 go_wp2
 go_ret
 exact ⟨by rw [HE.o];rfl,rfl⟩):P:=h
theorem kb7{P:Prop}(h:P:=by
 go_upto_region 11 with (at_builtin;refine Lib.wpList_append_run _ rfl _ _ _ _ rfl _ _ rfl rfl _ _ r1 ?_)
 go_upto_region 12 with (at_builtin;refine Lib.wpList_append_run _ rfl _ _ _ _ rfl _ _ rfl rfl _ _ r3 ?_)
 go_wp2_with (at_builtin;refine Lib.wpList_append_run _ rfl _ _ _ _ rfl _ _ rfl rfl _ _ r4 ?_)
 go_ret
 exact ⟨by rw [HN.o.2];rfl,HQ.o⟩):P:=h
theorem kb8{P:Prop}(h:P:=by
 clear hE h h1 hi hzb
 go_enter Tryz.func126,Tryz.ntmps126
 go_wp2_with fail
 refine hof.mono ?_
 rintro e w1 ⟨rfl,hb⟩
 have B2:Aside (∀o,Below w.heap.size w (w1.alloc o)):=fun o=>hb.alloc hb.size o
 have c2:∀o,(w1.alloc o).cell? ⟨4,0,none⟩=_:=fun o=>(HE.o.later (B2.o o)).c2
 clear hb hof
 go_wp2
 go_ret
 exact ⟨rfl,B2.o _⟩):P:=h
theorem kb9{P:Prop}(h:P:=by
 have hcl:=HKN.o v1_ HBV.o
 go_wp2_with fail
 refine hcl.mono ?_
 clear hcl
 rintro e w8 ⟨rfl,H8⟩
 have H9:Aside (Below v1_.heap.size v1_ w8):=zj HBV.o H8.o
 clear H8
 go_wp2
 go_meet
 exact ⟨zv,H9.o⟩):P:=h
theorem kc0{P:Prop}(h:P:=by
 go_wp2
 go_ret
 exact ⟨rfl,zh _ _⟩):P:=h
theorem kc1{P:Prop}(h:P:=by
 have hne:∀k,c k=0\/c k=1\/c k=3->¬(k=p\/some k=vl.ownBlock):=fun k e e'=>by
  have:c k=cR nd:=e'.elim (fun q=>by rw [q];exact HL.o.2.2.2.1.1) (fun q=>HL.o.2.2.2.1.2 k q.symm)
  unfold cR at this
  omega
 obtain ⟨v3,q1,q2,q3⟩:=fm hbX hact
 refine hK _ _ ⟨(q2.block P hP1 (hne P (.inl H0.o.2.2.2.2.2.2.2.2))).trans H1.o.2.1,H1.o.1.cell.same (q2.block br H1.o.1.cell.lt (hne br (.inr (.inl H1.o.1.hue)))),q2.block bx hbl (hne bx (.inr (.inr HL.o.2.2.2.2.2.2.2.1)))⟩ ?_
 clear hK K
 refine qn ?_
 refine wpAnyH_done zq ?_ _
 go_wp2
 go_end0
 exact ⟨⟨_,rfl⟩,HS.o⟩):P:=h
theorem kc2{P:Prop}(h:P:=by
 have hcode:opE t b n k node other name.data.toList value.data.toList=2:=xl
 rw [hcode]
 clear hcode hln hlv
 go_enter Tryz.func55,Tryz.ntmps55
 go_wp2_with fail
 generalize w.alloc (.cells #[.int .i64 t,.int .i64 b,.int .i64 n,.int .u8 (k:Int),.int .i64 node,.int .i64 other,.string name,.string value] 38)=u at O0 B0 |-
 refine (cq _ _ _ s1 s2 s3 s4).mono ?_
 rintro e w1 ⟨rfl,hb⟩
 have O1:=O0.later hb
 have B1:Below w.heap.size w w1:=zj B0 hb
 clear hb O0 B0
 obtain ⟨x0,x1,x2,x3,x4,x5,x6,x7⟩:=id O1
 go_wp2
 go_ret
 exact ⟨rfl,B1⟩):P:=h
theorem kc3{P:Prop}(h:P:=by
 rw [dS rfl]
 unfold aD aV
 go_simp):P:=h
theorem kc5{P:Prop}(h:P:=by
 refine hK _ _ hHeld ?_
 clear hK K
 refine qn ?_
 refine tk 5 hHeld ?_
 refine tk 6 hHeld ?_
 refine wpAnyH_done zq ?_ _
 refine qn ?_
 go_wp2
 go_meet
 exact ⟨true,rfl,⟨(fun q=>absurd q zu),(vP _ U2).drew⟩⟩):P:=h
theorem kc6{P:Prop}(h:P:=by
 have e1:((s[k].toNat:Int)==45)=false:=zr
 have e2:((s[k].toNat:Int)==46)=false:=zr
 have HE:Hid (R=false):=Lib.hid vF
 clear hb h
 go_wp2
 go_ret
 exact ⟨by rw [<-HQ.o,HE.o];rfl,rfl⟩):P:=h
theorem kc7{P:Prop}(h:P:=by
 rintro e w1 ⟨rfl,hb⟩
 obtain ⟨hc,hf⟩:=DB hb
 go_wp2
 have c0:w1.cell? ⟨w.heap.size,0,none⟩=some (.int .i64 0):=jQ
 have c1:w1.cell? ⟨w.heap.size,1,none⟩=some (.int .i64 0):=jQ
 refine bodyPost_ret (v:=.tuple #[.agg #[.int .i64 0,.int .i64 0],.iface u x]) vJ rfl ⟨rfl,?_⟩
 exact ((((zh _ _).alloc zv _).trans (hb.mono zr)).setCell zv _).setCell zv _):P:=h
theorem kc8{P:Prop}(h:P:=by
 unfold kV at hcall
 clear hz hz'
 go_wp2_with fail
 refine hcall.mono ?_
 clear hcall
 rintro e w2 ⟨rfl,hb2⟩
 have B2:Aside (Below w.heap.size w w2):=zj H1.o.1 hb2
 clear hb2
 go_wp2
 go_ret
 exact ⟨rfl,B2.o⟩):P:=h
theorem kc9{P:Prop}(h:P:=by
 rintro e w2 ⟨rfl,hb⟩
 have B2:Below w.heap.size w w2:=zj B1 hb
 clear hb x0 x1 x2 x3 x4 x5 x6 x7 y1 y2 y3 y4 B1 E1
 go_wp2
 go_ret
 exact ⟨rfl,B2⟩):P:=h
theorem kd1{P:Prop}(h:P:=by
 have RU:Runs lt mid e b d2:=CUT.o.2.1.off zo Qd2.o.1
 have RUA:Aside (Runs lt mid e b d2):=RU
 clear RU
 go_wp2
 go_end0
 have Qd3:Aside (PermIn mid b d2 d2/\SortedIn (slt lt) mid b d2):=⟨permIn_refl _ _ _,Runs.sorted RUA.o zo⟩
 have Sd3:=Sd2
 have PP:=eP (lt:=lt) (a:=a) (c:=mid) (b:=b) zo zo zo CUT.o.2.2 Qd2.o.1 Qd2.o.2 Qd3.o.1 Qd3.o.2
 exact ⟨rfl,_,⟨permIn_trans _ _ _ _ _ PD1.o PP.1,PP.2⟩,Sd3.o⟩):P:=h
theorem kd4{P:Prop}(h:P:=by
 refine qn ?_
 refine aF (i:=17) zq rfl (fun K hK=> ?_)
 go_simp
 refine hK _ _ (.inr ⟨rfl,zu⟩) ?_
 clear hK K
 refine bu zq ?_ _
 have FIN:Aside (PutOk base w p v M (w5.setCell ⟨p,0,none⟩ (.slice (some ⟨g',0,none⟩) (L.length+1) cap'))):=Jc HT.o TX.o.2 HM.o.1 HM.o.2.1 HM.o.2.2.1 HM.o.2.2.2.1 HM.o.2.2.2.2.1 H5.o
 clear H5 u1 u2
 go_wp2
 go_ret
 exact ⟨rfl,FIN.o⟩):P:=h
theorem kd8{P:Prop}(h:P:=by
 have hd:decide ((k:Int)<(s.size:Int))=false:=zr
 have HE:Hid (R=true):=Lib.hid vB
 go_wp2
 go_ret
 exact ⟨by rw [HE.o];rfl,rfl⟩):P:=h
theorem ke1{P:Prop}(h:P:=by
 rw [dS rfl]
 unfold aD aV eV
 go_simp):P:=h
theorem ke2{P:Prop}(h:P:=by
 clear h0 h1
 go_wp2
 go_meet
 exact ⟨by rw [hzi.o,e0,e1];rfl,hb3.o⟩):P:=h
theorem ke5{P:Prop}(h:P:=by
 rw [dS rfl]
 unfold aD
 go_simp):P:=h
theorem ke7{P:Prop}(h:P:=by
 rw [dS rfl]
 go_simp):P:=h
theorem kf3{P:Prop}(h:P:=by
 go_ret
 exact ⟨rfl,0,_,jA⟩):P:=h
theorem kf4{P:Prop}(h:P:=by
 go_wp2
 go_ret
 exact ⟨rfl,(zh _ _).alloc zv _⟩):P:=h
theorem kf7{P:Prop}(h:P:=by
 go_wp2_with fail
 rw [<-hU]
 clear hU
 refine hcall.mono ?_
 clear hcall
 rintro e w1 ⟨rfl,hb1⟩
 have B1:Aside (Below w.heap.size w w1):=zj HB.o hb1
 clear hb1 HB
 go_wp2
 go_ret
 exact ⟨by rw [HZ.o];simp [BEq.beq],B1.o.alloc B1.o.size _⟩):P:=h
theorem kf8{P:Prop}(h:P:=by
 refine hK _ _ ⟨(q3.block P GX.o.2.1.lt (hne P (.inl GX.o.2.2.2.2.2.2.2.2))).trans GX.o.2.1,GX.o.1.same (q3.block br GX.o.1.lt (hne br (.inr GX.o.2.2.1)))⟩ ?_
 clear hK K
 refine qn ?_
 refine wpAnyH_done zq ?_ _
 go_wp2
 go_end0
 exact ⟨⟨_,rfl⟩,HS.o⟩):P:=h
theorem kf9{P:Prop}(h:P:=by
 have d1:decide ((i:Int)<(S.length:Int))=false:=zr
 have d1n:decide (i<S.length)=false:=zr
 have HK:Aside (z=false):=by
  show z=false
  rw [hz.o]
  have:=A.o.2
  rwa [uc zo] at this
 go_wp2
 go_ret
 exact ⟨by rw [HK.o];rfl,A.o.1⟩):P:=h
theorem kg1{P:Prop}(h:P:=by
 go_enter Tryz.func103,Tryz.ntmps103
 go_wp2_with (go_at_call 168;refine (Ed _ _).mono ?_;rintro e w' ⟨rfl,rfl⟩)
 go_ret
 exact ⟨rfl,rfl⟩):P:=h
theorem kg3{P:Prop}(h:P:=by
 go_wp2_with fail
 rw [<-hU]
 clear hU
 refine hcall.mono ?_
 clear hcall
 rintro e w1 ⟨rfl,hb1⟩
 have B1:Aside (Below w.heap.size w w1):=zj HB.o hb1
 clear hb1 HB
 go_wp2
 go_ret
 exact ⟨by rw [HZ.o];simp [hk],B1.o.alloc B1.o.size _⟩):P:=h
theorem kg4{P:Prop}(h:P:=by
 go_enter Tryz.func103,Tryz.ntmps103
 go_wp2_with (go_at_call 168;refine (MZ _ _).mono ?_;rintro e w' ⟨rfl,rfl⟩)
 go_ret
 exact ⟨rfl,rfl⟩):P:=h
theorem kg5{P:Prop}(h:P:=by
 go_enter Tryz.func148,Tryz.ntmps148
 go_wp2_with (go_at_call 205;refine (MY _ _).mono ?_;rintro e w' ⟨rfl,rfl⟩)
 go_ret
 exact ⟨rfl,rfl⟩):P:=h
theorem kg7{P:Prop}(h:P:=by
 go_enter Tryz.func123,Tryz.ntmps123
 go_wp2_with (go_at_call 176;refine (BO t b _ h1 h2 h3 h4).mono ?_;rintro e w1 ⟨rfl,hb⟩;have B1:Aside (Below w.heap.size w w1):=(zh w _).trans (hb.mono zv);clear hb)
 go_ret
 exact ⟨rfl,B1.o⟩):P:=h
theorem kg8{P:Prop}(h:P:=by
 have HK:Aside (z=true):=by
  show z=true
  rw [hz.o]
  exact HT.1 (decide_eq_true ⟨hk,hd,by unfold idO;dsimp only;omega⟩)
 clear hk hd hi2 HT
 go_wp2
 go_ret
 exact ⟨by rw [HK.o];rfl,HB.o⟩):P:=h
theorem kg9{P:Prop}(h:P:=by
 go_wp2_with fail
 rw [<-hU]
 clear hU
 refine hcall.mono ?_
 clear hcall
 rintro e w1 ⟨rfl,hb1⟩
 have B1:Aside (Below w.heap.size w w1):=zj HB.o hb1
 clear hb1 HB
 go_wp2
 go_ret
 exact ⟨rfl,B1.o.alloc B1.o.size _⟩):P:=h
theorem kh2{P:Prop}(h:P:=by
 have e0:decide (0<=xo)=false:=decide_eq_false h0
 clear h0
 go_wp2
 go_meet
 exact ⟨by rw [hzi.o,e0];rfl,hb3.o⟩):P:=h
theorem kh3{P:Prop}(h:P:=by
 have hltz:decide ((k:Int)<(zs.length:Int))=false:=zr
 go_wp2
 go_ret
 refine ⟨_,rfl,.inl ⟨rfl,fun l hl=> ?_⟩,A.o.1⟩
 obtain ⟨j,hj,rfl⟩:=uN hl
 exact A.o.2 j _ zo (vN hj)):P:=h
theorem kh4{P:Prop}(h:P:=by
 clear hby hlo
 go_wp2_with fail
 refine hcd.mono ?_
 clear hcd
 rintro e w3 ⟨rfl,hb3⟩
 have HB3:Aside (Below w.heap.size w w3):=zj HB2.o hb3
 clear hb3
 go_wp2
 go_ret
 exact ⟨rfl,HB3.o⟩):P:=h
theorem kh6{P:Prop}(h:P:=by
 have hkc:dY k=(j:Int)+1:=by unfold dY;rw [if_pos zo,hjk]
 have HK:Hid (dY k=(j:Int)+1):=hkc
 rw [decide_eq_true hjk]
 clear hkc hjk
 go_wp2
 go_ret2
 exact ⟨by rw [HK.o];rfl,B3⟩):P:=h
theorem kh9{P:Prop}(h:P:=by
 rw [hq] at hcall
 have HQ:=Lib.hid hq
 clear hq
 go_wp2_with (go_at_fn g;refine hcall.mono ?_;rintro e w' ⟨rfl,hb'⟩)
 go_ret
 exact ⟨_,rfl,.inr ⟨k,_,rfl,hl.o,HQ.o,A.o.2⟩,hb'⟩):P:=h
theorem ki0{P:Prop}(h:P:=by
 have hd:decide ((j:Int)<12)=false:=zr
 have hkc:dY k= -1:=by unfold dY;rw [if_neg zo]
 have HK:Hid (dY k= -1):=hkc
 clear hkc
 go_wp2
 go_ret2
 exact ⟨by rw [HK.o];rfl,B3⟩):P:=h
theorem ki1{P:Prop}(h:P:=by
 go_wp2_with fail
 go_quiet (fail)
 go_wp2
 go_meet
 exact ⟨k,rfl,hkl,(oC (a,s) L k hkl A.o.1 (fun m e=>by rw [hl.o] at e;cases e;exact HK.o)).symm,dU A.o.2 _⟩):P:=h
theorem ki2{P:Prop}(h:P:=by
 go_quiet (fail)
 go_wp2
 go_meet
 exact ⟨false,rfl,⟨fun e=>yL,fun ⟨o,e⟩=>by rw [hl.o] at e;exact absurd (Prod.mk.inj (Option.some.inj e)).1 HK.o⟩,dU A.o.2 _⟩):P:=h
theorem kj1{P:Prop}(h:P:=by
 clear h0
 go_wp2
 go_meet
 exact ⟨by rw [e0];rfl,rfl⟩):P:=h
theorem kj2{P:Prop}(h:P:=by
 clear hc
 go_enter Tryz.func8,Tryz.ntmps8
 go_wp2_with fail
 refine (AV _).mono ?_
 rintro e w1 ⟨rfl,hw⟩
 subst hw
 go_wp2
 go_ret
 exact ⟨by rw [hb];rfl,rfl⟩):P:=h
theorem kj3{P:Prop}(h:P:=by
 go_enter Tryz.func78,Tryz.ntmps78
 go_wp2_with fail
 refine (Dt u zo w).mono ?_
 rintro e w1 ⟨rfl,hb⟩
 go_wp2
 go_ret
 exact ⟨by rw [HE.o];rfl,hb⟩):P:=h
theorem kj4{P:Prop}(h:P:=by
 clear hc
 go_enter Tryz.func8,Tryz.ntmps8
 go_wp2_with fail
 refine (rV w h k hk).mono ?_
 rintro e w1 ⟨rfl,hw⟩
 go_wp2
 go_ret
 exact ⟨by rw [hb];rfl,hw⟩):P:=h
theorem kj6{P:Prop}(h:P:=by
 refine wpAnyH_done zq ?_ _
 refine qn ?_
 clear eZ ZX hbX ZX0 hbX0
 go_wp2
 go_meet
 exact ⟨QQ,rfl,rfl,HZ.o⟩):P:=h
theorem kk1{P:Prop}(h:P:=by
 go_wp2_with fail
 refine hc.mono ?_
 rintro e w1 ⟨rfl,hw1⟩
 subst hw1
 go_wp2
 go_ret
 exact ⟨by rw [HZ.o];rfl,rfl⟩):P:=h
theorem kk2{P:Prop}(h:P:=by
 have HP:Aside (LaidIn base w p v L w2):=sF H1.o.2.2.1 (zj H1.o.2.1 hb2)
 clear hb2
 go_wp2
 go_ret2
 exact ⟨rfl,HP.o⟩):P:=h
theorem kk4{P:Prop}(h:P:=by
 refine wpAnyH_done zq ?_ _
 refine qn ?_
 clear eZ ZX hbX
 go_wp2
 go_meet
 exact ⟨QQ,rfl,rfl,HZ.o⟩):P:=h
theorem kk9{P:Prop}(h:P:=by
 rw [Av rfl]
 go_simp):P:=h
theorem kl3{P:Prop}(h:P:=by
 have HB0:Aside (bh=0):=by
  show bh=0
  rw [hbh.o,<-hz16.o]
  rfl
 go_wp2
 go_meet
 exact ⟨by rw [HB0.o],rfl⟩):P:=h
theorem kl5{P:Prop}(h:P:=by
 unfold kV
 clear hb hz
 go_enter Tryz.func104,Tryz.ntmps104
 go_wp2
 go_ret
 exact ⟨rfl,zh w _⟩):P:=h
theorem kl6{P:Prop}(h:P:=by
 rintro e w2 ⟨rfl,hb⟩
 have hg2:=dw hg1 hb
 clear hb e0 e1 e2 e3 hg1
 go_wp2
 go_ret
 exact ⟨rfl,hg2⟩):P:=h
theorem km0{P:Prop}(h:P:=by
 go_wp2
 go_meet
 exact ⟨zv,H9.o⟩):P:=h
theorem km1{P:Prop}(h:P:=by
 go_enter Tryz.func45,Tryz.ntmps45
 go_wp2
 go_quiet (fail)
 go_wp2
 go_ret2
 exact ⟨rfl,below_drewN (vP _ _) _⟩):P:=h
theorem km5{P:Prop}(h:P:=by
 go_wp2_with (at_builtin;refine Lib.wpList_append_run _ rfl _ _ _ _ rfl _ _ rfl rfl _ _ hrun ?_)
 go_ret
 exact hfin.o):P:=h
theorem kn4{P:Prop}(h:P:=by
 go_wp2
 go_meet
 exact ⟨by rw [hzi.o];rfl,hb3.o⟩):P:=h
theorem kn7{P:Prop}(h:P:=by
 clear hk5 hk0
 go_wp2
 go_meet
 exact ⟨by rw [e5,e0];simp,rfl⟩):P:=h
theorem kn8{P:Prop}(h:P:=by
 go_enter Tryz.func11,Tryz.ntmps11
 go_wp2
 go_ret
 exact ⟨_,rfl,.inl ⟨rfl,rfl⟩,vP _ _⟩):P:=h
theorem ko0{P:Prop}(h:P:=by
 go_wp2
 go_ret
 exact ⟨by rw [HE.o];rfl,rfl⟩):P:=h
theorem ko7{P:Prop}(h:P:=by
 intro hc0 hl0
 gi_wp2
 go_end0
 exact ⟨⟨_,rfl⟩,.inl ⟨ps,hC.all hr G hl0,hJs⟩⟩):P:=h
theorem kp9{P:Prop}(h:P:=by
 go_wp2
 go_ret
 exact ⟨rfl,vP _ _⟩):P:=h
theorem kq2{P:Prop}(h:P:=by
 go_wp2
 go_ret
 exact ⟨.inl rfl,rfl⟩):P:=h
theorem kq3{P:Prop}(h:P:=by
 go_wp2
 go_ret
 exact ⟨rfl,(HIN.o _ HW4.o.below).2.2.1⟩):P:=h
theorem kr2{P:Prop}(h:P:=by
 go_wp2
 go_ret
 exact ⟨rfl,H1.o.1⟩):P:=h
theorem kt0{P:Prop}(h:P:=by
 go_wp2
 go_meet
 exact ⟨zv,rfl⟩):P:=h
