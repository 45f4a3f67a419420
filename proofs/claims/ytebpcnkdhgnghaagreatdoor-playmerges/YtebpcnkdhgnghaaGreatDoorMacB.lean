import Derived.Test.YtebpcnkdhgnghaaGreatDoorMacA
import Derived.Deep.Cut
import Derived.BigQuiet
import Derived.Shelf.Abstract
set_option linter.unusedSimpArgs false
set_option linter.unusedVariables false
namespace Go.Proofs
theorem ka0{P:Prop}(h:P:=by
 clear hcode hln hlv
 go_enter Tryz.func25,Tryz.ntmps25
 go_wp2_with fail
 generalize w.alloc (.cells #[.int .i64 t,.int .i64 b,.int .i64 n,.int .u8 (k:Int),.int .i64 node,.int .i64 other,.string name,.string value] 61)=u at O0 B0 |-
 refine (cr _ _ _ s1 s2 s3 s4).mono ?_
 rintro e w1 ⟨rfl,hb⟩
 have O1:=O0.later hb
 have B1:Below w.heap.size w w1:=zi B0 hb
 clear hb O0 B0
 obtain ⟨x0,x1,x2,x3,x4,x5,x6,x7⟩:=id O1
 go_wp2_with fail
 refine (fC _ _ _ s1 s2 s3 s4).mono ?_
 rintro e w2 ⟨rfl,hb⟩
 have O2:=O1.later hb
 have B2:Below w.heap.size w w2:=zi B1 hb
 clear hb O1 B1 x0 x1 x2 x3 x4 x5 x6 x7
 obtain ⟨x0,x1,x2,x3,x4,x5,x6,x7⟩:=O2
 go_wp2_with (first
   | (go_at_call 63;refine (ox _ _ _ yS yS).mono ?_;rintro e w' ⟨rfl,rfl⟩)
   | (go_at_call 64;refine (oZ _ _ _ yS yS).mono ?_;rintro e w' ⟨rfl,rfl⟩))
 go_ret
 exact ⟨rfl,B2⟩):P:=h
theorem ka1{P:Prop}(h:P:=by
 clear hcode hln hlv
 go_enter Tryz.func25,Tryz.ntmps25
 go_wp2_with fail
 generalize w.alloc (.cells #[.int .i64 t,.int .i64 b,.int .i64 n,.int .u8 (k:Int),.int .i64 node,.int .i64 other,.string name,.string value] 61)=u at O0 B0 |-
 refine (cr _ _ _ s1 s2 s3 s4).mono ?_
 rintro e w1 ⟨rfl,hb⟩
 have O1:=O0.later hb
 have B1:Below w.heap.size w w1:=zi B0 hb
 clear hb O0 B0
 obtain ⟨x0,x1,x2,x3,x4,x5,x6,x7⟩:=id O1
 go_wp2_with fail
 refine (fC _ _ _ s1 s2 s3 s4).mono ?_
 rintro e w2 ⟨rfl,hb⟩
 have O2:=O1.later hb
 have B2:Below w.heap.size w w2:=zi B1 hb
 clear hb O1 B1 x0 x1 x2 x3 x4 x5 x6 x7
 obtain ⟨x0,x1,x2,x3,x4,x5,x6,x7⟩:=O2
 go_wp2_with (first
  | (go_at_call 63;refine (ox _ _ _ yS yS).mono ?_;rintro e w' ⟨rfl,rfl⟩)
  | (go_at_call 64;refine (oZ _ _ _ yS yS).mono ?_;rintro e w' ⟨rfl,rfl⟩))
 go_ret
 exact ⟨rfl,B2⟩):P:=h
theorem ka2{P:Prop}(h:P:=by
 clear hcode hln hlv
 go_enter Tryz.func25,Tryz.ntmps25
 go_wp2_with fail
 generalize w.alloc (.cells #[.int .i64 t,.int .i64 b,.int .i64 n,.int .u8 (k:Int),.int .i64 node,.int .i64 other,.string name,.string value] 61)=u at O0 B0 |-
 refine (cr _ _ _ s1 s2 s3 s4).mono ?_
 rintro e w1 ⟨rfl,hb⟩
 have O1:=O0.later hb
 have B1:Below w.heap.size w w1:=zi B0 hb
 clear hb O0 B0
 obtain ⟨x0,x1,x2,x3,x4,x5,x6,x7⟩:=id O1
 go_wp2_with fail
 refine (fC _ _ _ s1 s2 s3 s4).mono ?_
 rintro e w2 ⟨rfl,hb⟩
 have O2:=O1.later hb
 have B2:Below w.heap.size w w2:=zi B1 hb
 clear hb O1 B1 x0 x1 x2 x3 x4 x5 x6 x7
 obtain ⟨x0,x1,x2,x3,x4,x5,x6,x7⟩:=O2
 go_wp2_with (first
 | (go_at_call 63;refine (ox _ _ _ yS yS).mono ?_;rintro e w' ⟨rfl,rfl⟩)
 | (go_at_call 64;refine (oZ _ _ _ yS yS).mono ?_;rintro e w' ⟨rfl,rfl⟩))
 go_ret
 exact ⟨rfl,B2⟩):P:=h
theorem ka3{P:Prop}(h:P:=by
 go_wp2_with (first
  | (go_at_call 250;first | (refine (oB _ _ _ zj zj).mono ?_;rintro e w' ⟨rfl,rfl⟩) | (refine (wt _ _ _ zj).mono ?_;rintro e w' ⟨rfl,rfl⟩))
  | (go_at_call 251;refine (ww _ _ _ yS yS).mono ?_;rintro e w' ⟨rfl,rfl⟩)
  | (go_at_call 252;refine (wO _ _ _ yS yS).mono ?_;rintro e w' ⟨rfl,rfl⟩))
 go_ret
 exact ⟨rfl,zh _ _⟩):P:=h
theorem ka4{P:Prop}(h:P:=by
 go_wp2_with (first
 | (go_at_call 250;first | (refine (oB _ _ _ zj zj).mono ?_;rintro e w' ⟨rfl,rfl⟩) | (refine (wt _ _ _ zj).mono ?_;rintro e w' ⟨rfl,rfl⟩))
 | (go_at_call 251;refine (ww _ _ _ yS yS).mono ?_;rintro e w' ⟨rfl,rfl⟩)
 | (go_at_call 252;refine (wO _ _ _ yS yS).mono ?_;rintro e w' ⟨rfl,rfl⟩))
 go_ret
 exact ⟨rfl,zh _ _⟩):P:=h
theorem ka5{P:Prop}(h:P:=by
 go_wp2_with (first
   | (go_at_call 250;first | (refine (oB _ _ _ zj zj).mono ?_;rintro e w' ⟨rfl,rfl⟩) | (refine (wt _ _ _ zj).mono ?_;rintro e w' ⟨rfl,rfl⟩))
   | (go_at_call 251;refine (ww _ _ _ yS yS).mono ?_;rintro e w' ⟨rfl,rfl⟩)
   | (go_at_call 252;refine (wO _ _ _ yS yS).mono ?_;rintro e w' ⟨rfl,rfl⟩))
 go_ret
 exact ⟨rfl,zh _ _⟩):P:=h
theorem ka6{P:Prop}(h:P:=by
 refine hK _ _ (by first | (rw [<-hW] at SX;exact SX)) ?_
 clear hK kQ
 refine qn ?_
 refine aW (i:=15) zo rfl (fun kQ hK=> ?_)
 go_simp
 refine hK _ _ (by rw [<-hW] at SX;exact SX) ?_
 clear hK kQ
 refine wpAnyH_done zo ?_ _
 refine qn ?_
 clear z0 z1 z2 z3 z4 z5 z6 z7 zf
 go_wp2
 go_ret
 have h5:=H5.o
 have HX1:=HXX.o.1
 have HX2:=HXX.o.2
 rw [hX.o] at HX1 HX2
 obtain ⟨y0,cd0,⟨T0,hT0,hnx⟩,_,hdx⟩:=h5.2.2.2.2.2.2.1 r rfl hr
 refine ⟨cd5,G5,K5,D5,st5,N5,by rw [<-her.o];rfl,⟨HX1,HX2,h5.2.2.1,h5.2.2.2.1⟩,Me hnx hdx,.inl ⟨hk8,h5.2.2.2.2.2.2.2.2,qs,x,y,T0,y0,cd0,_,HNQ.o.2.1,hx.o,hy.o,hT0,hnx,hdx⟩⟩):P:=h
theorem ka7{P:Prop}(h:P:=by
 subst hW0 hW2
 go_enter Tryz.func148,Tryz.ntmps148
 go_upto_region 3 with (at_builtin;refine Lib.wpList_append_run _ rfl _ _ _ _ rfl _ _ rfl rfl _ _ r1 ?_)
 go_upto_region 4 with (at_builtin;refine Lib.wpList_append_run _ rfl _ _ _ _ rfl _ _ rfl rfl _ _ r3 ?_)
 go_wp2_with (at_builtin;refine Lib.wpList_append_run _ rfl _ _ _ _ rfl _ _ rfl rfl _ _ r4 ?_)
 go_end0
 exact ⟨⟨_,rfl⟩,_,HF'.o⟩):P:=h
theorem ka8{P:Prop}(h:P:=by
 clear hcode
 go_enter Tryz.func123,Tryz.ntmps123
 go_wp2_with fail
 generalize w.alloc (.cells #[.int .i64 t,.int .i64 b,.int .i64 n,.int .u8 (k:Int),.int .i64 node,.int .i64 other,.string name,.string value] 61)=u at O0 E0 B0 |-
 refine (Bt _ _ _ s1 s2 s3 s4).mono ?_
 rintro e w1 ⟨rfl,hb⟩
 have O1:=O0.later hb
 have E1:=E0.later hb
 have B1:Below w.heap.size w w1:=zi B0 hb
 clear hb O0 E0 B0
 have z1:=vK w1 ⟨w.heap.size,0,none⟩ O1.c0
 obtain ⟨x0,x1,x2,x3,x4,x5,x6,x7⟩:=O1
 obtain ⟨y1,y2,y3,y4⟩:=id E1
 go_wp2
 go_ret
 exact ⟨rfl,B1⟩):P:=h
theorem ka9{P:Prop}(h:P:=by
 skip
 have b0:decide ((mid:Int)<(e:Int))=true:=zq
 have b1:decide ((e:Int)<(b:Int))=true:=zq
 have RU:Runs lt mid e b d2:=CUT.o.2.1.off zj Qd2.o.1
 have RUA:Aside (Runs lt mid e b d2):=RU
 clear RU
 go_wp2_with fail
 clear b0 b1
 have C:=IH0.o mid e b d2 w2 zj zj Sd2.o RUA.o zj zj zj zj
 unfold eN at C
 rw [hzd2] at C
 refine C.mono ?_
 clear C
 rintro ex w3 ⟨rfl,d3,⟨PMd3,SOd3⟩,S_d3⟩
 have hzd3:d3.size=d.size:=by rw [PMd3.1,hzd2]
 have Sd3:Aside (SWK enc k w0 blk off d3 w3):=S_d3
 have Qd3:Aside (PermIn mid b d2 d3/\SortedIn (slt lt) mid b d3):=⟨PMd3,SOd3⟩
 clear PMd3 SOd3 S_d3
 clear Sd2
 go_wp2
 go_end0
 have PP:=eX (lt:=lt) (a:=a) (c:=mid) (b:=b) zj zj zj CUT.o.2.2 Qd2.o.1 Qd2.o.2 Qd3.o.1 Qd3.o.2
 exact ⟨rfl,_,⟨permIn_trans _ _ _ _ _ PD1.o PP.1,PP.2⟩,Sd3.o⟩):P:=h
theorem kb0{P:Prop}(h:P:=by
 skip
 have b0:decide ((mid:Int)<(e:Int))=true:=zq
 have b1:decide ((e:Int)<(b:Int))=true:=zq
 have RU:Runs lt mid e b d1:=CUT.o.2.1.off zj Qd1.o.1
 have RUA:Aside (Runs lt mid e b d1):=RU
 clear RU
 go_wp2_with fail
 clear b0 b1
 have C:=IH0.o mid e b d1 w1 zj zj S2.o RUA.o zj zj zj zj
 unfold eN at C
 rw [hzd1] at C
 refine C.mono ?_
 clear C
 rintro ex w3 ⟨rfl,d3,⟨PMd3,SOd3⟩,S_d3⟩
 have hzd3:d3.size=d.size:=by rw [PMd3.1,hzd1]
 have Sd3:Aside (SWK enc k w0 blk off d3 w3):=S_d3
 have Qd3:Aside (PermIn mid b d1 d3/\SortedIn (slt lt) mid b d3):=⟨PMd3,SOd3⟩
 clear PMd3 SOd3 S_d3
 clear S2
 go_wp2
 go_end0
 have PP:=eX (lt:=lt) (a:=a) (c:=mid) (b:=b) zj zj zj CUT.o.2.2 Qd1.o.1 Qd1.o.2 Qd3.o.1 Qd3.o.2
 exact ⟨rfl,_,⟨permIn_trans _ _ _ _ _ PD1.o PP.1,PP.2⟩,Sd3.o⟩):P:=h
theorem kb1{P:Prop}(h:P:=by
 have RU:Runs lt mid e b d1:=CUT.o.2.1.off zj Qd1.o.1
 have RUA:Aside (Runs lt mid e b d1):=RU
 clear RU
 go_wp2
 go_end0
 have Qd3:Aside (PermIn mid b d1 d1/\SortedIn (slt lt) mid b d1):=⟨permIn_refl _ _ _,Runs.sorted RUA.o zj⟩
 have Sd3:=S2
 have PP:=eX (lt:=lt) (a:=a) (c:=mid) (b:=b) zj zj zj CUT.o.2.2 Qd1.o.1 Qd1.o.2 Qd3.o.1 Qd3.o.2
 exact ⟨rfl,_,⟨permIn_trans _ _ _ _ _ PD1.o PP.1,PP.2⟩,Sd3.o⟩):P:=h
theorem kb3{P:Prop}(h:P:=by
 go_wp2
 go_ret
 exact ⟨rfl,rfl⟩):P:=h
theorem kb4{P:Prop}(h:P:=by
 have HE:Hid (R=false):=Lib.hid (by
      have:=HA.o
      rw [show gw s[k]=false by unfold gw;rw [decide_eq_false zj],Bool.false_and] at this
      exact this.symm)
 go_wp2
 go_ret
 exact ⟨by rw [HE.o];rfl,rfl⟩):P:=h
theorem kb5{P:Prop}(h:P:=by
 go_upto_region 11 with (at_builtin;refine Lib.wpList_append_run _ rfl _ _ _ _ rfl _ _ rfl rfl _ _ r1 ?_)
 go_upto_region 12 with (at_builtin;refine Lib.wpList_append_run _ rfl _ _ _ _ rfl _ _ rfl rfl _ _ r3 ?_)
 go_wp2_with (at_builtin;refine Lib.wpList_append_run _ rfl _ _ _ _ rfl _ _ rfl rfl _ _ r4 ?_)
 go_ret
 exact ⟨by rw [HN.o.2];rfl,HQ.o⟩):P:=h
theorem kb6{P:Prop}(h:P:=by
 clear hE h h1 hi hzb
 go_enter Tryz.func138,Tryz.ntmps138
 go_wp2_with fail
 refine hof.mono ?_
 rintro e w1 ⟨rfl,hb⟩
 have B2:Aside (∀o,Below w.heap.size w (w1.alloc o)):=fun o=>hb.alloc hb.size o
 have c2:∀o,(w1.alloc o).cell? ⟨4,0,none⟩=_:=fun o=>(HE.o.later (B2.o o)).c2
 clear hb hof
 go_wp2
 go_ret
 exact ⟨rfl,B2.o _⟩):P:=h
theorem kb7{P:Prop}(h:P:=by
 have hcl:=HKN.o v1_ HBV.o
 go_wp2_with fail
 refine hcl.mono ?_
 clear hcl
 rintro e w8 ⟨rfl,H8⟩
 have H9:Aside (Below v1_.heap.size v1_ w8):=zi HBV.o H8.o
 clear H8
 go_wp2
 go_meet
 exact ⟨zt,H9.o⟩):P:=h
theorem kb8{P:Prop}(h:P:=by
 go_wp2
 go_ret
 exact ⟨rfl,zh _ _⟩):P:=h
theorem kb9{P:Prop}(h:P:=by
 have hne:∀k,c k=0\/c k=1\/c k=3->¬(k=p\/some k=vl.ownBlock):=fun k e e'=>by
  have:c k=cO nd:=e'.elim (fun q=>by rw [q];exact HL.o.2.2.2.1.1) (fun q=>HL.o.2.2.2.1.2 k q.symm)
  unfold cO at this
  omega
 obtain ⟨v3,q1,q2,q3⟩:=ff hbX hact
 refine hK _ _ ⟨(q2.block P hP1 (hne P (.inl H0.o.2.2.2.2.2.2.2.2))).trans H1.o.2.1,H1.o.1.cell.same (q2.block br H1.o.1.cell.lt (hne br (.inr (.inl H1.o.1.hue)))),q2.block bx hbl (hne bx (.inr (.inr HL.o.2.2.2.2.2.2.2.1)))⟩ ?_
 clear hK K
 refine qn ?_
 refine wpAnyH_done zo ?_ _
 go_wp2
 go_end0
 exact ⟨⟨_,rfl⟩,HS.o⟩):P:=h
theorem kc0{P:Prop}(h:P:=by
 have hcode:opE t b n k node other name.data.toList value.data.toList=2:=xm
 rw [hcode]
 clear hcode hln hlv
 go_enter Tryz.func25,Tryz.ntmps25
 go_wp2_with fail
 generalize w.alloc (.cells #[.int .i64 t,.int .i64 b,.int .i64 n,.int .u8 (k:Int),.int .i64 node,.int .i64 other,.string name,.string value] 61)=u at O0 B0 |-
 refine (cr _ _ _ s1 s2 s3 s4).mono ?_
 rintro e w1 ⟨rfl,hb⟩
 have O1:=O0.later hb
 have B1:Below w.heap.size w w1:=zi B0 hb
 clear hb O0 B0
 obtain ⟨x0,x1,x2,x3,x4,x5,x6,x7⟩:=id O1
 go_wp2
 go_ret
 exact ⟨rfl,B1⟩):P:=h
theorem kc1{P:Prop}(h:P:=by
 clear hin h0
 go_enter Tryz.func47,Tryz.ntmps47
 go_upto_region 2 with fail
 refine aL (S:=(fun w'=>w'.cell? ⟨0,0,none⟩=some (.iface 450 (.pointer (some (ad 1)))))) zo SD (fun hHeld=> ?_)
 refine tk 0 hHeld ?_ (hy:=Or.inl ⟨zv,by intro w' hSw;have q1:=hSw;clear hSw;go_simp;try with_reducible rfl⟩)
 refine tk 1 hHeld ?_
 refine aW (i:=2) zo rfl (fun kQ hK=> ?_)
 go_simp
 refine hK _ _ SD ?_
 clear hK kQ
 refine wpAnyH_done zo ?_ _
 refine qn ?_
 go_wp2
 go_ret2
 exact .inl ⟨HI.o,rfl,(vG _ w).drew⟩):P:=h
theorem kc2{P:Prop}(h:P:=by
 have e1:((s[k].toNat:Int)==45)=false:=zq
 have e2:((s[k].toNat:Int)==46)=false:=zq
 have HE:Hid (R=false):=Lib.hid vw
 clear hb h
 go_wp2
 go_ret
 exact ⟨by rw [<-HQ.o,HE.o];rfl,rfl⟩):P:=h
theorem kc3{P:Prop}(h:P:=by
 rintro e w1 ⟨rfl,hb⟩
 obtain ⟨hc,hf⟩:=EB hb
 go_wp2
 have c0:w1.cell? ⟨w.heap.size,0,none⟩=some (.int .i64 0):=jN
 have c1:w1.cell? ⟨w.heap.size,1,none⟩=some (.int .i64 0):=jN
 refine bodyPost_ret (v:=.tuple #[.agg #[.int .i64 0,.int .i64 0],.iface u x]) vz rfl ⟨rfl,?_⟩
 exact ((((zh _ _).alloc zt _).trans (hb.mono zq)).setCell zt _).setCell zt _):P:=h
theorem kc5{P:Prop}(h:P:=by
 unfold kV at hcall
 clear hz hz'
 go_wp2_with fail
 refine hcall.mono ?_
 clear hcall
 rintro e w2 ⟨rfl,hb2⟩
 have B2:Aside (Below w.heap.size w w2):=zi H1.o.1 hb2
 clear hb2
 go_wp2
 go_ret
 exact ⟨rfl,B2.o⟩):P:=h
theorem kc6{P:Prop}(h:P:=by
 rintro e w2 ⟨rfl,hb⟩
 have B2:Below w.heap.size w w2:=zi B1 hb
 clear hb x0 x1 x2 x3 x4 x5 x6 x7 y1 y2 y3 y4 B1 E1
 go_wp2
 go_ret
 exact ⟨rfl,B2⟩):P:=h
theorem kc7{P:Prop}(h:P:=by
 have RU:Runs lt mid e b d2:=CUT.o.2.1.off zj Qd2.o.1
 have RUA:Aside (Runs lt mid e b d2):=RU
 clear RU
 go_wp2
 go_end0
 have Qd3:Aside (PermIn mid b d2 d2/\SortedIn (slt lt) mid b d2):=⟨permIn_refl _ _ _,Runs.sorted RUA.o zj⟩
 have Sd3:=Sd2
 have PP:=eX (lt:=lt) (a:=a) (c:=mid) (b:=b) zj zj zj CUT.o.2.2 Qd2.o.1 Qd2.o.2 Qd3.o.1 Qd3.o.2
 exact ⟨rfl,_,⟨permIn_trans _ _ _ _ _ PD1.o PP.1,PP.2⟩,Sd3.o⟩):P:=h
theorem kd1{P:Prop}(h:P:=by
 refine qn ?_
 refine aF (i:=17) zo rfl (fun K hK=> ?_)
 go_simp
 refine hK _ _ (.inr ⟨rfl,zr⟩) ?_
 clear hK K
 refine bB zo ?_ _
 have FIN:Aside (Ij base w p v M (w5.setCell ⟨p,0,none⟩ (.slice (some ⟨g',0,none⟩) (L.length+1) cap'))):=LC HT.o TX.o.2 HM.o.1 HM.o.2.1 HM.o.2.2.1 HM.o.2.2.2.1 HM.o.2.2.2.2.1 H5.o
 clear H5 u1 u2
 go_wp2
 go_ret
 exact ⟨rfl,FIN.o⟩):P:=h
theorem kd3{P:Prop}(h:P:=by
 have hd:decide ((k:Int)<(s.size:Int))=false:=zq
 have HE:Hid (R=true):=Lib.hid vu
 go_wp2
 go_ret
 exact ⟨by rw [HE.o];rfl,rfl⟩):P:=h
theorem ke1{P:Prop}(h:P:=by
 go_ret
 exact ⟨rfl,0,_,jv⟩):P:=h
theorem ke2{P:Prop}(h:P:=by
 go_wp2
 go_ret
 exact ⟨rfl,(zh _ _).alloc zt _⟩):P:=h
theorem ke3{P:Prop}(h:P:=by
 go_wp2_with fail
 rw [<-hU]
 clear hU
 refine hcall.mono ?_
 clear hcall
 rintro e w1 ⟨rfl,hb1⟩
 have B1:Aside (Below w.heap.size w w1):=zi HB.o hb1
 clear hb1 HB
 go_wp2
 go_ret
 exact ⟨by rw [HZ.o];simp [BEq.beq],B1.o.alloc B1.o.size _⟩):P:=h
theorem ke4{P:Prop}(h:P:=by
 refine hK _ _ ⟨(q3.block P GX.o.2.1.lt (hne P (.inl GX.o.2.2.2.2.2.2.2.2))).trans GX.o.2.1,GX.o.1.same (q3.block br GX.o.1.lt (hne br (.inr GX.o.2.2.1)))⟩ ?_
 clear hK K
 refine qn ?_
 refine wpAnyH_done zo ?_ _
 go_wp2
 go_end0
 exact ⟨⟨_,rfl⟩,HS.o⟩):P:=h
theorem ke5{P:Prop}(h:P:=by
 have d1:decide ((i:Int)<(S.length:Int))=false:=zq
 have d1n:decide (i<S.length)=false:=zq
 have HK:Aside (z=false):=by
  show z=false
  rw [hz.o]
  have:=A.o.2
  rwa [vT zj] at this
 go_wp2
 go_ret
 exact ⟨by rw [HK.o];rfl,A.o.1⟩):P:=h
theorem ke7{P:Prop}(h:P:=by
 go_enter Tryz.func99,Tryz.ntmps99
 go_wp2_with (go_at_call 171;refine (DT _ _).mono ?_;rintro e w' ⟨rfl,rfl⟩)
 go_ret
 exact ⟨rfl,rfl⟩):P:=h
theorem ke9{P:Prop}(h:P:=by
 go_wp2_with fail
 rw [<-hU]
 clear hU
 refine hcall.mono ?_
 clear hcall
 rintro e w1 ⟨rfl,hb1⟩
 have B1:Aside (Below w.heap.size w w1):=zi HB.o hb1
 clear hb1 HB
 go_wp2
 go_ret
 exact ⟨by rw [HZ.o];simp [hk],B1.o.alloc B1.o.size _⟩):P:=h
theorem kf0{P:Prop}(h:P:=by
 go_enter Tryz.func108,Tryz.ntmps108
 go_wp2_with (go_at_call 176;refine (Og _ _).mono ?_;rintro e w' ⟨rfl,rfl⟩)
 go_ret
 exact ⟨rfl,rfl⟩):P:=h
theorem kf1{P:Prop}(h:P:=by
 go_enter Tryz.func99,Tryz.ntmps99
 go_wp2_with (go_at_call 171;refine (Oi _ _).mono ?_;rintro e w' ⟨rfl,rfl⟩)
 go_ret
 exact ⟨rfl,rfl⟩):P:=h
theorem kf3{P:Prop}(h:P:=by
 go_enter Tryz.func135,Tryz.ntmps135
 go_wp2_with (go_at_call 185;refine (Bt t b _ h1 h2 h3 h4).mono ?_;rintro e w1 ⟨rfl,hb⟩;have B1:Aside (Below w.heap.size w w1):=(zh w _).trans (hb.mono zt);clear hb)
 go_ret
 exact ⟨rfl,B1.o⟩):P:=h
theorem kf4{P:Prop}(h:P:=by
 have HK:Aside (z=true):=by
  show z=true
  rw [hz.o]
  exact HT.1 (decide_eq_true ⟨hk,hd,by unfold idO;dsimp only;omega⟩)
 clear hk hd hi2 HT
 go_wp2
 go_ret
 exact ⟨by rw [HK.o];rfl,HB.o⟩):P:=h
theorem kf5{P:Prop}(h:P:=by
 go_wp2_with fail
 rw [<-hU]
 clear hU
 refine hcall.mono ?_
 clear hcall
 rintro e w1 ⟨rfl,hb1⟩
 have B1:Aside (Below w.heap.size w w1):=zi HB.o hb1
 clear hb1 HB
 go_wp2
 go_ret
 exact ⟨rfl,B1.o.alloc B1.o.size _⟩):P:=h
theorem kf6{P:Prop}(h:P:=by
 rw [dX rfl]
 unfold bT aR
 go_simp):P:=h
theorem kf7{P:Prop}(h:P:=by
 rw [dX rfl]
 go_simp):P:=h
theorem kg0{P:Prop}(h:P:=by
 have hltz:decide ((k:Int)<(zs.length:Int))=false:=zq
 go_wp2
 go_ret
 refine ⟨_,rfl,.inl ⟨rfl,fun l hl=> ?_⟩,A.o.1⟩
 obtain ⟨j,hj,rfl⟩:=uJ hl
 exact A.o.2 j _ zj (vF hj)):P:=h
theorem kg1{P:Prop}(h:P:=by
 have hkc:fJ k=(j:Int)+1:=by unfold fJ;rw [if_pos zj,hjk]
 have HK:Hid (fJ k=(j:Int)+1):=hkc
 rw [decide_eq_true hjk]
 clear hkc hjk
 go_wp2
 go_ret2
 exact ⟨by rw [HK.o];rfl,B3⟩):P:=h
theorem kg5{P:Prop}(h:P:=by
 rw [hq] at hcall
 have HQ:=Lib.hid hq
 clear hq
 go_wp2_with (go_at_fn g;refine hcall.mono ?_;rintro e w' ⟨rfl,hb'⟩)
 go_ret
 exact ⟨_,rfl,.inr ⟨k,_,rfl,hl.o,HQ.o,A.o.2⟩,hb'⟩):P:=h
theorem kg6{P:Prop}(h:P:=by
 have hd:decide ((j:Int)<12)=false:=zq
 have hkc:fJ k= -1:=by unfold fJ;rw [if_neg zj]
 have HK:Hid (fJ k= -1):=hkc
 clear hkc
 go_wp2
 go_ret2
 exact ⟨by rw [HK.o];rfl,B3⟩):P:=h
theorem kg7{P:Prop}(h:P:=by
 go_wp2_with fail
 refine h.mono ?_
 clear h
 rintro e w1 ⟨k,hk,rfl,hb⟩
 have H:Aside ((1<=k/\k<=8/\v<16^k)/\Below w.heap.size w w1):=⟨hk,hb⟩
 clear hk hb
 go_wp2
 go_ret
 exact ⟨k,H.o.1,rfl,H.o.2⟩):P:=h
theorem kg8{P:Prop}(h:P:=by
 go_wp2_with fail
 go_quiet (fail)
 go_wp2
 go_meet
 exact ⟨k,rfl,hkl,(oK (a,s) L k hkl A.o.1 (fun m e=>by rw [hl.o] at e;cases e;exact HK.o)).symm,dZ A.o.2 _⟩):P:=h
theorem kg9{P:Prop}(h:P:=by
 go_quiet (fail)
 go_wp2
 go_meet
 exact ⟨false,rfl,⟨fun e=>yE,fun ⟨o,e⟩=>by rw [hl.o] at e;exact absurd (Prod.mk.inj (Option.some.inj e)).1 HK.o⟩,dZ A.o.2 _⟩):P:=h
theorem kh5{P:Prop}(h:P:=by
 go_enter Tryz.func39,Tryz.ntmps39
 go_wp2_with fail
 refine (GT u zj w).mono ?_
 rintro e w1 ⟨rfl,hb⟩
 go_wp2
 go_ret
 exact ⟨by rw [HE.o];rfl,hb⟩):P:=h
theorem kh7{P:Prop}(h:P:=by
 refine wpAnyH_done zo ?_ _
 refine qn ?_
 clear eZ ZX hbX ZX0 hbX0
 go_wp2
 go_meet
 exact ⟨QQ,rfl,rfl,HZ.o⟩):P:=h
theorem ki1{P:Prop}(h:P:=by
 rw [HW.o]
 clear hrun HL y0 y2 y3 yf
 go_enter Tryz.func217,Tryz.ntmps217
 go_wp2
 go_ret
 exact ⟨rfl,_,H.o,Keeps.refl _ _,fun g hg=>.inl hg⟩):P:=h
theorem ki3{P:Prop}(h:P:=by
 go_wp2_with fail
 refine hc.mono ?_
 rintro e w1 ⟨rfl,hw1⟩
 subst hw1
 go_wp2
 go_ret
 exact ⟨by rw [HZ.o];rfl,rfl⟩):P:=h
theorem ki4{P:Prop}(h:P:=by
 have HP:Aside (LaidIn base w p v L w2):=wz H1.o.2.2.1 (zi H1.o.2.1 hb2)
 clear hb2
 go_wp2
 go_ret2
 exact ⟨rfl,HP.o⟩):P:=h
theorem ki6{P:Prop}(h:P:=by
 refine wpAnyH_done zo ?_ _
 refine qn ?_
 clear eZ ZX hbX
 go_wp2
 go_meet
 exact ⟨QQ,rfl,rfl,HZ.o⟩):P:=h
theorem kj0{P:Prop}(h:P:=by
 rw [Bg rfl]
 go_simp):P:=h
theorem kj4{P:Prop}(h:P:=by
 unfold kV
 clear hb hz
 go_enter Tryz.func195,Tryz.ntmps195
 go_wp2
 go_ret
 exact ⟨rfl,zh w _⟩):P:=h
theorem kj6{P:Prop}(h:P:=by
 rintro e w2 ⟨rfl,hb⟩
 have hg2:=fY hg1 hb
 clear hb e0 e1 e2 e3 hg1
 go_wp2
 go_ret
 exact ⟨rfl,hg2⟩):P:=h
theorem kk1{P:Prop}(h:P:=by
 go_wp2
 go_meet
 exact ⟨zt,H9.o⟩):P:=h
theorem kk4{P:Prop}(h:P:=by
 go_wp2_with (at_builtin;refine Lib.wpList_append_run _ rfl _ _ _ _ rfl _ _ rfl rfl _ _ hrun ?_)
 go_ret
 exact hfin.o):P:=h
theorem kl2{P:Prop}(h:P:=by
 clear hk5 hk0
 go_wp2
 go_meet
 exact ⟨by rw [e5,e0];simp,rfl⟩):P:=h
theorem kl7{P:Prop}(h:P:=by
 go_wp2
 go_ret
 exact ⟨by rw [HE.o];rfl,rfl⟩):P:=h
theorem km6{P:Prop}(h:P:=by
 intro hc0 hl0
 gi_wp2
 go_end0
 exact ⟨⟨_,rfl⟩,.inl ⟨ps,hC.all hr G hl0,hJs⟩⟩):P:=h
theorem kn9{P:Prop}(h:P:=by
 go_enter Tryz.func32,Tryz.ntmps32
 go_wp2
 go_ret
 exact ⟨rfl,vG _ _⟩):P:=h
theorem ko0{P:Prop}(h:P:=by
 go_wp2
 go_ret
 exact ⟨.inl rfl,rfl⟩):P:=h
theorem ko2{P:Prop}(h:P:=by
 go_wp2
 go_ret
 exact ⟨rfl,B1⟩):P:=h
theorem ko9{P:Prop}(h:P:=by
 go_wp2
 go_ret
 exact ⟨rfl,H1.o.1⟩):P:=h
theorem kq6{P:Prop}(h:P:=by
 go_wp2
 go_meet
 exact ⟨zt,rfl⟩):P:=h
