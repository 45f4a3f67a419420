import Derived.Test.YtebpcnkdhgnghaaGreatDoorMacA
import Derived.Deep.Cut
import Derived.BigQuiet
import Derived.Shelf.Abstract
set_option linter.unusedSimpArgs false
set_option linter.unusedVariables false
namespace Go.Proofs
theorem ka0{P:Prop}(h:P:=by
 go_wp2_with (first
  | (go_at_call 250;first | (refine (oW _ _ _ zj zj).mono ?_;rintro e w' ⟨rfl,rfl⟩) | (refine (wX _ _ _ zj).mono ?_;rintro e w' ⟨rfl,rfl⟩))
  | (go_at_call 251;refine (sF _ _ _ qj qj).mono ?_;rintro e w' ⟨rfl,rfl⟩)
  | (go_at_call 252;refine (wZ _ _ _ qj qj).mono ?_;rintro e w' ⟨rfl,rfl⟩))
 go_ret
 exact ⟨rfl,zh _ _⟩):P:=h
theorem ka1{P:Prop}(h:P:=by
 go_wp2_with (first
 | (go_at_call 250;first | (refine (oW _ _ _ zj zj).mono ?_;rintro e w' ⟨rfl,rfl⟩) | (refine (wX _ _ _ zj).mono ?_;rintro e w' ⟨rfl,rfl⟩))
 | (go_at_call 251;refine (sF _ _ _ qj qj).mono ?_;rintro e w' ⟨rfl,rfl⟩)
 | (go_at_call 252;refine (wZ _ _ _ qj qj).mono ?_;rintro e w' ⟨rfl,rfl⟩))
 go_ret
 exact ⟨rfl,zh _ _⟩):P:=h
theorem ka2{P:Prop}(h:P:=by
 go_wp2_with (first
   | (go_at_call 250;first | (refine (oW _ _ _ zj zj).mono ?_;rintro e w' ⟨rfl,rfl⟩) | (refine (wX _ _ _ zj).mono ?_;rintro e w' ⟨rfl,rfl⟩))
   | (go_at_call 251;refine (sF _ _ _ qj qj).mono ?_;rintro e w' ⟨rfl,rfl⟩)
   | (go_at_call 252;refine (wZ _ _ _ qj qj).mono ?_;rintro e w' ⟨rfl,rfl⟩))
 go_ret
 exact ⟨rfl,zh _ _⟩):P:=h
theorem ka3{P:Prop}(h:P:=by
 refine hK _ _ (by first | (rw [<-hW] at SX;exact SX)) ?_
 clear hK kQ
 refine qn ?_
 refine aZ (i:=15) zk rfl (fun kQ hK=> ?_)
 go_simp
 refine hK _ _ (by rw [<-hW] at SX;exact SX) ?_
 clear hK kQ
 refine wpAnyH_done zk ?_ _
 refine qn ?_
 clear z0 z1 z2 z3 z4 z5 z6 z7 zf
 go_wp2
 go_ret
 have h5:=H5.o
 have HX1:=HXX.o.1
 have HX2:=HXX.o.2
 rw [hX.o] at HX1 HX2
 obtain ⟨y0,cd0,⟨T0,hT0,hnx⟩,_,hdx⟩:=h5.2.2.2.2.2.2.1 r rfl hr
 refine ⟨cd5,G5,K5,D5,st5,N5,by rw [<-her.o];rfl,⟨HX1,HX2,h5.2.2.1,h5.2.2.2.1⟩,Nx hnx hdx,.inl ⟨hk8,h5.2.2.2.2.2.2.2.2,qs,x,y,T0,y0,cd0,_,HNQ.o.2.1,hx.o,hy.o,hT0,hnx,hdx⟩⟩):P:=h
theorem ka4{P:Prop}(h:P:=by
 go_wp2
 refine bodyPost_ret (v:=.tuple #[.agg #[.int .i64 0,.int .i64 0,.int .i64 0,.int .u8 0,.int .i64 0,.int .i64 0,.string ⟨#[]⟩,.string ⟨#[]⟩],.bool false]) jD rfl ⟨by rw [HE.o];rfl,?_⟩
 exact ((((((((HB.o _).setCell zq _).setCell zq _).setCell zq _).setCell zq _).setCell zq _).setCell zq _).setCell zq _).setCell zq _):P:=h
theorem ka5{P:Prop}(h:P:=by
 clear hcode
 go_enter Tryz.func123,Tryz.ntmps123
 go_wp2_with fail
 generalize w.alloc (.cells #[.int .i64 t,.int .i64 b,.int .i64 n,.int .u8 (k:Int),.int .i64 node,.int .i64 other,.string name,.string value] 61)=u at O0 E0 B0 |-
 refine (CN _ _ _ s1 s2 s3 s4).mono ?_
 rintro e w1 ⟨rfl,hb⟩
 have O1:=O0.later hb
 have E1:=E0.later hb
 have B1:Below w.heap.size w w1:=zi B0 hb
 clear hb O0 E0 B0
 have z1:=jR w1 ⟨w.heap.size,0,none⟩ O1.c0
 obtain ⟨x0,x1,x2,x3,x4,x5,x6,x7⟩:=O1
 obtain ⟨y1,y2,y3,y4⟩:=id E1
 go_wp2
 go_ret
 exact ⟨rfl,B1⟩):P:=h
theorem ka6{P:Prop}(h:P:=by
 skip
 have b0:decide ((mid:Int)<(e:Int))=true:=zl
 have b1:decide ((e:Int)<(b:Int))=true:=zl
 have RU:Runs lt mid e b d2:=CUT.o.2.1.off zj Qd2.o.1
 have RUA:Aside (Runs lt mid e b d2):=RU
 clear RU
 go_wp2_with fail
 clear b0 b1
 have C:=IH0.o mid e b d2 w2 zj zj Sd2.o RUA.o zj zj zj zj
 unfold eU at C
 rw [hzd2] at C
 refine C.mono ?_
 clear C
 rintro ex w3 ⟨rfl,d3,⟨PMd3,SOd3⟩,S_d3⟩
 have hzd3:d3.size=d.size:=by rw [PMd3.1,hzd2]
 have Sd3:Aside (SWK enc k w0 blk off d3 w3):=S_d3
 have Qd3:Aside (PermIn mid b d2 d3/\SortedIn (slt lt) mid b d3):=⟨PMd3,SOd3⟩
 clear PMd3 SOd3 S_d3
 clear Sd2
 go_wp2
 go_end0
 have PP:=df (lt:=lt) (a:=a) (c:=mid) (b:=b) zj zj zj CUT.o.2.2 Qd2.o.1 Qd2.o.2 Qd3.o.1 Qd3.o.2
 exact ⟨rfl,_,⟨permIn_trans _ _ _ _ _ PD1.o PP.1,PP.2⟩,Sd3.o⟩):P:=h
theorem ka7{P:Prop}(h:P:=by
 skip
 have b0:decide ((mid:Int)<(e:Int))=true:=zl
 have b1:decide ((e:Int)<(b:Int))=true:=zl
 have RU:Runs lt mid e b d1:=CUT.o.2.1.off zj Qd1.o.1
 have RUA:Aside (Runs lt mid e b d1):=RU
 clear RU
 go_wp2_with fail
 clear b0 b1
 have C:=IH0.o mid e b d1 w1 zj zj S2.o RUA.o zj zj zj zj
 unfold eU at C
 rw [hzd1] at C
 refine C.mono ?_
 clear C
 rintro ex w3 ⟨rfl,d3,⟨PMd3,SOd3⟩,S_d3⟩
 have hzd3:d3.size=d.size:=by rw [PMd3.1,hzd1]
 have Sd3:Aside (SWK enc k w0 blk off d3 w3):=S_d3
 have Qd3:Aside (PermIn mid b d1 d3/\SortedIn (slt lt) mid b d3):=⟨PMd3,SOd3⟩
 clear PMd3 SOd3 S_d3
 clear S2
 go_wp2
 go_end0
 have PP:=df (lt:=lt) (a:=a) (c:=mid) (b:=b) zj zj zj CUT.o.2.2 Qd1.o.1 Qd1.o.2 Qd3.o.1 Qd3.o.2
 exact ⟨rfl,_,⟨permIn_trans _ _ _ _ _ PD1.o PP.1,PP.2⟩,Sd3.o⟩):P:=h
theorem ka8{P:Prop}(h:P:=by
 have RU:Runs lt mid e b d1:=CUT.o.2.1.off zj Qd1.o.1
 have RUA:Aside (Runs lt mid e b d1):=RU
 clear RU
 go_wp2
 go_end0
 have Qd3:Aside (PermIn mid b d1 d1/\SortedIn (slt lt) mid b d1):=⟨permIn_refl _ _ _,Runs.sorted RUA.o zj⟩
 have Sd3:=S2
 have PP:=df (lt:=lt) (a:=a) (c:=mid) (b:=b) zj zj zj CUT.o.2.2 Qd1.o.1 Qd1.o.2 Qd3.o.1 Qd3.o.2
 exact ⟨rfl,_,⟨permIn_trans _ _ _ _ _ PD1.o PP.1,PP.2⟩,Sd3.o⟩):P:=h
theorem ka9{P:Prop}(h:P:=by
 go_wp2
 go_ret
 exact ⟨rfl,rfl⟩):P:=h
theorem kb0{P:Prop}(h:P:=by
 go_wp2
 refine bodyPost_ret (v:=.tuple #[.agg #[.int .i64 0,.int .i64 0,.int .i64 0,.int .u8 0,.int .i64 0,.int .i64 0,.string ⟨#[]⟩,.string ⟨#[]⟩],.bool false]) jD rfl ⟨by rw [HE.o];rfl,?_⟩
 exact (((((((B1.setCell zq _).setCell zq _).setCell zq _).setCell zq _).setCell zq _).setCell zq _).setCell zq _).setCell zq _):P:=h
theorem kb1{P:Prop}(h:P:=by
 clear hE h h1 hi hzb
 go_enter Tryz.func138,Tryz.ntmps138
 go_wp2_with fail
 refine hof.mono ?_
 rintro e w1 ⟨rfl,hb⟩
 have B2:Aside (∀o,Below w.heap.size w (w1.alloc o)):=fun o=>hb.alloc hb.size o
 have c2:∀o,(w1.alloc o).cell? ⟨4,0,none⟩=_:=fun o=>(HE.o.later (B2.o o)).c2
 clear hb hof
 go_wp2
 go_ret
 exact ⟨rfl,B2.o _⟩):P:=h
theorem kb4{P:Prop}(h:P:=by
 have hne:∀k,c k=0\/c k=1\/c k=3->¬(k=p\/some k=vl.ownBlock):=fun k e e'=>by
  have:c k=cQ nd:=e'.elim (fun q=>by rw [q];exact HL.o.2.2.2.1.1) (fun q=>HL.o.2.2.2.1.2 k q.symm)
  unfold cQ at this
  omega
 obtain ⟨v3,q1,q2,q3⟩:=fu hbX hact
 refine hK _ _ ⟨(q2.block P hP1 (hne P (.inl H0.o.2.2.2.2.2.2.2.2))).trans H1.o.2.1,H1.o.1.cell.same (q2.block br H1.o.1.cell.lt (hne br (.inr (.inl H1.o.1.hue)))),q2.block bx hbl (hne bx (.inr (.inr HL.o.2.2.2.2.2.2.2.1)))⟩ ?_
 clear hK K
 refine qn ?_
 refine wpAnyH_done zk ?_ _
 go_wp2
 go_end0
 exact ⟨⟨_,rfl⟩,HS.o⟩):P:=h
theorem kb5{P:Prop}(h:P:=by
 clear hin h0
 go_enter Tryz.func47,Tryz.ntmps47
 go_upto_region 2 with fail
 refine aM (S:=(fun w'=>w'.cell? ⟨0,0,none⟩=some (.iface 450 (.pointer (some (ad 1)))))) zk SD (fun hHeld=> ?_)
 refine tk 0 hHeld ?_ (hy:=Or.inl ⟨zt,qH⟩)
 refine tk 1 hHeld ?_
 refine aZ (i:=2) zk rfl (fun kQ hK=> ?_)
 go_simp
 refine hK _ _ SD ?_
 clear hK kQ
 refine wpAnyH_done zk ?_ _
 refine qn ?_
 go_wp2
 go_ret2
 exact .inl ⟨HI.o,rfl,(jN _ w).drew⟩):P:=h
theorem kb6{P:Prop}(h:P:=by
 rintro e w1 ⟨rfl,hb⟩
 obtain ⟨hc,hf⟩:=Gr hb
 go_wp2
 have c0:w1.cell? ⟨w.heap.size,0,none⟩=some (.int .i64 0):=jq
 have c1:w1.cell? ⟨w.heap.size,1,none⟩=some (.int .i64 0):=jq
 refine bodyPost_ret (v:=.tuple #[.agg #[.int .i64 0,.int .i64 0],.iface u x]) jG rfl ⟨rfl,?_⟩
 exact ((((zh _ _).alloc zq _).trans (hb.mono zl)).setCell zq _).setCell zq _):P:=h
theorem kc0{P:Prop}(h:P:=by
 unfold kV at hcall
 clear hz hz'
 go_wp2_with fail
 refine hcall.mono ?_
 clear hcall
 rintro e w2 ⟨rfl,hb2⟩
 have B2:Aside (Below w.heap.size w w2):=zi H1.o.1 hb2
 clear hb2
 go_wp2
 go_ret
 exact ⟨rfl,B2.o⟩):P:=h
theorem kc1{P:Prop}(h:P:=by
 rintro e w2 ⟨rfl,hb⟩
 have B2:Below w.heap.size w w2:=zi B1 hb
 clear hb x0 x1 x2 x3 x4 x5 x6 x7 y1 y2 y3 y4 B1 E1
 go_wp2
 go_ret
 exact ⟨rfl,B2⟩):P:=h
theorem kc3{P:Prop}(h:P:=by
 have RU:Runs lt mid e b d2:=CUT.o.2.1.off zj Qd2.o.1
 have RUA:Aside (Runs lt mid e b d2):=RU
 clear RU
 go_wp2
 go_end0
 have Qd3:Aside (PermIn mid b d2 d2/\SortedIn (slt lt) mid b d2):=⟨permIn_refl _ _ _,Runs.sorted RUA.o zj⟩
 have Sd3:=Sd2
 have PP:=df (lt:=lt) (a:=a) (c:=mid) (b:=b) zj zj zj CUT.o.2.2 Qd2.o.1 Qd2.o.2 Qd3.o.1 Qd3.o.2
 exact ⟨rfl,_,⟨permIn_trans _ _ _ _ _ PD1.o PP.1,PP.2⟩,Sd3.o⟩):P:=h
theorem kc4{P:Prop}(h:P:=by
 rw [dM rfl]
 go_simp):P:=h
theorem kc7{P:Prop}(h:P:=by
 refine qn ?_
 refine aI (i:=17) zk rfl (fun K hK=> ?_)
 go_simp
 refine hK _ _ (.inr ⟨rfl,zo⟩) ?_
 clear hK K
 refine bI zk ?_ _
 have FIN:Aside (JU base w p v M (w5.setCell ⟨p,0,none⟩ (.slice (some ⟨g',0,none⟩) (L.length+1) cap'))):=KE HT.o TX.o.2 HM.o.1 HM.o.2.1 HM.o.2.2.1 HM.o.2.2.2.1 HM.o.2.2.2.2.1 H5.o
 clear H5 u1 u2
 go_wp2
 go_ret
 exact ⟨rfl,FIN.o⟩):P:=h
theorem kc9{P:Prop}(h:P:=by
 go_enter Tryz.func249,Tryz.ntmps249
 go_wp2
 go_ret
 exact ⟨rfl,zh _ _⟩):P:=h
theorem kd1{P:Prop}(h:P:=by
 rw [dM rfl]
 unfold ar aT eV
 go_simp):P:=h
theorem kd8{P:Prop}(h:P:=by
 go_wp2_with fail
 rw [<-hU]
 clear hU
 refine hcall.mono ?_
 clear hcall
 rintro e w1 ⟨rfl,hb1⟩
 have B1:Aside (Below w.heap.size w w1):=zi HB.o hb1
 clear hb1 HB
 go_wp2
 go_ret
 exact ⟨by rw [HZ.o];simp [BEq.beq],B1.o.alloc B1.o.size _⟩):P:=h
theorem kd9{P:Prop}(h:P:=by
 refine hK _ _ ⟨(q3.block P GX.o.2.1.lt (hne P (.inl GX.o.2.2.2.2.2.2.2.2))).trans GX.o.2.1,GX.o.1.same (q3.block br GX.o.1.lt (hne br (.inr GX.o.2.2.1)))⟩ ?_
 clear hK K
 refine qn ?_
 refine wpAnyH_done zk ?_ _
 go_wp2
 go_end0
 exact ⟨⟨_,rfl⟩,HS.o⟩):P:=h
theorem ke0{P:Prop}(h:P:=by
 go_enter Tryz.func99,Tryz.ntmps99
 go_wp2_with (go_at_call 171;refine (Dl _ _).mono ?_;rintro e w' ⟨rfl,rfl⟩)
 go_ret
 exact ⟨rfl,rfl⟩):P:=h
theorem ke2{P:Prop}(h:P:=by
 go_wp2_with fail
 rw [<-hU]
 clear hU
 refine hcall.mono ?_
 clear hcall
 rintro e w1 ⟨rfl,hb1⟩
 have B1:Aside (Below w.heap.size w w1):=zi HB.o hb1
 clear hb1 HB
 go_wp2
 go_ret
 exact ⟨by rw [HZ.o];simp [hk],B1.o.alloc B1.o.size _⟩):P:=h
theorem ke3{P:Prop}(h:P:=by
 go_enter Tryz.func108,Tryz.ntmps108
 go_wp2_with (go_at_call 176;refine (PQ _ _).mono ?_;rintro e w' ⟨rfl,rfl⟩)
 go_ret
 exact ⟨rfl,rfl⟩):P:=h
theorem ke4{P:Prop}(h:P:=by
 go_enter Tryz.func99,Tryz.ntmps99
 go_wp2_with (go_at_call 171;refine (PJ _ _).mono ?_;rintro e w' ⟨rfl,rfl⟩)
 go_ret
 exact ⟨rfl,rfl⟩):P:=h
theorem ke5{P:Prop}(h:P:=by
 go_enter Tryz.func135,Tryz.ntmps135
 go_wp2_with (go_at_call 185;refine (CN t b _ h1 h2 h3 h4).mono ?_;rintro e w1 ⟨rfl,hb⟩;have B1:Aside (Below w.heap.size w w1):=(zh w _).trans (hb.mono zq);clear hb)
 go_ret
 exact ⟨rfl,B1.o⟩):P:=h
theorem ke6{P:Prop}(h:P:=by
 go_wp2_with fail
 rw [<-hU]
 clear hU
 refine hcall.mono ?_
 clear hcall
 rintro e w1 ⟨rfl,hb1⟩
 have B1:Aside (Below w.heap.size w w1):=zi HB.o hb1
 clear hb1 HB
 go_wp2
 go_ret
 exact ⟨rfl,B1.o.alloc B1.o.size _⟩):P:=h
theorem ke7{P:Prop}(h:P:=by
 have HE:Hid (R=false):=Lib.hid (by
      have:=HA.o
      rw [show pM s[k]=false by unfold pM;rw [decide_eq_false zj],Bool.false_and] at this
      exact this.symm)
 go_wp2
 go_ret
 exact ⟨by rw [HE.o];rfl,rfl⟩):P:=h
theorem ke8{P:Prop}(h:P:=by
 rw [dM rfl]
 unfold ar aT
 go_simp):P:=h
theorem ke9{P:Prop}(h:P:=by
 rw [lG rfl]
 go_simp
 try rfl):P:=h
theorem kf0{P:Prop}(h:P:=by
 go_wp2_with fail
 go_quiet (first | (go_at_call 369;first | exact Calls.quiet_of_same (AZ _ _ _ HZ.o.1) | exact Calls.quiet_of_same (AZ _ _ _ HZ.o.2)))
 go_wp2
 go_ret2
 exact ⟨by rw [HE.o];rfl,lg hB _⟩):P:=h
theorem kf4{P:Prop}(h:P:=by
 have hltz:decide ((k:Int)<(zs.length:Int))=false:=zl
 go_wp2
 go_ret
 refine ⟨_,rfl,.inl ⟨rfl,fun l hl=> ?_⟩,A.o.1⟩
 obtain ⟨j,hj,rfl⟩:=uD hl
 exact A.o.2 j _ zj (jK hj)):P:=h
theorem kf5{P:Prop}(h:P:=by
 go_wp2
 go_ret2
 exact ⟨by rw [HN.o];rfl,rfl⟩):P:=h
theorem kf7{P:Prop}(h:P:=by
 have hd:decide ((k:Int)<(s.size:Int))=false:=zl
 have HE:Hid (R=true):=Lib.hid (by have:=HD.o;rw [show k=s.size by omega,mP] at this;exact this.symm)
 go_wp2
 go_ret
 exact ⟨by rw [HE.o];rfl,rfl⟩):P:=h
theorem kf9{P:Prop}(h:P:=by
 rw [hq] at hcall
 have HQ:=Lib.hid hq
 clear hq
 go_wp2_with (go_at_fn g;refine hcall.mono ?_;rintro e w' ⟨rfl,hb'⟩)
 go_ret
 exact ⟨_,rfl,.inr ⟨k,_,rfl,hl.o,HQ.o,A.o.2⟩,hb'⟩):P:=h
theorem kg0{P:Prop}(h:P:=by
 go_wp2_with fail
 refine h.mono ?_
 clear h
 rintro e w1 ⟨k,hk,rfl,hb⟩
 have H:Aside ((1<=k/\k<=8/\v<16^k)/\Below w.heap.size w w1):=⟨hk,hb⟩
 clear hk hb
 go_wp2
 go_ret
 exact ⟨k,H.o.1,rfl,H.o.2⟩):P:=h
theorem kh2{P:Prop}(h:P:=by
 rw [HW.o]
 clear hrun HL y0 y2 y3 yf
 go_enter Tryz.func217,Tryz.ntmps217
 go_wp2
 go_ret
 exact ⟨rfl,_,H.o,Keeps.refl _ _,fun g hg=>.inl hg⟩):P:=h
theorem ki2{P:Prop}(h:P:=by
 go_ret
 exact ⟨rfl,0,_,xK⟩):P:=h
theorem ki4{P:Prop}(h:P:=by
 unfold kV
 clear hb hz
 go_enter Tryz.func195,Tryz.ntmps195
 go_wp2
 go_ret
 exact ⟨rfl,zh w _⟩):P:=h
theorem ki5{P:Prop}(h:P:=by
 clear h
 go_enter Tryz.func128,Tryz.ntmps128
 go_wp2
 go_ret
 exact ⟨rfl,(zh _ _).alloc zq _⟩):P:=h
theorem ki6{P:Prop}(h:P:=by
 rintro e w2 ⟨rfl,hb⟩
 have hg2:=dF hg1 hb
 clear hb e0 e1 e2 e3 hg1
 go_wp2
 go_ret
 exact ⟨rfl,hg2⟩):P:=h
theorem kj0{P:Prop}(h:P:=by
 go_wp2_with (at_builtin;refine Lib.wpList_append_run _ rfl _ _ _ _ rfl _ _ rfl rfl _ _ hrun ?_)
 go_ret
 exact hfin.o):P:=h
theorem kk5{P:Prop}(h:P:=by
 intro hc0 hl0
 gi_wp2
 go_end0
 exact ⟨⟨_,rfl⟩,.inl ⟨ps,hC.all hr G hl0,hJs⟩⟩):P:=h
theorem kk6{P:Prop}(h:P:=by
 go_wp2
 go_ret
 refine ⟨rfl,?_,Keeps.refl _ _⟩
 unfold kt
 rw [HC.o]
 exact H.o):P:=h
theorem kl3{P:Prop}(h:P:=by
 go_ret2
 exact ⟨rfl,(zh _ _).trans (hb.mono zq)⟩):P:=h
theorem km5{P:Prop}(h:P:=by
 have h1:(k:Int)<=(cap:Int):=zj
 have h0:(0:Int)<=(k:Int):=zj
 go_simp):P:=h
theorem km9{P:Prop}(h:P:=by
 go_wp2
 go_ret
 exact ⟨rfl,H1.o.1⟩):P:=h
