import Derived.Test.YtfkekfibjnjcnaaGreatDoorMZ42
set_option linter.unusedSimpArgs false
set_option linter.unusedVariables false
set_option maxRecDepth 100000
set_option maxHeartbeats 64000000
namespace Go.Proofs.YtfkekfibjnjcnaaGreatDoor
section
open Go.RowKit Go.Lib Go.Sort Go.Maps
open scoped Classical
theorem asks_law {B:Nat} {ad:Nat->Addr} (w:World) (la:Option Addr) (lc:Nat) (l:List Stp) (x y:Int) (hE0:EnvM B ad w) (hin:InRow encSt w la l) (hl:l.length<9223372036854775808) (hok:∀t∈l,StpIn t) (hx:I64 x) (hy:I64 y):
  Calls Tryz.prog 5 #[.slice la l.length lc,.int .i64 x,.int .i64 y] w fun e w'=>e= .returned (.bool true)/\Below w.heap.size w w':=by
 unfold I64 at hx hy
 have hmet:=meshed_any w hE0
 obtain ⟨S,hS⟩:=ze w.heap.size
 have hE:EnvM S ad w:=yH
 have HE:Aside (EnvM S ad w/\InRow encSt w la l/\∀t∈l,StpIn t):=⟨hE,hin,hok⟩
 clear hE hE0 hin hok
 go_enter Tryz.func5,Tryz.ntmps5
 go_wp2_with fail
 refine hmet.mono ?_
 clear hmet
 rintro e w1 ⟨rfl,hb1⟩
 have HB1:Aside (Below w.heap.size w w1):=hb1
 have hlg:=longS_any w1 80 zj la lc l (HE.o.2.1.later hb1) hl
 clear hb1
 go_wp2_with fail
 refine hlg.mono ?_
 clear hlg
 rintro e w2 ⟨z,rfl,HZ⟩
 obtain rfl:w2=w1:=HZ.o.2
 cases z with
 | true=>
  go_wp2
  go_ret
  exact ⟨rfl,HB1.o⟩
 | false=>
 have hsh:=HZ.o.1 rfl
 by_cases hc:(0<=x/\x<=2)/\(0<=y/\y<=2)/\x≠y
 case neg=>
  clear HZ hsh
  by_cases c1:x<0
  ·have d1:decide (x<0)=true:=by simp;omega
   go_wp2
   go_ret
   exact ⟨rfl,HB1.o⟩
  have d1:decide (x<0)=false:=zl
  by_cases c2:2<x
  ·have d2:decide (2<x)=true:=by simp;omega
   go_wp2
   go_ret
   exact ⟨rfl,HB1.o⟩
  have d2:decide (2<x)=false:=zl
  by_cases c3:y<0
  ·have d3:decide (y<0)=true:=by simp;omega
   go_wp2
   go_ret
   exact ⟨rfl,HB1.o⟩
  have d3:decide (y<0)=false:=zl
  by_cases c4:2<y
  ·have d4:decide (2<y)=true:=by simp;omega
   go_wp2
   go_ret
   exact ⟨rfl,HB1.o⟩
  have d4:decide (2<y)=false:=zl
  have c5:x=y:=by
   by_cases q:x=y
   ·exact q
   exact absurd ⟨⟨zj,zj⟩,⟨zj,zj⟩,q⟩ hc
  have d5:(x==y)=true:=by rw [c5];simp
  have d5d:decide (x=y)=true:=decide_eq_true c5
  clear c5
  go_wp2
  go_ret
  exact ⟨rfl,HB1.o⟩
 case pos=>
 obtain ⟨a,rfl⟩:∃a:Nat,x=(a:Int):=⟨x.toNat,zj⟩
 obtain ⟨b,rfl⟩:∃b:Nat,y=(b:Int):=⟨y.toNat,zj⟩
 have ha3:a<3:=zj
 have hb3:b<3:=zj
 have hab:a≠b:=zj
 have d1:decide ((a:Int)<0)=false:=zm
 have d2:decide ((2:Int)<(a:Int))=false:=zl
 have d2n:decide (2<a)=false:=zl
 have d3:decide ((b:Int)<0)=false:=zm
 have d4:decide ((2:Int)<(b:Int))=false:=zl
 have d4n:decide (2<b)=false:=zl
 have d5:((a:Int)==(b:Int))=false:=qd
 have d5d:decide ((a:Int)=(b:Int))=false:=yW
 have hnew:=mnew_any (B:=S) w2 3 zj zj jA
 have HSH:Aside (l.length<=80/\∀t∈l,StpShort t):=hsh
 clear hc hsh HZ
 go_wp2_with fail
 refine hnew.mono ?_
 clear hnew d1 d2 d2n d3 d4 d4n d5 d5d
 rintro e w3 ⟨bm,rfl,H3⟩
 have HS3:Aside (∃(G:List OpX) (K:Nat->Rws) (D:Nat->List OpX) (st:Nat->DSt) (N:List NoteX),MeshS (fun _=>none) S 3 bm K st N w3/\Below S w w3/\MeshI 3 0 G K D st N/\N.length<=30):=by
  obtain ⟨K0,st0,hm,hb,hK,hst,_⟩:=H3.o
  have hbS:Below S w w3:=by
   have:=zi HB1.o hb
   rw [hS.o];exact this
  exact ⟨[],K0,fun _=>[],st0,[],hm,hbS,⟨(MInv.start 3 _).congr (fun r hr x=>jp),fun r hr=>by rw [hst r hr];exact diskI_new,fun x hx=>zO,fun r hr=>xx⟩,zm⟩
 clear H3
 go_wp2
 go_loopg [10] l.length (fun kx s10 wr=>∃(k:Nat),s10= .int .i64 (k:Int)/\k<=l.length/\l.length - k<=kx/\Aside (∃(G:List OpX) (K:Nat->Rws) (D:Nat->List OpX) (st:Nat->DSt) (N:List NoteX),MeshS (fun _=>none) S 3 bm K st N wr/\Below S w wr/\MeshI 3 k G K D st N/\N.length<=30))
 case atStart=>exact ⟨0,rfl,vD _,vm _,HS3.o⟩
 case round=>
  obtain ⟨k,rfl,hk,hkx,A⟩:=hrel
  clear HS3
  by_cases hlt:k<l.length
  ·have e1:decide ((k:Int)<(l.length:Int))=true:=by simp;omega
   have wk:((k:Int)).toNat=k:=zj
   have pk:(0:Int)<=(k:Int):=zj
   have bk:(k:Int)<(l.length:Int):=zj
   obtain ⟨G,K,D,st,N,hm,hb,hI,hN⟩:=A.o
   obtain ⟨⟨kk,pn,pt,pa,t,b',m,kd,nd,o,s,v⟩,hxk⟩:∃q,Aside (l[k]? =some q):=⟨l[k],vj hlt⟩
   have hmem:=vx hxk.o
   have hbw:Below w.heap.size w wr:=by rw [<-hS.o];exact hb
   obtain ⟨blk,off,hao,hcl⟩:=(HE.o.2.1.later hbw).get encSt_len hxk.o
   subst hao
   have r0:=hcl 0 _ rfl
   have r1:=hcl 1 _ rfl
   have r2:=hcl 2 _ rfl
   have r3:=hcl 3 _ rfl
   have r4:=hcl 4 _ rfl
   have r5:=hcl 5 _ rfl
   have r6:=hcl 6 _ rfl
   have r7:=hcl 7 _ rfl
   have r8:=hcl 8 _ rfl
   have r9:=hcl 9 _ rfl
   have r10:=hcl 10 _ rfl
   have r11:=hcl 11 _ rfl
   simp only [ui] at r0
   have hwk:=walk_any wr (kk,pn,pt,pa,t,b',m,kd,nd,o,s,v) zj zj hm hI hN (HE.o.1.mono hb) jc (HE.o.2.2 _ hmem) (HSH.o.2 _ hmem)
   unfold aggSt at hwk
   dsimp only at hwk
   have HB:Aside (Below S w wr):=hb
   obtain ⟨u0,hu0⟩:=za wr
   subst hu0
   clear A hm hb hI hmem hbw hcl
   go_wp2_with fail
   refine hwk.mono ?_
   clear hwk r0 r1 r2 r3 r4 r5 r6 r7 r8 r9 r10 r11
   rintro e w5 ⟨y5,z5,G5,K5,D5,st5,N5,rfl,H5⟩
   have H6:Aside (∃(G:List OpX) (K:Nat->Rws) (D:Nat->List OpX) (st:Nat->DSt) (N:List NoteX),MeshS (fun _=>none) S 3 bm K st N w5/\Below S w w5/\MeshI 3 (k+1) G K D st N/\N.length<=30):=⟨G5,K5,D5,st5,N5,H5.o.1,HB.o.trans H5.o.2.1,H5.o.2.2.1,H5.o.2.2.2.1⟩
   obtain ⟨yv,hyv⟩:=ze (encO y5)
   rw [<-hyv.o]
   clear H5 HB
   go_wp2
   go_roundg (l.length - (k+1))
   case measure=>omega
   case rel=>exact ⟨k+1,zL,zj,vm _,H6.o⟩
  have e1:decide ((k:Int)<(l.length:Int))=false:=zl
  obtain rfl:k=l.length:=zj
  obtain ⟨G,K,D,st,N,hm,hb,hI,hN⟩:=A.o
  have HN:Aside (MeshS (fun _=>none) S 3 bm K st N wr/\Below S w wr/\MeshI 3 l.length G K D st N/\N.length<=30):=⟨hm,hb,hI,hN⟩
  clear A hm hb hI hN
  go_wp2
  go_loopg [66] (N.length) (fun ky _ wy=>∃(N2:List NoteX),N2.length<=ky/\Aside (MeshS (fun _=>none) S 3 bm K st N2 wy/\Below S w wy/\MeshI 3 l.length G K D st N2/\N2.length<=30))
  case atStart=>exact ⟨N,vm _,HN.o⟩
  case round=>
   obtain ⟨N2,hN2,A⟩:=hrel
   clear HN
   have hdr:=drop_any wr 0 A.o.1 (HE.o.1.mono A.o.2.1) A.o.2.2.2 ⟨zj,zj⟩
   have HA:Aside (Below S w wr/\MeshI 3 l.length G K D st N2/\N2.length<=30):=A.o.2
   obtain ⟨u0,hu0⟩:=za wr
   subst hu0
   clear A
   go_wp2_with fail
   refine hdr.mono ?_
   clear hdr
   rintro e w5 (⟨q,⟨t5,v5,rfl⟩,HD⟩ | ⟨k5,hk5,hk5l,rfl,HD⟩)
   ·have hN0:N2= []:=by
     by_cases q0:N2= []
     ·exact q0
     have:=uN.2 q0
     exact absurd ⟨zj,zj⟩ q
    subst hN0
    clear q
    have H6:Aside (MeshS (fun _=>none) S 3 bm K st [] w5/\Below S w w5):=⟨HD.o.1,HA.o.1.trans HD.o.2⟩
    have HI6:Aside (MeshI 3 l.length G K D st []):=HA.o.2.1
    clear HA HD
    have hE5:=HE.o.1.mono H6.o.2
    have hKl:∀r,r<3->(allR (K r)).length<=1000:=fun r hr=>by have:=HI6.o.len hr;have:=HSH.o.1;omega
    obtain ⟨ow5,pv5,fv5,bp5,br5,d5,dv5,c5,hm5⟩:=H6.o.1
    have hrep:=replica_any w5 b hb3 hm5 hE5
    have hvec:=rvector_any w5 (c5 b) (br5 b) (b:Int) (K b) (hm5.rep b hb3).1.rep (hKl b hb3)
    clear hm5 hE5
    go_wp2_with fail
    refine hrep.mono ?_
    clear hrep
    rintro e w6 ⟨rfl,rfl⟩
    go_wp2_with fail
    refine hvec.mono ?_
    clear hvec
    rintro e w7 ⟨rfl,hb7⟩
    obtain ⟨V,hV⟩:=ze (w7.alloc (.cells #[.int .i64 (vecR (K b) 0),.int .i64 (vecR (K b) 1),.int .i64 (vecR (K b) 2),.int .i64 (vecR (K b) 3)] 32))
    obtain ⟨q,hq⟩:=ze w7.heap.size
    have hbV:Below w7.heap.size w7 V:=by rw [hV.o];exact zh w7 _
    obtain ⟨gq,hgq⟩:∃gq:Nat->Option Obj,Aside (gq=fun k=>if k=q then some (.cells #[.int .i64 (vecR (K b) 0),.int .i64 (vecR (K b) 1),.int .i64 (vecR (K b) 2),.int .i64 (vecR (K b) 3)] 32 (0,0)) else none):=⟨_,rfl⟩
    have hmV:MeshS gq S 3 bm K st [] V:=by
     rw [hgq.o]
     exact (H6.o.1.later hb7).ward hbV (by rw [hq.o];exact vm _) (by rw [hV.o,hq.o];exact heap_alloc_new w7 _)
    have HGQ:Aside (gq q=some (.cells #[.int .i64 (vecR (K b) 0),.int .i64 (vecR (K b) 1),.int .i64 (vecR (K b) 2),.int .i64 (vecR (K b) 3)] 32 (0,0))):=by rw [hgq.o];exact if_pos rfl
    have hbSV:Below S w V:=(H6.o.2.trans (hb7.mono (vr HE.o.1.t.env.size H6.o.2.size))).trans (hbV.mono (vr (vr HE.o.1.t.env.size H6.o.2.size) hb7.size))
    have hask:=ask_any V (a:Int) (b:Int) hmV (HE.o.1.mono hbSV) hKl ⟨zj,zj⟩ ⟨zj,zj⟩
    have HSV:Aside (Below S w V):=hbSV
    clear hb7 hbV hmV hbSV H6
    go_upto_region 18 with fail
    rw [show ((K b 0).length:Int)=vecR (K b) 0 from rfl,show ((K b 1).length:Int)=vecR (K b) 1 from rfl,show ((K b 2).length:Int)=vecR (K b) 2 from rfl,show ((K b 3).length:Int)=vecR (K b) 3 from rfl,<-hV.o,<-hq.o]
    go_wp2_with fail
    refine hask.mono ?_
    clear hask
    rintro e w8 ⟨v8,N8,rfl,H8⟩
    obtain ⟨hm8,hb8,h8⟩:=H8.o
    have h8':v8= .nilIface/\N8= [askN a b (vecR (K a))]:=by
     rcases h8 with ⟨e1,_,a',b',_,_,_,e2,e3,e4⟩ | ⟨_,q8⟩
     ·obtain rfl:a=a':=by omega
      obtain rfl:b=b':=zj
      exact ⟨e1,e4⟩
     exact absurd ⟨⟨zj,zj⟩,⟨zj,zj⟩,zj,zm⟩ q8
    obtain ⟨rfl,rfl⟩:=h8'
    have hI8:MeshI 3 l.length G K D st [askN a b (vecR (K a))]:=HI6.o.fly (fun u hu=>by
     rw [vA.1 hu]
     exact .inr ⟨fun y hy=>absurd hy yX,vD _⟩)
    have hbS8:Below S w w8:=HSV.o.trans hb8
    have hdl:=deliver_any w8 0 hm8 hI8 zm (HE.o.1.mono hbS8) jc ⟨zj,zj⟩
    have HS8:Aside (Below S w w8):=hbS8
    clear H8 hm8 hb8 h8 hI8 hbS8 HSV
    go_wp2_with fail
    refine hdl.mono ?_
    clear hdl
    rintro e w9 ⟨v9,K9,D9,st9,N9,rfl,H9⟩
    have hd9:=H9.o.2.2.2.2.1
    have h9:v9= .nilIface/\K9=K/\∃F,DiffOf (K b) (vecR (K a)) F/\((F= []/\N9= [])\/∃ao cap,N9= [(b,a,false,fun _=>0,ao,cap,F)]):=by
     rcases hd9 with ⟨q9,_⟩ | ⟨k9,x9,hk9,hx9,hd⟩
     ·exact absurd ⟨zj,zm⟩ q9
     obtain rfl:k9=0:=zj
     have hx':x9=askN a b (vecR (K a)):=by simpa using hx9.symm
     subst hx'
     rcases hd with ⟨_,e1,e2,F,hF,hN⟩ | ⟨q9,_⟩
     ·refine ⟨e1,e2,F,hF,?_⟩
      rcases hN with ⟨q9 | q9,e3⟩ | ⟨_,_,ao,cap,e4⟩
      ·exact .inl ⟨q9,e3⟩
      ·simp at q9
      exact .inr ⟨ao,cap,e4⟩
     cases q9
    obtain ⟨rfl,rfl,F,hF,h9⟩:=h9
    have hdi:∀z,z∈F↔z∈allR (K9 b)/\z∉allR (K9 a):=by
     obtain ⟨ys,y1,y2⟩:=hF
     have:=diff_is (HI6.o.rows a ha3) (HI6.o.rows b hb3) (HI6.o.inv.compat (fun z hz=>HI6.o.inv.sub a ha3 z hz) (fun z hz=>HI6.o.inv.sub b hb3 z hz)) y1
     rw [<-y2] at this
     exact this.2.2
    obtain ⟨K,rfl⟩:∃K',K'=K9:=⟨_,rfl⟩
    have hfl:=flying_any w9 H9.o.1 H9.o.2.2.2.1 (fun u hu=>by have:=(H9.o.2.2.1.notes u hu).2;have:=HSH.o.1;omega)
    have HS9:Aside (MeshS gq S 3 bm K st9 N9 w9/\Below S w w9/\MeshI 3 l.length G K D9 st9 N9/\N9.length<=30):=⟨H9.o.1,HS8.o.trans H9.o.2.1,H9.o.2.2.1,H9.o.2.2.2.1⟩
    clear H9 HS8 hd9 hF
    rcases h9 with ⟨hF0,rfl⟩ | ⟨ao,cap,rfl⟩
    ·have HK:Aside (∀z∈allR (K b),z∈allR (K a)):=fun z hz=>by
      by_cases q9:z∈allR (K a)
      ·exact q9
      have:=(hdi z).2 ⟨hz,q9⟩
      rw [hF0] at this
      simp at this
     clear hdi hF0
     go_wp2_with fail
     refine hfl.mono ?_
     clear hfl
     rintro e w10 ⟨ao10,cap10,rfl,HB10⟩
     obtain ⟨K9,hK9⟩:=za K
     have HZ9:Aside (MeshS gq S 3 bm K9 st9 [] w10/\Below S w w10/\MeshI 3 l.length G K9 D9 st9 []/\∀z∈allR (K b),z∈allR (K9 a)):=by
      rw [hK9]
      exact ⟨HS9.o.1.later HB10.o,HS9.o.2.1.trans (HB10.o.mono (vr HE.o.1.t.env.size HS9.o.2.1.size)),HS9.o.2.2.1,HK.o⟩
     clear hK9 HS9 HB10
     obtain ⟨ow9,pv9,fv9,bp9,br9,d9,dv9,c9,hm9⟩:=HZ9.o.1
     have hE9:=HE.o.1.mono HZ9.o.2.1
     have hrep9:=replica_any w10 a zj hm9 hE9
     have hmD:=hm9.later (vu _ w10).drew
     have hvec9:=rvector_any w10.drew (c9 a) (br9 a) (a:Int) (K9 a) (hmD.rep a ha3).1.rep qX
     have SD:VecBlk w10.drew q (vecR (K b)):=HZ9.o.1.held HGQ.o
     have hcov:covB ((K9 a 0).length:Int) ((K9 a 1).length:Int) ((K9 a 2).length:Int) ((K9 a 3).length:Int) (vecR (K b) 0) (vecR (K b) 1) (vecR (K b) 2) (vecR (K b) 3)=true:=by
      have rs:=fun (i:Nat) (hi:i<4)=>row_sub (HI6.o.rows b hb3) (HZ9.o.2.2.1.rows a ha3) HZ9.o.2.2.2 hi
      have r0:=rs 0 zj
      have r1:=rs 1 zj
      have r2:=rs 2 zj
      have r3:=rs 3 zj
      unfold vecR
      exact cov_true zj zj zj zj
     have HD9:Aside (MeshS gq S 3 bm K9 st9 [] w10.drew/\Below S w w10.drew):=⟨⟨_,_,_,_,_,_,_,_,hmD⟩,HZ9.o.2.1.drew⟩
     clear hm9 hE9 hmD
     go_wp2_with fail
     refine hrep9.mono ?_
     clear hrep9
     rintro e wz ⟨rfl,rfl⟩
     go_upto_region 23 with fail
     refine wp_region_H (S:=(fun w'=>VecBlk w' q (vecR (K b)))) zk SD (fun hHeld=> ?_)
     refine tk 0 hHeld ?_
     refine tk 1 hHeld ?_
     refine tk 2 hHeld ?_
     refine tk 3 hHeld ?_
     refine tk 4 hHeld ?_
     refine tk 5 hHeld ?_
     refine tk 6 hHeld ?_
     refine tk 7 hHeld ?_
     refine tk 9 hHeld ?_ (hy:=Or.inl ⟨zu,yj⟩)
     refine wpAnyH_one (i:=8) zk rfl (fun kQ hK=> ?_)
     go_simp
     refine hvec9.mono ?_
     clear hvec9
     rintro e wa ⟨rfl,hba⟩
     have Sa:=SD.later hba
     have hcv:=vcovers_any ((K9 a 0).length:Int) ((K9 a 1).length:Int) ((K9 a 2).length:Int) ((K9 a 3).length:Int) (vecR (K b) 0) (vecR (K b) 1) (vecR (K b) 2) (vecR (K b) 3) wa
     rw [hcov] at hcv
     have Ha:Aside (MeshS gq S 3 bm K9 st9 [] wa/\Below S w wa):=⟨HD9.o.1.later hba,HD9.o.2.trans (hba.mono (vr HE.o.1.t.env.size HD9.o.2.size))⟩
     refine hK _ _ Sa ?_
     clear hK kQ hHeld hba SD hcov
     refine qn ?_
     refine wpAnyH_one (i:=10) zk rfl (fun kQ hK=> ?_)
     go_simp
     refine hcv.mono ?_
     clear hcv
     rintro e wb ⟨rfl,hbb⟩
     have Sb:=Sa.later hbb
     have Hb:Aside (MeshS gq S 3 bm K9 st9 [] wb/\Below S w wb):=⟨Ha.o.1.later hbb,Ha.o.2.trans (hbb.mono (vr HE.o.1.t.env.size Ha.o.2.size))⟩
     have hfl:=flying_any wb Hb.o.1 zm (fun u hu=>by simp at hu)
     refine hK _ _ Sb ?_
     clear hK kQ hbb Sa
     have hHeld:=Sb
     refine qn ?_
     refine tk 11 hHeld ?_
     refine tk 12 hHeld ?_
     refine tk 13 hHeld ?_
     refine wpAnyH_one (i:=14) zk rfl (fun kQ hK=> ?_)
     go_simp
     refine hfl.mono ?_
     clear hfl
     rintro e wc' ⟨aoc,capc,rfl,Hc⟩
     have Sc:=Sb.later Hc.o
     have Hd:Aside (Below S w wc'):=Hb.o.2.trans (Hc.o.mono (vr HE.o.1.t.env.size Hb.o.2.size))
     refine hK _ _ Sc ?_
     clear hK kQ hHeld Sb
     have hHeld:=Sc
     refine qn ?_
     refine tk 15 hHeld ?_
     refine tk 16 hHeld ?_
     refine tk 17 hHeld ?_
     refine wpAnyH_one (i:=18) zk rfl (fun kQ hK=> ?_)
     go_simp
     refine hK _ _ Sc ?_
     clear hK kQ
     refine wpAnyH_done zk ?_ _
     refine qn ?_
     go_wp2
     go_ret
     refine ⟨rfl,?_⟩
     have:=Hd.o
     rwa [hS.o] at this
    go_wp2_with fail
    refine hfl.mono ?_
    clear hfl
    rintro e w10 ⟨ao10,cap10,rfl,HB10⟩
    have hm10:=HS9.o.1.later HB10.o
    have hb10:Below S w w10:=HS9.o.2.1.trans (HB10.o.mono (vr HE.o.1.t.env.size HS9.o.2.1.size))
    have hdl:=deliver_any w10 0 hm10 HS9.o.2.2.1 HS9.o.2.2.2 (HE.o.1.mono hb10) jc ⟨zj,zj⟩
    have HB11:Aside (Below S w w10/\∀z,z∈F↔z∈allR (K b)/\z∉allR (K a)):=⟨hb10,hdi⟩
    clear hm10 hb10 HB10 HS9 hdi
    go_wp2_with fail
    refine hdl.mono ?_
    clear hdl
    rintro e w11 ⟨v11,K9,D9',st9',N11,rfl,H11⟩
    have h11:N11= []/\∀z∈allR (K b),z∈allR (K9 a):=by
     rcases H11.o.2.2.2.2.1 with ⟨q9,_⟩ | ⟨k9,x9,hk9,hx9,hd⟩
     ·exact absurd ⟨zj,zm⟩ q9
     obtain rfl:k9=0:=zj
     have hx':x9=(b,a,false,fun _=>0,ao,cap,F):=by simpa using hx9.symm
     subst hx'
     rcases hd with ⟨q9,_⟩ | ⟨_,e1,hH,_⟩
     ·cases q9
     have hfit:Fits G (allR (K a)) F:=⟨allR (K b),(HI6.o.rows b hb3).well,fun z hz=>HI6.o.inv.sub b hb3 z hz,fun z hz=>((HB11.o.2 z).1 hz).1,fun z hz=>by
      by_cases q9:z∈allR (K a)
      ·exact .inl q9
      ·exact .inr ((HB11.o.2 z).2 ⟨hz,q9⟩)⟩
     refine ⟨e1,fun z hz=> ?_⟩
     by_cases q9:z∈allR (K a)
     ·exact hH.2.1 z q9
     exact hH.2.2.2 hfit z ((HB11.o.2 z).2 ⟨hz,q9⟩)
    obtain ⟨rfl,hK11⟩:=h11
    obtain ⟨D9,hD9⟩:=za D9'
    obtain ⟨st9,hst9⟩:=za st9'
    rw [<-hD9,<-hst9] at H11
    have HZ9:Aside (MeshS gq S 3 bm K9 st9 [] w11/\Below S w w11/\MeshI 3 l.length G K9 D9 st9 []/\∀z∈allR (K b),z∈allR (K9 a)):=⟨H11.o.1,HB11.o.1.trans H11.o.2.1,H11.o.2.2.1,hK11⟩
    clear H11 HB11 hK11
    obtain ⟨ow9,pv9,fv9,bp9,br9,d9,dv9,c9,hm9⟩:=HZ9.o.1
    have hE9:=HE.o.1.mono HZ9.o.2.1
    have hrep9:=replica_any w11 a zj hm9 hE9
    have hmD:=hm9.later (vu _ w11).drew
    have hvec9:=rvector_any w11.drew (c9 a) (br9 a) (a:Int) (K9 a) (hmD.rep a ha3).1.rep qX
    have SD:VecBlk w11.drew q (vecR (K b)):=HZ9.o.1.held HGQ.o
    have hcov:covB ((K9 a 0).length:Int) ((K9 a 1).length:Int) ((K9 a 2).length:Int) ((K9 a 3).length:Int) (vecR (K b) 0) (vecR (K b) 1) (vecR (K b) 2) (vecR (K b) 3)=true:=by
     have rs:=fun (i:Nat) (hi:i<4)=>row_sub (HI6.o.rows b hb3) (HZ9.o.2.2.1.rows a ha3) HZ9.o.2.2.2 hi
     have r0:=rs 0 zj
     have r1:=rs 1 zj
     have r2:=rs 2 zj
     have r3:=rs 3 zj
     unfold vecR
     exact cov_true zj zj zj zj
    have HD9:Aside (MeshS gq S 3 bm K9 st9 [] w11.drew/\Below S w w11.drew):=⟨⟨_,_,_,_,_,_,_,_,hmD⟩,HZ9.o.2.1.drew⟩
    clear hm9 hE9 hmD
    go_wp2_with fail
    refine hrep9.mono ?_
    clear hrep9
    rintro e wz ⟨rfl,rfl⟩
    go_upto_region 23 with fail
    refine wp_region_H (S:=(fun w'=>VecBlk w' q (vecR (K b)))) zk SD (fun hHeld=> ?_)
    refine tk 0 hHeld ?_
    refine tk 1 hHeld ?_
    refine tk 2 hHeld ?_
    refine tk 3 hHeld ?_
    refine tk 4 hHeld ?_
    refine tk 5 hHeld ?_
    refine tk 6 hHeld ?_
    refine tk 7 hHeld ?_
    refine tk 9 hHeld ?_ (hy:=Or.inl ⟨zu,yj⟩)
    refine wpAnyH_one (i:=8) zk rfl (fun kQ hK=> ?_)
    go_simp
    refine hvec9.mono ?_
    clear hvec9
    rintro e wa ⟨rfl,hba⟩
    have Sa:=SD.later hba
    have hcv:=vcovers_any ((K9 a 0).length:Int) ((K9 a 1).length:Int) ((K9 a 2).length:Int) ((K9 a 3).length:Int) (vecR (K b) 0) (vecR (K b) 1) (vecR (K b) 2) (vecR (K b) 3) wa
    rw [hcov] at hcv
    have Ha:Aside (MeshS gq S 3 bm K9 st9 [] wa/\Below S w wa):=⟨HD9.o.1.later hba,HD9.o.2.trans (hba.mono (vr HE.o.1.t.env.size HD9.o.2.size))⟩
    refine hK _ _ Sa ?_
    clear hK kQ hHeld hba SD hcov
    refine qn ?_
    refine wpAnyH_one (i:=10) zk rfl (fun kQ hK=> ?_)
    go_simp
    refine hcv.mono ?_
    clear hcv
    rintro e wb ⟨rfl,hbb⟩
    have Sb:=Sa.later hbb
    have Hb:Aside (MeshS gq S 3 bm K9 st9 [] wb/\Below S w wb):=⟨Ha.o.1.later hbb,Ha.o.2.trans (hbb.mono (vr HE.o.1.t.env.size Ha.o.2.size))⟩
    have hfl:=flying_any wb Hb.o.1 zm (fun u hu=>by simp at hu)
    refine hK _ _ Sb ?_
    clear hK kQ hbb Sa
    have hHeld:=Sb
    refine qn ?_
    refine tk 11 hHeld ?_
    refine tk 12 hHeld ?_
    refine tk 13 hHeld ?_
    refine wpAnyH_one (i:=14) zk rfl (fun kQ hK=> ?_)
    go_simp
    refine hfl.mono ?_
    clear hfl
    rintro e wc' ⟨aoc,capc,rfl,Hc⟩
    have Sc:=Sb.later Hc.o
    have Hd:Aside (Below S w wc'):=Hb.o.2.trans (Hc.o.mono (vr HE.o.1.t.env.size Hb.o.2.size))
    refine hK _ _ Sc ?_
    clear hK kQ hHeld Sb
    have hHeld:=Sc
    refine qn ?_
    refine tk 15 hHeld ?_
    refine tk 16 hHeld ?_
    refine tk 17 hHeld ?_
    refine wpAnyH_one (i:=18) zk rfl (fun kQ hK=> ?_)
    go_simp
    refine hK _ _ Sc ?_
    clear hK kQ
    refine wpAnyH_done zk ?_ _
    refine qn ?_
    go_wp2
    go_ret
    refine ⟨rfl,?_⟩
    have:=Hd.o
    rwa [hS.o] at this
   obtain rfl:k5=0:=zj
   have hI5:MeshI 3 l.length G K D st (N2.eraseIdx 0):=HA.o.2.1.fly (fun u hu=>.inl (Zx hu))
   have hl5:(N2.eraseIdx 0).length+1=N2.length:=by rw [List.length_eraseIdx,if_pos hk5l];omega
   have hfl:=flying_any w5 HD.o.1 (by have:=HA.o.2.2;omega) (fun u hu=>by have:=(hI5.notes u hu).2;have:=HSH.o.1;omega)
   have H6:Aside (MeshS (fun _=>none) S 3 bm K st (N2.eraseIdx 0) w5/\Below S w w5/\MeshI 3 l.length G K D st (N2.eraseIdx 0)/\(N2.eraseIdx 0).length<=30):=⟨HD.o.1,HA.o.1.trans HD.o.2,hI5,by have:=HA.o.2.2;omega⟩
   obtain ⟨N6,hN6⟩:=ze (N2.eraseIdx 0)
   rw [<-hN6.o] at hfl H6 hl5
   have d6:decide ((30:Int)<(N6.length:Int))=false:=by have:=H6.o.2.2.2;simp;omega
   have d6n:decide (30<N6.length)=false:=by have:=H6.o.2.2.2;simp;omega
   clear hI5 HA HD hk5 hk5l
   go_wp2_with fail
   refine hfl.mono ?_
   clear hfl
   rintro e w6 ⟨ao6,cap6,rfl,HB6⟩
   have H7:Aside (MeshS (fun _=>none) S 3 bm K st N6 w6/\Below S w w6/\MeshI 3 l.length G K D st N6/\N6.length<=30):=⟨H6.o.1.later HB6.o,H6.o.2.1.trans (HB6.o.mono (vr HE.o.1.t.env.size H6.o.2.1.size)),H6.o.2.2⟩
   clear H6 HB6
   go_wp2
   go_roundg N6.length
   case measure=>omega
   case rel=>exact ⟨N6,vm _,H7.o⟩
