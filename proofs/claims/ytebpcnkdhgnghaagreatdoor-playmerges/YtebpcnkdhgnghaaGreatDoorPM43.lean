import Derived.Test.YtebpcnkdhgnghaaGreatDoorPM27
import Derived.Test.YtebpcnkdhgnghaaGreatDoorPM41
import Derived.Test.YtebpcnkdhgnghaaGreatDoorPM42
set_option linter.unusedSimpArgs false
set_option linter.unusedVariables false
set_option maxRecDepth 100000
set_option maxHeartbeats 64000000
section
namespace Go.Proofs.YtebpcnkdhgnghaaGreatDoor
open Go.Proofs.Tryz
open Go Go.RowKit Go.Lib Go.Sort Go.Maps
open scoped Classical
variable {C S:Nat} {t:TypeId} {a b:Value} {w:World}
theorem tl {l:List OpX} (h:∀j,j<l.length->GY l[j]!):il l:=fun x hx=>by
 obtain ⟨j,hj,rfl⟩:=uJ hx
 have:=h j hj
 rw [getElem!_pos l j hj] at this
 unfold GY at this
 omega
theorem Ep {ao:Option Addr} {cap:Nat} {ys:List fe} (h:w.ownsRow S 25 1 (.slice ao ys.length cap) ys.length (aI dj ys)):InRow dj w ao ys:=by
 rcases h.2 with ⟨h1,h2⟩ | ⟨g,cap',cur,hv,_⟩
 ·exact kj5
 exact kg4
theorem Ki {A S:List OpX} {s:List UInt8} {t:ByteArray} (hW:WellK S) (hp:S.Perm A) (h:StateIs A s) (k:StateIs S t.data.toList):t=⟨s.toArray⟩:=by
 have:=k.same hW hp h
 refine pO ?_
 rw [this]
theorem ep (h:w.heap[C]? =some (.cells #[a,b] t (0,0))):w.cell? ⟨C,0,none⟩=some a/\w.cell? ⟨C,1,none⟩=some b/\∀o,w.frozen? ⟨C,o,none⟩=false:=by
 refine ⟨by simp [World.cell?,h],by simp [World.cell?,h],fun o=>by simp [World.frozen?,h]⟩
theorem NK (h:w.heap[C]? =some (.cells #[a,b] t (0,0))) (x y:Value):Keeps (fun k=>k=C) w ((w.setCell ⟨C,0,none⟩ x).setCell ⟨C,1,none⟩ y)/\((w.setCell ⟨C,0,none⟩ x).setCell ⟨C,1,none⟩ y).heap[C]? =some (.cells #[x,y] t (0,0)):=by
 have h1:=aZ C [x,y] 0 w
 have h2:=bW C [x,y] 0 w _ _ h
 exact ⟨h1,h2⟩
theorem KZ (w:World) (t:TypeId) (x y:Value):Below w.heap.size w (w.alloc (.cells #[x,y] t))/\(w.alloc (.cells #[x,y] t)).heap[w.heap.size]? =some (.cells #[x,y] t (0,0)):=⟨zh w _,heap_alloc_new w _⟩
theorem JN {m:Nat} {w1 V w2:World} (xs:List fe) (hS:S=w1.heap.size) (hm:m=w1.heap.size) (hV:V=w1.alloc (.cells #[.int .i64 0,.slice none 0 0] 27)) (hb:Below V.heap.size V w2):PmSt S w1 m w2.heap.size xs 0 0 (.slice none 0 0) none (w2.alloc (.cells #[.int .i64 0,.int .i64 (-1)] 29)):=by
 obtain ⟨h1,h2⟩:=KZ w2 29 (.int .i64 0) (.int .i64 (-1))
 have hbV:Below w1.heap.size w1 V:=jK
 have hcV:V.heap[m]? =some (.cells #[.int .i64 0,.slice none 0 0] 27 (0,0)):=by rw [hV,hm];exact heap_alloc_new w1 _
 have hmV:m<V.heap.size:=(vD.1 hcV).1
 have hb2:Below w1.heap.size w1 w2:=zi hbV hb
 have hc2:=(hb.block m hmV).trans hcV
 have hm2:m<w2.heap.size:=(vD.1 hc2).1
 have hc3:=(h1.block m hm2).trans hc2
 have hS2:S<=w2.heap.size:=by rw [hS];exact hb2.size
 refine ⟨?_,vI hS2 h1.size,zj,hS2,zj,⟨_,_,hc3⟩,⟨_,_,h2⟩,⟨[],zt,uf _ _ _ _,fun y hy=>by simp at hy⟩,⟨fun q=>jd,fun q=>jd⟩,h2,none,0,[],[],⟨hc3,.inl rfl⟩,.inl ⟨rfl,rfl⟩,iM,List.Pairwise.nil,by simp [Chain],List.Perm.refl _,.inl rfl⟩
 rw [hS]
 exact zi hb2 h1
theorem mi {B:Nat} {ad:Nat->Addr} (w:World) (la:Option Addr) (lc:Nat) (xs:List fe) (hE:EnvM B ad w) (hEr:Errs B ad w) (hin:ListsIn w la xs) (hl:xs.length<9223372036854775808) (hls:∀x∈xs,x.2.2.length<9223372036854775808)
  (hact:Calls prog 6 #[] w fun e w'=>e= .returned (.bool true)/\Below w.heap.size w w'):
  Calls prog 3 #[.slice la xs.length lc] w fun e w'=>e= .returned (.bool true)/\Below w.heap.size w w':=by
 have H0:Aside (EnvM B ad w/\Errs B ad w/\ListsIn w la xs/\∀x∈xs,x.2.2.length<9223372036854775808):=⟨hE,hEr,hin,hls⟩
 clear hE hEr hin hls
 go_enter func3,ntmps3
 go_wp2_with fail
 refine hact.mono ?_
 clear hact
 rintro e w1 ⟨rfl,hb1⟩
 have HB1:Aside (Below w.heap.size w w1):=hb1
 clear hb1
 by_cases h12:12<xs.length
 ·have d1:decide ((12:Int)<(xs.length:Int))=true:=by simp;omega
  have d1n:decide (12<xs.length)=true:=zq
  go_wp2
  go_ret
  exact ⟨rfl,HB1.o⟩
 have d1:decide ((12:Int)<(xs.length:Int))=false:=zq
 have d1n:decide (12<xs.length)=false:=zq
 obtain ⟨S,hS⟩:=ze w1.heap.size
 obtain ⟨m,hm⟩:=ze w1.heap.size
 obtain ⟨V,hV⟩:=ze (w1.alloc (.cells #[.int .i64 0,.slice none 0 0] 27))
 go_upto_region 5 with fail
 rw [<-hV.o,<-hm.o]
 go_cut [5] (fun s5 wx=>∃C:Nat,s5= .pointer (some ⟨C,0,none⟩)/\Aside (PmSt S w1 m C xs 0 0 (.slice none 0 0) none wx))
 case first=>
  have hfin:=Az V
  go_wp2_with fail
  refine hfin.mono ?_
  clear hfin
  rintro e w2 ⟨rfl,hb2⟩
  go_wp2
  go_meet
  exact ⟨w2.heap.size,rfl,JN xs hS.o hm.o hV.o hb2.o⟩
 obtain ⟨C,rfl,HC⟩:=hcut
 clear hV hm
 have HSB:Aside (w.heap.size<=S):=by rw [hS.o];exact HB1.o.size
 clear hS
 go_wp2
 go_loopg [6,7] xs.length (fun kx s6 s7 wr=>∃(k:Nat) (ov:Value) (fc:Option (Nat×Nat)),ov=s6/\s7= .int .i64 (k:Int)/\k<=xs.length/\xs.length - k<=kx/\Aside (PmSt S w1 m C xs k k ov fc wr/\∀x∈xs.take k,x.2.2.length<=20/\il x.2.2))
 case atStart=>exact ⟨0,_,none,rfl,rfl,vM _,vB _,HC.o,fun x hx=>zW⟩
 case round=>
  clear HC
  obtain ⟨k,ov,fc,rfl,rfl,hk,hkx,A⟩:=hrel
  obtain ⟨u,hu⟩:=zc wr
  subst hu
  have HBU:Aside (Below w.heap.size w u):=HB1.o.trans (A.o.1.below.mono HSB.o)
  by_cases hlt:k<xs.length
  ·have d2:decide ((k:Int)<(xs.length:Int))=true:=by simp;omega
   have d2n:decide (k<xs.length)=true:=zq
   have wk:((k:Int)).toNat=k:=zj
   have pk:(0:Int)<=(k:Int):=zj
   have bk:(k:Int)<(xs.length:Int):=zj
   obtain ⟨x,hx⟩:∃x,Aside (xs[k]? =some x):=⟨xs[k],vF hlt⟩
   have HXM:Aside (x∈xs):=vH hx.o
   have HLR:Aside (∀W,Below w.heap.size w W->ListsIn W la xs):=fun W hW=>H0.o.2.2.1.later hW
   obtain ⟨g,o,hla,c0⟩:=mJ (HLR.o u HBU.o).row hx.o
   have hlong:=OM 20 u x.1 x.2.1 x.2.2 ((HLR.o u HBU.o).ops x HXM.o) (H0.o.2.2.2 x HXM.o)
   subst hla
   go_wp2_with fail
   refine hlong.mono ?_
   clear hlong
   rintro e w2 ⟨he,hw2⟩
   obtain rfl:u=w2:=hw2.symm
   clear hw2
   rcases he with rfl | ⟨rfl,hl20,hsh⟩
   ·go_wp2
    go_ret
    exact ⟨rfl,HBU.o⟩
   have HSH:Aside (x.2.2.length<=20/\il x.2.2):=⟨hl20,tl hsh⟩
   have how:=Kc u x.1 x.2.1 x.2.2 ((HLR.o u HBU.o).ops x HXM.o) zj
   clear hl20 hsh
   go_wp2_with fail
   refine how.mono ?_
   clear how c0
   rintro e w2 ⟨an,cn,rfl,H2⟩
   obtain ⟨hin2,hnew2,hb2⟩:=H2.o
   have hst2:=A.o.1.later hb2
   obtain ⟨ys,y1,y2,y3⟩:=hst2.own
   obtain ⟨oa,oc,hov⟩:=fh y2
   obtain ⟨v',w6,hrun,HO⟩:=Iy (x:=(an,cn,x.2.2)) y2 hst2.size zj
   have H6:Aside (PmSt S w1 m C xs (k+1) k v' fc w6/\Below w.heap.size w w6):=by
    have q:=A.o.1.more hx.o an cn hb2 hin2 hnew2 HO.o.2.1 ys y1 y2 y3 HO.o.1 HO.o.2.2
    exact ⟨q,HB1.o.trans (q.below.mono HSB.o)⟩
   have HSZ:Aside (∀y∈xs.take (k+1),y.2.2.length<=20/\il y.2.2):=fun y hy=>by
    rw [uA,hx.o] at hy
    rcases vL.1 hy with q | q
    ·exact A.o.2 y q
    simp at q
    rw [q]
    exact HSH.o
   subst hov
   clear HO y1 y2 y3 hst2 hin2 hnew2 hb2 H2
   cases fc with
   | some p=>
    obtain ⟨i,cd⟩:=p
    have hC6:w6.cell? ⟨C,0,none⟩=some (.int .i64 (cd:Int)):=(ep H6.o.1.ref.1).1
    have h1:=H6.o.1.ref.2.1
    have e1:decide ((0:Int)<(cd:Int))=true:=zq
    have e1n:decide (0<cd)=true:=zq
    clear h1
    go_wp2_with (at_builtin;refine Lib.wpList_append_run _ rfl _ _ _ _ rfl _ _ rfl rfl _ _ hrun ?_)
    clear hrun
    go_roundg (xs.length - (k+1))
    case measure=>omega
    case rel=>exact ⟨k+1,v',some (i,cd),rfl,zw,zj,vB _,H6.o.1.skip,HSZ.o⟩
   | none=>
    have hC6:w6.cell? ⟨C,0,none⟩=some (.int .i64 0):=(ep H6.o.1.ref.1).1
    obtain ⟨q1,ao,cap,Sx,D,hR,hsp,hW,hs,hCh,hP,ha⟩:=H6.o.1.ref
    have hSl:Sx.length<=300:=by
     have r1:=hP.length_eq
     have r2:=fA hCh
     have r3:me ((xs.map dH).take k)<=((xs.map dH).take k).length*20:=oF (fun l hl=>by
      rw [<-List.map_take] at hl
      obtain ⟨y,hy,rfl⟩:=uh.1 hl
      exact (A.o.2 y hy).1)
     have r4:((xs.map dH).take k).length<=12:=by rw [vW,ul];omega
     have r5:=uC 20 r4
     simp at r2
     omega
    have HJ:Aside (∀W,Below w6.heap.size w6 W->Calls prog 10 #[.pointer (some ⟨m,0,none⟩),.slice x.1 x.2.2.length x.2.1] W (AO m 0 ao cap Sx x.2.2 W)):=fun W hbW=>
     DE W x.1 x.2.1 x.2.2 (hR.later hbW) hsp hW ((HLR.o W (zi H6.o.2 hbW)).ops x HXM.o) HSH.o.2 zj (by have:=HSH.o.1;omega)
    have HQ:Aside (∀W W' a,Below w6.heap.size w6 W->aK Sx x.2.2 a->Keeps (fun k=>k=m) W W'->(match a with
      | .inl (i,cd)=>MRp W' m 0 ao cap Sx
      | .inr fresh=>∃ao' cap' S',MRp W' m 0 ao' cap' S'/\Shp ao' cap'/\S'.Perm (Sx++fresh)/\S'.Pairwise (fun a b=>¬CLt (stO b) (stO a))/\∀b o,ao'=some ⟨b,o,none⟩->W.heap.size<=b)->
      match a with
      | .inl (i,cd)=>0<cd/\cd<=12/\PmSt S w1 m C xs (k+1) k v' none W'/\∃Sx D ix,WellK Sx/\Chain [] ((xs.map dH).take k) D/\Sx.Perm D/\aK Sx x.2.2 (.inl (ix,cd))
      | .inr fresh=>PmSt S w1 m C xs (k+1) (k+1) v' none W'):=fun W W' a hbW hJ hk h=>by
     have hst:=H6.o.1.later hbW
     rcases a with ⟨ix,cd⟩ | fresh
     ·exact ⟨(iF hJ).1,(iF hJ).2.1,hst.stay hsp hW hs hCh hP ha hk h,Sx,D,ix,hW,hCh,hP,hJ⟩
     obtain ⟨ao',cap',S',r1,r2,r3,r4,r5⟩:=h
     exact hst.joined hx.o hW hs hCh hP hJ hk r1 r2 r3 r4 r5
    obtain ⟨g2,o2,hla2,c2⟩:=mJ (HLR.o w6 H6.o.2).row hx.o
    cases hla2
    clear q1 hR hsp hW hs hCh hP ha hSl
    go_upto_region 15 with (at_builtin;refine Lib.wpList_append_run _ rfl _ _ _ _ rfl _ _ rfl rfl _ _ hrun ?_)
    clear hrun
    go_cut [9,10] (fun s9 s10 wx=>∃G cd:Nat,s10= .pointer (some ⟨G,0,none⟩)/\Aside (PmJ S w1 m C xs k v' x G cd wx))
    case first=>
     have hj:=HJ.o w6 (vG _ _)
     go_wp2_with fail
     refine hj.mono ?_
     clear hj
     rintro e w7 ⟨a,hJ,hkp,hmm⟩
     have hq:=HQ.o w6 w7 a (vG _ _) hJ hkp
     rcases a with ⟨ix,cd⟩ | fresh
     ·obtain ⟨rfl,hR7⟩:=hmm
      have HQ7:Aside (0<cd/\cd<=12/\PmSt S w1 m C xs (k+1) k v' none w7/\∃Sx D ix,WellK Sx/\Chain [] ((xs.map dH).take k) D/\Sx.Perm D/\aK Sx x.2.2 (.inl (ix,cd))):=hq hR7
      clear hq hJ hkp hR7
      go_wp2
      go_meet
      obtain ⟨n1,n2⟩:=KZ w7 29 (.int .i64 (cd:Int)) (.int .i64 ix)
      exact ⟨w7.heap.size,cd,rfl,⟨ix,n2⟩,.inr ⟨HQ7.o.1,HQ7.o.2.1,HQ7.o.2.2.1.later n1,HQ7.o.2.2.2⟩⟩
     obtain ⟨rfl,hR7⟩:=hmm
     have HQ7:Aside (PmSt S w1 m C xs (k+1) (k+1) v' none w7):=hq hR7
     clear hq hJ hkp hR7
     go_wp2
     go_meet
     obtain ⟨n1,n2⟩:=KZ w7 29 (.int .i64 0) (.int .i64 (-1))
     exact ⟨w7.heap.size,0,rfl,⟨-1,n2⟩,.inl ⟨rfl,HQ7.o.later n1⟩⟩
    obtain ⟨G,cd,rfl,HG⟩:=hcut
    clear HJ HQ hC6 c2
    obtain ⟨⟨ix,hG⟩,hcase⟩:=HG.o
    have g0:wc.cell? ⟨G,0,none⟩=some (.int .i64 (cd:Int)):=(ep hG).1
    rcases hcase with ⟨rfl,hst⟩ | ⟨h0,h12c,hst,hmore⟩
    ·have HST:Aside (PmSt S w1 m C xs (k+1) (k+1) v' none wc):=hst
     clear hst HG hG
     go_wp2
     go_roundg (xs.length - (k+1))
     case measure=>omega
     case rel=>exact ⟨k+1,v',none,rfl,zw,zj,vB _,HST.o,HSZ.o⟩
    have HST:Aside (PmSt S w1 m C xs (k+1) k v' none wc/\∃Sx D ix,WellK Sx/\Chain [] ((xs.map dH).take k) D/\Sx.Perm D/\aK Sx x.2.2 (.inl (ix,cd))):=⟨hst,hmore⟩
    obtain ⟨z0,z1,zf⟩:=ep (a:=.int .i64 0) (b:=.int .i64 (-1)) hst.ref.1
    have zf0:=zf 0
    have zf1:=zf 1
    have e1:decide ((0:Int)<(cd:Int))=true:=zq
    have e1n:decide (0<cd)=true:=zq
    clear hst hmore HG hG zf
    go_wp2
    go_roundg (xs.length - (k+1))
    case measure=>omega
    case rel=>
     refine ⟨k+1,v',some (k,cd),rfl,zw,zj,vB _,?_,HSZ.o⟩
     obtain ⟨Sx,D,ix',r1,r2,r3,r4⟩:=HST.o.2
     refine HST.o.1.wrote hx.o r1 r2 r3 r4 ?_ ?_
     ·exact (NK HST.o.1.ref.1 _ _).1
     exact (NK HST.o.1.ref.1 _ _).2
  have d2:decide ((k:Int)<(xs.length:Int))=false:=zq
  have d2n:decide (k<xs.length)=false:=zq
  obtain rfl:k=xs.length:=zj
  obtain ⟨hst,hsz⟩:=A.o
  obtain ⟨ys,y1,y2,y3⟩:=hst.own
  obtain ⟨oa,oc,hov⟩:=fh y2
  rw [uU] at y1 hsz
  have hyl:ys.length=xs.length:=by
   have:=congrArg List.length y1
   exact kp3
  have hE:=H0.o.1.mono (HBU.o.mono (by exact H0.o.1.t.env.size))
  have hEr:=H0.o.2.1.mono (HBU.o.mono (by exact H0.o.2.1.size))
  have hmem:∀y∈ys,y.2.2.length<=20/\il y.2.2:=fun y hy=>by
   have:dH y∈xs.map dH:=by rw [<-y1];exact List.mem_map_of_mem hy
   obtain ⟨x,hx,e⟩:=uh.1 this
   have:=hsz x hx
   unfold dH at e
   rw [<-e]
   exact this
  have htot:me (ys.map dH)<=250:=by
   have r1:me (ys.map dH)<=(ys.map dH).length*20:=oF (fun l hl=>by
    obtain ⟨y,hy,rfl⟩:=uh.1 hl
    exact (hmem y hy).1)
   rw [ul,hyl] at r1
   omega
  rw [hov,<-hyl] at y2
  have hmg:=FH u oa oc ys hE.t hEr ⟨Ep y2,fun y hy=>(y3 y hy).1⟩ zj (fun y hy=>(hmem y hy).2) htot
  rw [y1,hyl] at hmg
  have HX:Aside (PmSt S w1 m C xs xs.length xs.length ov fc u/\EnvM B ad u/\Errs B ad u/\me (xs.map dH)<=250):=⟨hst,hE,hEr,by rw [<-y1];exact htot⟩
  subst hov
  clear A hst hsz y1 y2 y3 hyl hE hEr hmem htot
  go_wp2_with fail
  refine hmg.mono ?_
  clear hmg
  rintro e w2 ⟨a,hMg,hb2,hout⟩
  cases fc with
  | some p=>
   obtain ⟨i,cd⟩:=p
   obtain ⟨r1,r2,r3,r4⟩:=HX.o.1.ref
   obtain rfl:=Js hMg r4
   obtain ⟨_,_,v,rfl,hv⟩:=hout
   have hfl:=JU w2 v (i:Int) cd (HX.o.2.2.1.later hb2) r2 r3 hv
   have hC2:=(hb2.block C (vD.1 r1).1).trans r1
   obtain ⟨z0,z1,-⟩:=ep hC2
   obtain ⟨bf,rfl,-⟩:=id hv
   have HB2:Aside (Below w.heap.size w w2):=zi HBU.o hb2
   have e1:decide ((0:Int)<(cd:Int))=true:=zq
   have e1n:decide (0<cd)=true:=zq
   clear hMg hb2 hv r1 r2 r3 r4 hC2
   go_wp2_with fail
   refine hfl.mono ?_
   clear hfl
   rintro e w3 ⟨rfl,hb3⟩
   have HB3:Aside (Below w.heap.size w w3):=zi HB2.o hb3.o
   clear hb3
   go_wp2
   go_ret
   exact ⟨rfl,HB3.o⟩
  | none=>
   obtain ⟨r1,ao,cap,Sx,D,hR,hsp,hW,hs,hCh,hP,ha⟩:=HX.o.1.ref
   have hCh':GE (xs.map dH) (.inr D):=by
    have:(xs.map dH).take xs.length=xs.map dH:=by rw [vT];simp
    rw [this] at hCh
    exact hCh
   obtain rfl:=Js hMg hCh'
   obtain ⟨s,A2,rfl,hA2,hWA,hsA⟩:=hout
   have hlen:Sx.length<=250:=by
    have q1:=hP.length_eq
    have q2:=fA (show Chain [] (xs.map dH) D from hCh')
    have q3:=HX.o.2.2.2
    simp at q2
    omega
   have hsta:=Bl w2 (hR.later hb2) hsp hW hs hlen
   have hC2:=(hb2.block C (vD.1 r1).1).trans r1
   obtain ⟨z0,z1,-⟩:=ep hC2
   have HB2:Aside (Below w.heap.size w w2):=zi HBU.o hb2
   have HS2:Aside (∀t:ByteArray,StateIs Sx t.data.toList->t=⟨s.toArray⟩):=fun t ht=>Ki hW (hP.trans hA2.symm) hsA ht
   clear hMg hb2 r1 hR hsp hW hs hCh hCh' hP ha hA2 hWA hsA hlen hC2
   go_wp2_with fail
   refine hsta.mono ?_
   clear hsta
   rintro e w3 ⟨t,rfl,H3⟩
   have ht:=HS2.o t H3.o.1
   subst ht
   have HB3:Aside (Below w.heap.size w w3):=zi HB2.o H3.o.2
   clear H3
   go_wp2
   go_ret
   exact ⟨rfl,HB3.o⟩
end Go.Proofs.YtebpcnkdhgnghaaGreatDoor
end
section
namespace Go.Proofs.YtebpcnkdhgnghaaGreatDoor
open Go.Proofs.Tryz
open Go Go.RowKit Go.Lib Go.Sort Go.Maps
open scoped Classical
variable {N:List ae} {G:List OpX} {B bm i:Nat} {ad:Nat→Addr} {st:Nat→DSt} {D:Nat→List OpX} {gd:Nat→Option Obj} {K:Nat→Rws}
theorem Ci (w:World) (v:Int) (hv:Ma v) (h16:v<0\/v % 16=0) (h:MeshS gd B 3 bm K st N w) (hI:MeshI 3 i G K D st N) (hN:N.length<=30) (hE:EnvM B ad w) (hEr:Errs B ad w) (hi:i<=154):
  Calls prog 43 #[.pointer (some ⟨bm,0,none⟩),.int .i64 v] w (Mq gd B bm i K st N v w):=by
 unfold Ma at hv
 by_cases hneg:v<0
 ·have d1:decide (v<0)=true:=by simp;omega
  go_enter func43,ntmps43
  go_wp2
  go_ret
  exact ⟨-1,G,K,D,st,N,rfl,⟨h,vG _ w,hI.up zj,hN⟩,.inl ⟨hneg,rfl,rfl,rfl,rfl⟩⟩
 have d1:decide (v<0)=false:=zq
 obtain ⟨m,rfl⟩:∃m:Nat,v=(m:Int):=⟨v.toNat,zj⟩
 have hst:=tK m zj w
 have HM:Aside (MeshS gd B 3 bm K st N w/\MeshI 3 i G K D st N/\EnvM B ad w/\Errs B ad w):=⟨h,hI,hE,hEr⟩
 have hB0:B<=w.heap.size:=hEr.size
 clear h hI hE hEr
 go_enter func43,ntmps43
 go_wp2_with fail
 refine hst.mono ?_
 clear hst
 rintro e w1 ⟨rfl,hb1⟩
 have hpl:=Hs w1 (m % 16) (m / 16 % 3) (m / 16 / 3) zj zj zj (HM.o.1.later hb1) HM.o.2.1 hN (HM.o.2.2.1.later hb1) hi
 have HB1:Aside (Below B w w1):=hb1.mono hB0
 clear hb1
 obtain ⟨k1,hk1⟩:=ze (m % 16)
 obtain ⟨k2,hk2⟩:=ze (m / 16 % 3)
 obtain ⟨k3,hk3⟩:=ze (m / 16 / 3)
 rw [<-hk1.o,<-hk2.o,<-hk3.o] at hpl |-
 go_wp2_with fail
 refine hpl.mono ?_
 clear hpl
 rintro e w2 ⟨cd,G2,K2,D2,st2,N2,rfl,H2,HX⟩
 have hcode:=Lo w2 (HM.o.2.2.2.mono (HB1.o.trans H2.o.2.1)) cd HX.o.1
 obtain ⟨ev,hev⟩:=ze (eV ad cd)
 rw [<-hev.o] at hcode |-
 go_wp2_with fail
 refine hcode.mono ?_
 clear hcode
 rintro e w3 ⟨rfl,hb3⟩
 have HB3:Aside (MeshS gd B 3 bm K2 st2 N2 w3/\Below B w w3):=⟨H2.o.1.later hb3,(HB1.o.trans H2.o.2.1).trans (hb3.mono (vI hB0 (HB1.o.trans H2.o.2.1).size))⟩
 clear hb3
 go_wp2
 go_ret
 refine ⟨(cd:Int),G2,K2,D2,st2,N2,rfl,⟨HB3.o.1,HB3.o.2,H2.o.2.2.1,H2.o.2.2.2⟩,.inr ⟨m,cd,rfl,rfl,?_⟩⟩
 have:=HX.o.2
 rw [hk1.o,hk2.o,hk3.o] at this
 exact this
theorem Lh (w:World) (so:Option Addr) (cap:Nat) (xs:List Int) (hx:∀x∈xs,Ma x/\(x<0\/x % 16=0)) (hs:xs= []\/∃g o ob,so=some ⟨g,o,none⟩/\gd g=some ob/\∀W:World,W.heap[g]? =some ob->NumsAt W g o xs) (h:MeshS gd B 3 bm K st N w) (hI:MeshI 3 i G K D st N) (hN:N.length<=30) (hE:EnvM B ad w) (hEr:Errs B ad w) (hi:i+xs.length<=155) (hcap:xs.length<=cap):
  Calls prog 16 #[.pointer (some ⟨bm,0,none⟩),.slice so xs.length cap] w (Md gd B bm i K st N xs w):=by
 have HM:Aside (EnvM B ad w/\Errs B ad w/\(∀x∈xs,Ma x/\(x<0\/x % 16=0))/\(xs= []\/∃g o ob,so=some ⟨g,o,none⟩/\gd g=some ob/\∀W:World,W.heap[g]? =some ob->NumsAt W g o xs)):=⟨hE,hEr,hx,hs⟩
 have HS:Aside (MeshQ gd B 3 bm K st N (.slice none 0 0) [] w/\Below B w w/\MeshI 3 i G K D st N/\N.length<=30):=⟨MeshQ.bare h,vG _ w,hI,hN⟩
 have hB0:B<=w.heap.size:=hEr.size
 clear hE hEr hx hs h hI hN
 go_enter func16,ntmps16
 go_wp2
 go_loopg [5,18] xs.length (fun kx s5 s18 wr=>∃(k:Nat) (ov:Value),ov=s5/\s18= .int .i64 (k:Int)/\k<=xs.length/\xs.length - k<=kx/\Aside (∃(cs:List Int) (G':List OpX) (K':Nat->Rws) (D':Nat->List OpX) (st':Nat->DSt) (N':List ae),MeshQ gd B 3 bm K' st' N' ov cs wr/\Below B w wr/\MeshI 3 (i+k) G' K' D' st' N'/\N'.length<=30/\RX K st N (xs.take k) K' st' N' cs/\cs.length=k))
 case atStart=>exact ⟨0,_,rfl,rfl,vM _,vB _,[],G,K,D,st,N,HS.o.1,HS.o.2.1,HS.o.2.2.1,HS.o.2.2.2,⟨rfl,rfl,rfl,rfl⟩,rfl⟩
 case round=>
  obtain ⟨k,ov,rfl,rfl,hk,hkx,A⟩:=hrel
  clear HS
  by_cases hlt:k<xs.length
  ·have d1:decide ((k:Int)<(xs.length:Int))=true:=by simp;omega
   have wk:((k:Int)).toNat=k:=zj
   have pk:(0:Int)<=(k:Int):=zj
   have bk:(k:Int)<(xs.length:Int):=zj
   obtain ⟨cs,G1,K1,D1,st1,N1,hQ,hb,hI1,hN1,hR,hcl⟩:=A.o
   obtain ⟨x,hx⟩:∃x,Aside (xs[k]? =some x):=⟨xs[k],vF hlt⟩
   obtain ⟨g,o,ob,hso,hgo,hnu⟩:∃g o ob,so=some ⟨g,o,none⟩/\gd g=some ob/\∀W:World,W.heap[g]? =some ob->NumsAt W g o xs:=by
    rcases HM.o.2.2.2 with e | e
    ·rw [e] at hlt;simp at hlt
    exact e
   subst hso
   have c0:=hnu wr (hQ.mesh.held hgo) k x hx.o
   have hans:=Ci wr x (HM.o.2.2.1 x (vH hx.o)).1 (HM.o.2.2.1 x (vH hx.o)).2 hQ.1 hI1 hN1 (HM.o.1.mono hb) (HM.o.2.1.mono hb) zj
   have HA:Aside (MeshQ gd B 3 bm K1 st1 N1 ov cs wr/\Below B w wr/\RX K st N (xs.take k) K1 st1 N1 cs/\cs.length=k):=⟨hQ,hb,hR,hcl⟩
   obtain ⟨u0,hu0⟩:=zc wr
   subst hu0
   clear A hQ hb hI1 hN1 hR hcl hgo hnu
   go_wp2_with fail
   refine hans.mono ?_
   clear hans c0
   rintro e w2 ⟨c,G2,K2,D2,st2,N2,rfl,H2,HX⟩
   have hQ2:=HA.o.1.on H2.o.1
   have hB2:B<=w2.heap.size:=vI hB0 (vI HA.o.2.1.size H2.o.2.1.size)
   obtain ⟨v',w6,hrun,HO⟩:=Iq hQ2.2.1 hB2 c (by have:=HA.o.2.2.2;omega)
   have hbY:Below w2.heap.size w2 (w2.alloc (.cells #[.int .i64 c] 3)):=zh w2 _
   have hQY:=hQ2.on (hQ2.1.later hbY)
   have hQ6:MeshQ gd B 3 bm K2 st2 N2 v' (cs++ [c]) w6:=hQY.more (aV HO.o.2.1) (by
    rw [vN,ah]
    exact HO.o.1) HO.o.2.2.2
   have H6:Aside (MeshQ gd B 3 bm K2 st2 N2 v' (cs++ [c]) w6/\Below B w w6/\MeshI 3 (i+(k+1)) G2 K2 D2 st2 N2/\N2.length<=30/\RX K st N (xs.take (k+1)) K2 st2 N2 (cs++ [c])/\(cs++ [c]).length=k+1):=⟨hQ6,(HA.o.2.1.trans H2.o.2.1).trans HO.o.2.2.1,H2.o.2.2.1,H2.o.2.2.2,by
    rw [uA,hx.o]
    exact HA.o.2.2.1.snoc HX.o,by rw [vN,HA.o.2.2.2];rfl⟩
   clear HO hbY hQY hQ6 hQ2 H2 HX HA
   go_wp2_with (at_builtin;refine Lib.wpList_append_run _ rfl _ _ _ _ rfl _ _ rfl rfl _ _ hrun ?_)
   clear hrun
   go_wp2
   go_roundg (xs.length - (k+1))
   case measure=>omega
   case rel=>exact ⟨k+1,v',rfl,zw,zj,vB _,cs++ [c],G2,K2,D2,st2,N2,H6.o⟩
  have d1:decide ((k:Int)<(xs.length:Int))=false:=zq
  obtain rfl:k=xs.length:=zj
  obtain ⟨cs,G1,K1,D1,st1,N1,hQ,hb,hI1,hN1,hR,hcl⟩:=A.o
  have H6:Aside (MeshQ gd B 3 bm K1 st1 N1 ov cs wr/\Below B w wr/\MeshI 3 (i+xs.length) G1 K1 D1 st1 N1/\N1.length<=30):=⟨hQ,hb,hI1,hN1⟩
  have H7:Aside (RX K st N xs K1 st1 N1 cs/\cs.length=xs.length):=⟨by rw [uU] at hR;exact hR,hcl⟩
  clear A hQ hb hI1 hN1 hR hcl
  go_wp2
  go_ret
  exact ⟨ov,cs,G1,K1,D1,st1,N1,rfl,H6,H7⟩
theorem II {S:Nat} (w1 W:World) (b:Nat) (h:MeshS (fun _=>none) S 3 bm K st [] w1) (hK:∀r,r<3->K r=fun _=>[]) (hst:∀r,r<3->st r=([],false,false,0)) (hS:S<=w1.heap.size) (hE:EnvM S ad w1) (hEr:Errs S ad w1) (hb:Below w1.heap.size w1 W) (hbb:w1.heap.size<=b) (hblk:W.heap[b]? =some (three 0 (-1) 144)):
  Calls prog 16 #[.pointer (some ⟨bm,0,none⟩),.slice (some ⟨b,0,none⟩) 3 3] W (FQ S w1 W):=by
 have hI:MeshI 3 0 [] K (fun _=>[]) st []:=by
  refine ⟨(MInv.start 3 _).congr (fun r hr x=>by rw [kg (hK r hr)]),fun r hr=>by rw [hst r hr];exact DD,fun x hx=>zW,fun r hr=>by rw [hK r hr];exact pG⟩
 have hlt:b<W.heap.size:=(vD.1 hblk).1
 have hrun:=Lh (B:=S) (ad:=ad) W (some ⟨b,0,none⟩) 3 [0,-1,144] (fun x hx=>by simp at hx;unfold Ma;omega) (.inr ⟨b,0,three 0 (-1) 144,rfl,by rw [if_pos ⟨hbb,hlt⟩];exact hblk,fun V hV=>CT hV⟩) (h.wardNew hb hS) hI zt (hE.later hb) (hEr.later hb) zt zt
 refine hrun.mono ?_
 rintro e w' ⟨v,cs,G',K',D',st',N',rfl,H1,H2⟩
 obtain ⟨hq,hbw,_,_⟩:=H1.o
 obtain ⟨hx,_⟩:=H2.o
 have hcs:=LO (hK 0 zj) (hst 0 zj) hx
 subst hcs
 obtain ⟨ao,cap,rfl⟩:=Ei hq.2.1
 refine ⟨ao,cap,rfl,tQ (B:=S) hq.2.1,fun k o hk ho=>hq.mesh.held (q:=k) (o:=o) ?_,hbw⟩
 show (if _ then _ else _)=_
 rw [if_pos ⟨hk,(vD.1 ho).1⟩]
 exact ho
theorem Da (w:World) (hE0:EnvM B ad w) (hEr0:Errs B ad w):
  Calls prog 6 #[] w fun e w'=>e= .returned (.bool true)/\Below w.heap.size w w':=by
 obtain ⟨S,hS⟩:=ze w.heap.size
 have hE:EnvM S ad w:=by rw [hS.o];exact hE0.up hE0.t.env.size zg
 have hEr:Errs S ad w:=by rw [hS.o];exact hEr0.up hEr0.size zg
 have hnew:=Hf (B:=S) w 3 zj zj (by rw [hS.o];exact vB _)
 have HE:Aside (EnvM S ad w/\Errs S ad w):=⟨hE,hEr⟩
 clear hE hE0 hEr hEr0
 go_enter func6,ntmps6
 go_wp2_with fail
 refine hnew.mono ?_
 clear hnew
 rintro e w1 ⟨bm,rfl,H1⟩
 have HB1:Aside (Below S w w1/\S<=w1.heap.size):=by
  obtain ⟨K0,st0,hm1,hb1,hK0,hst0,hbm⟩:=H1.o
  rw [hS.o]
  exact ⟨hb1,hb1.size⟩
 have HR:Aside (∀W b,Below w1.heap.size w1 W->w1.heap.size<=b->W.heap[b]? =some (three 0 (-1) 144)->Calls prog 16 #[.pointer (some ⟨bm,0,none⟩),.slice (some ⟨b,0,none⟩) 3 3] W (FQ S w1 W)):=by
  obtain ⟨K0,st0,hm1,hb1,hK0,hst0,hbm⟩:=H1.o
  exact fun W b h1 h2 h3=>II w1 W b hm1 hK0 hst0 HB1.o.2 (HE.o.1.mono HB1.o.1) (HE.o.2.mono HB1.o.1) h1 h2 h3
 clear H1
 have hbW:Below w1.heap.size w1 (w1.alloc (.cells #[.int .i64 0,.int .i64 (-1),.int .i64 144] 3)):=zh w1 _
 have hrun:=HR.o _ w1.heap.size hbW zg (heap_alloc_new w1 _)
 have HW:Aside (Below S w1 (w1.alloc (.cells #[.int .i64 0,.int .i64 (-1),.int .i64 144] 3))):=hbW.mono HB1.o.2
 clear hbW HR
 go_wp2_with fail
 refine hrun.mono ?_
 clear hrun
 rintro e w2 ⟨ao,cap,rfl,hrow,hheld,hb2⟩
 have hbX:Below w2.heap.size w2 (w2.alloc (.cells #[.int .i64 0,.int .i64 (-1),.int .i64 0] 3)):=zh w2 _
 have hsame:=rg (w2.alloc (.cells #[.int .i64 0,.int .i64 (-1),.int .i64 0] 3)) ao (some ⟨w2.heap.size,0,none⟩) cap 3 [0,-1,0] zt (hrow.later hbX) (DU (heap_alloc_new w2 _))
 have H2:Aside (Below S w (w2.alloc (.cells #[.int .i64 0,.int .i64 (-1),.int .i64 0] 3))/\S<=w2.heap.size):=by
  have q:=(HB1.o.1.trans HW.o).trans hb2
  have q2:S<=w2.heap.size:=by rw [hS.o];exact q.size
  exact ⟨q.trans (hbX.mono q2),q2⟩
 clear hrow hheld hb2 hbX HW
 go_wp2_with fail
 refine hsame.mono ?_
 clear hsame
 rintro e w3 ⟨rfl,hb3⟩
 have H3:Aside (Below S w w3):=H2.o.1.trans (hb3.mono (by simp;have:=H2.o.2;omega))
 clear hb3
 go_wp2
 go_ret
 exact ⟨rfl,by rw [<-hS.o];exact H3.o⟩
end Go.Proofs.YtebpcnkdhgnghaaGreatDoor
end
section
namespace Go.Proofs.YtebpcnkdhgnghaaGreatDoor.PMerges
open Go.Proofs.Tryz
open Go.ChangeShapes Go.WideShapes Go.ChangeAt Go.RowKit Go.Joins Go.ChangeMaps
theorem own:ownKnob prog.godebug=none:=zo
theorem KS:laidOutB prog=true:=zo
theorem Ab {W:World} (h:laidMetH prog Rows.playMergesRow.laid W) (hsh:W.ShapedOpen prog):∃ad:Nat->Addr,EnvM W.heap.size ad W/\Errs W.heap.size ad W:=by
 have h':laidMet prog plainLaid W/\handlesMet prog kO W:=h
 have h1:laidMet prog pZ W:=h'.1
 exact Ll h1 h'.2 hsh
theorem NP {H:Type} {enc:TypeId×Value->H} {C:Checked} {os:Os} {f:FuncId} {fn:Func} {s:ChangeSpec} {apart fresh handsOn again:Bool} {X:World->Array Value->Prop}
  (hX:∀(w w':World) (args:Array Value),w.heap=w'.heap->X w args->X w' args)
  (own:ownKnob C.prog.godebug=none) (started:os.Started) (noInit:C.prog.inits.idxOf? f=none) (hfn:C.prog.funcs[f]? =some fn)
  (witness:∃(w:World) (tape:Tape) (i:Input),w.os=os/\(w.forCall tape i).Shaped C.prog/\i.vars= []/\Input.okWide C.prog (w.forCall tape i) .any w.heap.size f i/\
   ((s.pre enc C.prog fn [] apart (w.forCall tape i).memory i.args/\X (w.forCall tape i).memory i.args)/\sizedMet enc C.prog fn (OpenSpec.ofChange s) apart (w.forCall tape i).memory i.args)/\({} :Assume).holds C.prog (lone (Frame.enter C.prog f i.args .normal) [] (w.forCall tape i)))
  (contract:∀(W:World) (base:Nat) (args:Array Value) (ds gs:List (DataW H)) (before:List MemPlace),
   (∀(j:Nat) t v,fn.params[j]? =some t->args[j]? =some v->Value.okWide C.prog W .any base t v)->
   DataW.Whole enc C.prog fn.params.toList s.vars apart W args.toList ds gs before->X W args->W.ShapedOpen C.prog->
   Calls C.prog f args W fun e W'=>∃v,e= .returned v/\s.post enc C.prog fn apart fresh handsOn again W args v W'):
  ReturnsInHanded {} C os f .any (fun w args=>(s.pre enc C.prog fn [] apart w args/\X w args)/\sizedMet enc C.prog fn (OpenSpec.ofChange s) apart w args) (s.post enc C.prog fn apart fresh handsOn again):=by
 refine returnsInHanded_of_calls own started noInit witness ?_
 intro w tape i _ shape _ ok pre _
 obtain ⟨-,-,-,g,hg,-,-,-,-,vals⟩:=ok
 obtain rfl:g=fn:=Option.some.inj (hg.symm.trans hfn)
 obtain ⟨⟨⟨ds,gs,before,whole,-⟩,listed⟩,-⟩:=pre
 refine (contract (w.forCall tape i) w.heap.size i.args ds gs before vals (DataW.Whole.of_heap (w':=w.forCall tape i) zv whole) (hX _ _ _ zv listed) shape).mono ?_
 rintro _ W' ⟨v,rfl,post⟩
 exact ChangeSpec.post_blind post
theorem NX (os:Os) (started:os.Started) (H:Type) (enc:TypeId×Value->H):
  ReturnsInHanded {} Tryz.checked os 3 .any (fun w args=>(Rows.playMergesSpec.pre enc prog f3 [] false w args/\laidMetH prog Rows.playMergesRow.laid w)/\sizedMet enc prog f3 (OpenSpec.ofChange Rows.playMergesSpec) false w args)
   (Rows.playMergesSpec.post enc prog f3 false true false false):=by
 refine NP (C:=Tryz.checked) (X:=fun w _=>laidMetH prog Rows.playMergesRow.laid w) (fun _ _ _ hh h=>h.of_heap hh) own started zo func3
  (ChangeSpec.witness_shaped (enc:=enc) (C:=Tryz.checked) (os:=os) (X:=fun w _=>laidMetH prog Rows.playMergesRow.laid w) false ((World.doorLaid prog 400 os).layVars prog plainLaid) #[.slice none 0 0] 8 (World.layVars_os _ _ _) (Cr os _) zo zo zo (LH os _)) ?_
 intro W base args ds gs before hval0 hW hL hsh
 have hval:∀(j:Nat) t v,f3.params[j]? =some t->args[j]? =some v->Value.okWide prog W .any base t v:=hval0
 have hW':=hW
 obtain ⟨p,q,hA0,hV,rfl,hfz,hnd⟩:=hW
 have hA:DataW.TrodAll enc prog W 0 (fun _=>true) true f3.params.toList args.toList ds p:=hA0
 rw [params3] at hA hval
 obtain ⟨z0,d0,rfl,rfl,h0⟩:=trodAll_one hA
 obtain ⟨rfl,rfl⟩:=trodVars_none hV
 obtain ⟨ao,len,cap,rfl⟩:=okWide_slice underlying22 (hval 0 22 z0 rfl rfl)
 obtain ⟨xs,rfl,hmax,hX,hok⟩:=Dl h0
 obtain ⟨ad,hE,hR⟩:=Ab hL hsh
 have walk:Calls prog 3 #[.slice ao xs.length cap] W fun e w'=>e= .returned (.bool true)/\Below W.heap.size W w':=
  mi W ao cap xs hE hR hX (by simp only [maxLen] at hmax;omega) hok (Da W hE hR)
 refine walk.mono fun e W' ⟨he,hb⟩=> ?_
 subst he
 have hlt0:∀x∈p,x.block<W.heap.size:=fun x hx=>by simpa using hW'.lt x (by simp [hx])
 refine ⟨_,rfl,_,_,_,[],p,[],hW',?_,?_,?_,hb.frame _,fun h=>qD⟩
 ·exact trodAll_mk1 (shut_bool underlying4 true)
 ·exact trodAll_mk1 (Below.trod KS zo (of_decide_eq_true zo) h0 hb hlt0)
 rfl
end Go.Proofs.YtebpcnkdhgnghaaGreatDoor.PMerges
end
section
namespace Go.Proofs.YtebpcnkdhgnghaaGreatDoor.PMerges
open Go.ChangeShapes Go.WideShapes Go.ChangeAt Go.RowKit Go.Joins Go.ChangeMaps
theorem said:Rows.PlayMergesSaid:=
 OpenClaim.holds_of_wide 3 Tryz.f3 rfl rfl rfl rfl rfl rfl rfl ⟨rfl,rfl,rfl,rfl,rfl⟩ rfl rfl rfl rfl rfl zo Tryz.func3 Mb
  (of_decide_eq_true zo) (by unfold Func.isWrapper;first | (rw [if_pos jD];kernel_rfl) | (rw [if_neg jD];exact ⟨rfl,rfl⟩))
  (fun os started H enc _=>NX os started H enc)
