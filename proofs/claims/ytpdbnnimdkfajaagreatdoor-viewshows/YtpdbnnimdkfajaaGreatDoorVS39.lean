import Derived.Test.YtpdbnnimdkfajaaGreatDoorVS34
set_option linter.unusedSimpArgs false
set_option linter.unusedVariables false
set_option maxRecDepth 100000
set_option maxHeartbeats 64000000
namespace Go.Proofs.YtpdbnnimdkfajaaGreatDoor
open Go.Proofs.Tryz
section
open Go.RowKit Go.Lib Go.Sort Go.Maps
open scoped Classical
theorem shapeOps {w:World} {v:Value} {xs:List OpX} (h:OpsAt w v xs):∃ao cap,v= .slice ao xs.length cap/\OpsIn w ao xs:=by
 rcases h with ⟨rfl,rfl⟩ | ⟨blk,off,cap,rfl,hc⟩
 ·exact ⟨none,0,rfl,.inl rfl⟩
 exact ⟨some ⟨blk,off,none⟩,cap,rfl,.inr ⟨blk,off,rfl,hc⟩⟩
theorem sorted_fit {xs ys:List OpX} (hw:WellK xs) (hnd:xs.Nodup) (hS:StableOf xs ys):(∀y∈ys,errO y=0)/\(∀y∈ys,kdO y=109->FineP (movX y).2)/\(movsO ys).Perm (movsO xs)/\ByStamp (movsO ys):=by
 obtain ⟨hp,hs⟩:=stable_by hS
 have hok:∀y∈ys,errO y=0:=fun y hy=>hw.ok y (hp.mem_iff.1 hy)
 have hne:ys.Pairwise (fun a b=>stO a≠stO b):=by
  have hnd':ys.Nodup:=hp.nodup_iff.2 hnd
  rw [jF]
  intro i j hi hj hij e
  have:=hw.stamp (hp.mem_iff.1 (vJ hi)) (hp.mem_iff.1 (vJ hj)) e
  exact absurd this (jF.1 hnd' i j hi hj hij)
 have hlt:=by_stamp hs hne
 refine ⟨hok,fun y hy hk=> ?_,hp.filterMap _,?_⟩
 ·have h2:=hok y hy
  obtain ⟨t,b,m,kd,node,other,name,value⟩:=y
  have hk:kd=109:=hk
  subst hk
  exact move_fine h2
 unfold ByStamp movsO
 rw [List.pairwise_filterMap]
 refine hlt.imp ?_
 intro a b hab u hu v hv
 by_cases ha:kdO a=109
 ·by_cases hb:kdO b=109
  ·rw [movO_is ha] at hu
   rw [movO_is hb] at hv
   cases hu
   cases hv
   exact hab
  rw [movO_no hb] at hv
  cases hv
 rw [movO_no ha] at hu
 cases hu
theorem placesOf_ref (w:World) (v:Value) (xs:List OpX) (h:OpsAt w v xs) (hO:WellK xs) (hnd:xs.Nodup) (hn:xs.length<=200):
  Calls prog 35 #[v] w fun e w'=>∃v' qs ms,e= .returned v'/\ms.Perm (movsO xs)/\ByStamp ms/\IsPlaces (madeBy ms) qs/\qs.length<=200/\w'.ownsRow w.heap.size 95 3 v' qs.length (flat cellsP qs)/\Below w.heap.size w w':=by
 obtain ⟨i0,hi,hz0,hz1,hz2⟩:=info_parts infoRP
 have HO:Aside (WellK xs/\xs.Nodup):=⟨hO,hnd⟩
 have hS:=sortedOf_any w v xs h zi
 clear h hO hnd
 go_enter func35,ntmps35
 go_wp2_with fail
 refine hS.mono ?_
 clear hS
 rintro e w1 ⟨v1,ys,rfl,hOps,hSort,hb1⟩
 obtain ⟨ay,cy,rfl,hIn⟩:=shapeOps hOps
 have hy200:ys.length<=200:=by rw [(stable_by hSort).1.length_eq];exact hn
 have Y:Aside (OpsIn w1 ay ys/\(∀y∈ys,errO y=0)/\(∀y∈ys,kdO y=109->FineP (movX y).2)/\(movsO ys).Perm (movsO xs)/\ByStamp (movsO ys)/\Below w.heap.size w w1):=⟨hIn,(sorted_fit HO.o.1 HO.o.2 hSort).1,(sorted_fit HO.o.1 HO.o.2 hSort).2.1,(sorted_fit HO.o.1 HO.o.2 hSort).2.2.1,(sorted_fit HO.o.1 HO.o.2 hSort).2.2.2,hb1⟩
 clear hOps hIn hSort hb1 HO
 go_wp2
 go_loopg [3,5] ys.length (fun kx s3 s5 wr=>∃(i:Nat) (qs:List Plc) (ov:Value),ov=s3/\s5= .int .i64 (i:Int)/\i<=ys.length/\ys.length - i<=kx/\Aside (St4 w1 ys i qs ov wr))
 case atStart=>exact ⟨0,[],_,rfl,rfl,js _,jj _,⟨jQ _ _ _ _,⟨List.Pairwise.nil,fun p=>⟨fun h=>yw,fun h=>by simp [movsO,madeBy,foldS,noSta] at h⟩⟩,js _,jo _ _⟩⟩
 case round=>
  obtain ⟨i,qs,ov,rfl,rfl,hix,hkx,A⟩:=hrel
  obtain ⟨ag,cg,rfl⟩:=rowShape A.o.row
  have hq200:qs.length<=200:=by have:=A.o.len;omega
  by_cases hlt:i<ys.length
  ·have hltz:decide ((i:Int)<(ys.length:Int))=true:=by simp;omega
   have ex:((i:Int)).toNat=i:=zi
   have px:(0:Int)<=(i:Int):=zi
   have bx:(i:Int)<(ys.length:Int):=zi
   obtain ⟨blk,off,rfl,hc⟩:∃b off,ay=some ⟨b,off,none⟩/\∀j u,(cellsOf ys)[j]? =some u->w1.cell? ⟨b,off+j,none⟩=some u:=by
    rcases Y.o.1 with h0 | h1
    ·subst h0;simp at hlt
    exact h1
   obtain ⟨⟨t,b,m,kd,node,other,name,value⟩,hx⟩:∃x,ys[i]! =x:=⟨_,rfl⟩
   have hmem:ys[i]! ∈ys:=by rw [getElem!_pos ys i hlt];exact vJ hlt
   by_cases hkd:kd=109
   case neg=>
    obtain ⟨f0,f1,f2,f3,f4,f5,f6,f7⟩:=eight_at (fun j v hj=>cellKept A.o.below (hc j v hj)) i hlt hx
    have HK1:Aside (kdO ys[i]! ≠109):=by rw [hx];exact hkd
    have dk:((kd:Int)==109)=false:=zk
    have dkn:(kd==109)=false:=zk
    have dk2:((kd:Int) !=109)=true:=zk
    clear hx hmem hc hkd
    go_upto_region 7 with fail
    obtain ⟨u,hu⟩:=za (wr.alloc (.cells #[.int .i64 t,.int .i64 b,.int .i64 m,.int .u8 (kd:Int),.int .i64 node,.int .i64 other,.string name,.string value] 38))
    have B1:Below wr.heap.size wr u:=by rw [hu];exact zg wr _
    have R:Aside (St4 w1 ys (i+1) qs (.slice ag qs.length cg) u):=A.o.skip hlt HK1.o B1
    have O3:u.cell? ⟨wr.heap.size,3,none⟩=some (.int .u8 (kd:Int)):=by rw [hu];exact (OpBlk.new wr (t,b,m,kd,node,other,name,value)).cells.2.2.2.1
    rw [<-hu]
    clear hu f0 f1 f2 f3 f4 f5 f6 f7 B1 A
    go_wp2
    go_roundg (ys.length - (i+1))
    case measure=>omega
    case rel=>exact ⟨i+1,qs,_,rfl,zw,zi,jj _,R⟩
   subst hkd
   have HK1:Aside (kdO ys[i]! =109):=by show kdO ys[i]! =109;rw [hx]
   obtain ⟨f0,f1,f2,f3,f4,f5,f6,f7⟩:=eight_at (fun j v hj=>cellKept A.o.below (hc j v hj)) i hlt hx
   have f3':wr.cell? ⟨blk,off+i*8+3,none⟩=some (.int .u8 109):=f3
   have HM:Aside (movX ys[i]! =((t,b),(node,other,name))):=by show movX ys[i]! =_;rw [hx];rfl
   clear hx hmem f3 hc
   go_upto_region 7 with fail
   obtain ⟨u,hu⟩:=za (wr.alloc (.cells #[.int .i64 t,.int .i64 b,.int .i64 m,.int .u8 109,.int .i64 node,.int .i64 other,.string name,.string value] 38))
   have O1:OpAt u wr.heap.size t b m 109 node other name value:=by rw [hu];exact OpAt.new wr t b m 109 node other name value 38
   have B1:Below wr.heap.size wr u:=by rw [hu];exact zg wr _
   rw [<-hu]
   obtain ⟨Bo,hBo⟩:∃Bo,Aside (wr.heap.size=Bo):=⟨_,rfl⟩
   rw [hBo.o] at O1 |-
   have U:Aside (St4 w1 ys i qs (.slice ag qs.length cg) u/\OpAt u Bo t b m 109 node other name value):=⟨A.o.later B1,O1⟩
   clear hu f0 f1 f2 f3' f4 f5 f6 f7 B1 O1 A
   obtain ⟨g0,g1,g2,g3,g4,g5,g6,g7⟩:=U.o.2
   have g3':u.cell? ⟨Bo,3,none⟩=some (.int .u8 109):=g3
   clear g3 g0 g1 g2 g7
   by_cases hno:node=other
   ·have dno:(node==other)=true:=by simp [hno]
    have R:Aside (St4 w1 ys (i+1) qs (.slice ag qs.length cg) u):=U.o.1.idle hlt HK1.o (jo _ _) (by rw [HM.o];exact .inl hno)
    clear hno
    go_wp2
    go_roundg (ys.length - (i+1))
    case measure=>omega
    case rel=>exact ⟨i+1,qs,_,rfl,zw,zi,jj _,R⟩
   have dno:(node==other)=false:=by simp [hno]
   have HNO:=Lib.hid hno
   clear hno
   have hI:=isInside_any u ag cg qs _ other node (U.o.1.good Y.o.2.2.1) U.o.1.pls (plsOwn U.o.1.row) zi
   cases hz:insF (madeBy (movsO (ys.take i))) (qs.length+1) other node with
   | true=>
    rw [hz] at hI
    have R:Aside (St4 w1 ys (i+1) qs (.slice ag qs.length cg) u):=U.o.1.idle hlt HK1.o (jo _ _) (by rw [HM.o];exact .inr ((ins_enough (U.o.1.good Y.o.2.2.1) U.o.1.pls).2 hz))
    clear hz
    go_wp2_with fail
    refine hI.mono ?_
    rintro e u1 ⟨rfl,hu1⟩
    subst hu1
    go_wp2
    go_roundg (ys.length - (i+1))
    case measure=>omega
    case rel=>exact ⟨i+1,qs,_,rfl,zw,zi,jj _,R⟩
   | false=>
    rw [hz] at hI
    have ID:Aside (madeBy (movsO (ys.take (i+1)))=upd (madeBy (movsO (ys.take i))) node (some (node,other,name))):=by
     show madeBy (movsO (ys.take (i+1)))=_
     rw [made_next hlt HK1.o,HM.o]
     exact step_goes (by
      rintro (h | h)
      ·exact HNO.o h
      ·rw [(ins_enough (U.o.1.good Y.o.2.2.1) U.o.1.pls).1 h] at hz;cases hz)
    clear hz
    go_wp2_with fail
    refine hI.mono ?_
    rintro e u1 ⟨rfl,hu1⟩
    subst hu1
    clear hI
    go_upto_region 10 with fail
    obtain ⟨ua,hua⟩:=za (u1.alloc (.cells #[.int .i64 node,.int .i64 other,.string name] 95))
    have B2:Below u1.heap.size u1 ua:=by rw [hua];exact zg u1 _
    have q0:ua.cell? ⟨u1.heap.size,0,none⟩=some (.int .i64 node):=by rw [hua];exact (rp_new u1 node other name).1
    have q1:ua.cell? ⟨u1.heap.size,1,none⟩=some (.int .i64 other):=by rw [hua];exact (rp_new u1 node other name).2.1
    have q2:ua.cell? ⟨u1.heap.size,2,none⟩=some (.string name):=by rw [hua];exact (rp_new u1 node other name).2.2
    have k4:=cellKept B2 g4
    rw [<-hua]
    obtain ⟨Bp,hBp⟩:∃Bp,Aside (u1.heap.size=Bp):=⟨_,rfl⟩
    rw [hBp.o] at q0 q1 q2 |-
    have V:Aside (St4 w1 ys i qs (.slice ag qs.length cg) ua):=U.o.1.later B2
    clear hua B2 g4 g5 g6 g3' U
    have hP:=placeOf_any ua ag cg qs node (plsOwn V.o.row) zi
    cases hk:idxP qs node with
    | some k=>
     have e1:idxI qs node=(k:Int):=by unfold idxI;rw [hk]
     rw [e1] at hP
     obtain ⟨⟨pc,pq,pn⟩,hpk,-⟩:=idxP_some hk
     have hkl:k<qs.length:=(jh.1 hpk).1
     obtain ⟨g,rfl⟩:=row_some V.o.row zi
     obtain ⟨g',hg',y0,y1,y2⟩:=(plsOwn V.o.row).three hpk
     cases hg'
     have z0:=V.o.row.frozenAt (k*3)
     have z1:=V.o.row.frozenAt (k*3+1)
     have z2:=V.o.row.frozenAt (k*3+2)
     have R:=V.o.set (other:=other) (name:=name) hk ID.o
     have ek:((k:Int)).toNat=k:=zi
     have pk:(0:Int)<=(k:Int):=zi
     have bk:(k:Int)<(qs.length:Int):=zi
     have dk:decide ((0:Int)<=(k:Int))=true:=zm
     have RR:Aside _:=R
     clear R hk e1 hpk
     go_wp2_with fail
     refine hP.mono ?_
     rintro e u2 ⟨rfl,hu2⟩
     subst hu2
     go_wp2
     go_roundg (ys.length - (i+1))
     case measure=>omega
     case rel=>exact ⟨i+1,_,_,rfl,zw,zi,jj _,RR⟩
    | none=>
     have e1:idxI qs node= -1:=by unfold idxI;rw [hk]
     rw [e1] at hP
     have HK:=Lib.hid hk
     clear hk e1
     go_wp2_with fail
     refine hP.mono ?_
     rintro e u2 ⟨rfl,hu2⟩
     subst hu2
     clear hP
     have Q:Aside (u2.cell? ⟨Bo,4,none⟩=some (.int .i64 node)/\u2.cell? ⟨Bp,0,none⟩=some (.int .i64 node)/\u2.cell? ⟨Bp,1,none⟩=some (.int .i64 other)/\u2.cell? ⟨Bp,2,none⟩=some (.string name)):=⟨k4,q0,q1,q2⟩
     go_wp2
     clear k4 q0 q1 q2
     go_loopg [8] qs.length (fun ky s8 wr=>∃(k:Nat),s8= .int .i64 (k:Int)/\k<=qs.length/\qs.length - k<=ky/\Aside ((∀j,j<k->(qs[j]!).1<node)/\Below u2.heap.size u2 wr))
     case atStart=>exact ⟨0,rfl,js _,jj _,⟨fun j hj=>absurd hj (uv _),jo _ _⟩⟩
     case round=>
      obtain ⟨k,rfl,hkq,hky,K⟩:=hrel
      go_upto_region 14 with fail
      go_cut [68] (fun s68 wx=>∃z:Bool,s68= .bool z/\Aside ((z=true↔k<qs.length/\(qs[k]!).1<node)/\Below u2.heap.size u2 wx))
      case first=>
       by_cases hkl:k<qs.length
       ·have hkz:decide ((k:Int)<(qs.length:Int))=true:=by simp;omega
        have ek:((k:Int)).toNat=k:=zi
        have pk:(0:Int)<=(k:Int):=zi
        have bk:(k:Int)<(qs.length:Int):=zi
        obtain ⟨⟨pc,pq,pn⟩,hpk⟩:∃p:Plc,qs[k]? =some p:=⟨_,ji hkl⟩
        obtain ⟨g,rfl⟩:=row_some V.o.row zi
        obtain ⟨g',hg',y0,-,-⟩:=(plsOwn (V.o.later K.o.2).row).three hpk
        cases hg'
        have hpc:Aside ((qs[k]!).1=pc):=by
         have:=(jh.1 hpk).2
         show (qs[k]!).1=pc
         rw [getElem!_pos qs k hkl,this]
        have k4:=cellKept K.o.2 Q.o.1
        clear hpk
        by_cases hl:pc<node
        ·have dl:decide (pc<node)=true:=decide_eq_true hl
         go_quiet (fail)
         go_wp2
         go_meet
         exact ⟨true,rfl,⟨fun _=>⟨hkl,by rw [hpc.o];exact hl⟩,fun _=>rfl⟩,below_drewN K.o.2 _⟩
        have dl:decide (pc<node)=false:=decide_eq_false hl
        go_quiet (fail)
        go_wp2
        go_meet
        exact ⟨false,rfl,⟨fun h=>yA,fun h=>by have:=h.2;rw [hpc.o] at this;omega⟩,below_drewN K.o.2 _⟩
       have hkz:decide ((k:Int)<(qs.length:Int))=false:=zk
       go_quiet (fail)
       go_wp2
       go_meet
       exact ⟨false,rfl,⟨fun h=>yA,fun h=>absurd h.1 hkl⟩,below_drewN K.o.2 _⟩
      obtain ⟨z,rfl,Z⟩:=hcut
      cases z with
      | true=>
       have Z1:Aside ((k<qs.length/\(qs[k]!).1<node)/\Below u2.heap.size u2 wc):=⟨Z.o.1.1 rfl,Z.o.2⟩
       have hkl:=Z1.o.1.1
       clear Z
       go_wp2
       go_roundg (qs.length - (k+1))
       case measure=>omega
       case rel=>
        refine ⟨k+1,zw,zi,jj _,⟨fun j hj=> ?_,Z1.o.2⟩⟩
        rcases vh j k with h | h
        ·exact K.o.1 j h
        obtain rfl:j=k:=zi
        exact Z1.o.1.2
      | false=>
       have Z0:Aside ((k<qs.length->¬(qs[k]!).1<node)/\Below u2.heap.size u2 wc):=⟨fun h1 h2=>(by have:=Z.o.1.2 ⟨h1,h2⟩;cases this),Z.o.2⟩
       have VV:Aside (St4 w1 ys i qs (.slice ag qs.length cg) wc/\∀j,j<k->(qs[j]!).1<node):=⟨V.o.later Z0.o.2,K.o.1⟩
       have QQ:Aside (wc.cell? ⟨Bp,0,none⟩=some (.int .i64 node)/\wc.cell? ⟨Bp,1,none⟩=some (.int .i64 other)/\wc.cell? ⟨Bp,2,none⟩=some (.string name)):=⟨cellKept Z0.o.2 Q.o.2.1,cellKept Z0.o.2 Q.o.2.2.1,cellKept Z0.o.2 Q.o.2.2.2⟩
       clear Z K V Q
       have LY:Aside (∀(v':Value) (w':World),w'.ownsRow wc.heap.size 95 3 v' (k+1+(qs.length - k)) (flat cellsP (qs.take k)++cellsP (node,other,name)++flat cellsP (qs.drop k))->Below wc.heap.size wc w'->St4 w1 ys (i+1) (qs.take k++(node,other,name)::qs.drop k) v' w'):=fun v' w' h1 h2=>
        VV.o.1.lay HK.o ID.o hkq VV.o.2 Z0.o.1 (owns_base h1 VV.o.1.below.size) (zh VV.o.1.below h2)
       clear Z0
       rcases VV.o.1.row.2 with ⟨hv,h0⟩ | ⟨g,cap',cur,hv,_,_,hcap,_⟩
       ·obtain rfl:qs= []:=jC.1 h0
        simp only [Value.slice.injEq] at hv
        obtain ⟨rfl,-,rfl⟩:=hv
        obtain rfl:k=0:=by simpa using hkq
        obtain ⟨q0,q1,q2⟩:=QQ.o
        go_wp2_with (at_builtin;refine wpList_append_own _ rfl _ _ 91 rfl wc.heap.size 95 i0 _ 3 32 underlying91 hi hz0 hz1 hz2 rfl zi _ _ _ rfl (jQ (wc.alloc _) _ _ _) ⟨wc.heap.size,0,none⟩ 1 1 [.int .i64 node,.int .i64 other,.string name] rfl ?qb1 ?qb2 ?qb3 ?qb4 ?qb5 ?qb6 ?_)
        case qb1=>rfl
        case qb2=>exact lit_rp wc (node,other,name)
        case qb3=>exact cellsP_one (node,other,name)
        case qb4=>simp only [maxLen];omega
        case qb5=>omega
        case qb6=>simp
        intro v2 u3 hown hgrow hnil
        clear q0 q1 q2 hnil
        have W2:Below wc.heap.size wc u3:=(zg wc _).grown hgrow zm zL
        have R3:Aside (St4 w1 ys (i+1) [(node,other,name)] v2 u3):=LY.o v2 u3 (by simpa [flat,cellsP] using hown) W2
        obtain ⟨g2,c2,rfl,hc2⟩:∃g2 c2,v2= .slice (some ⟨g2,0,none⟩) 1 c2/\1<=c2:=by
         rcases hown.2 with ⟨_,h⟩ | ⟨g2,c2,_,h,_,_,hr,_⟩
         ·exact absurd h zi
         exact ⟨g2,c2,h,hr⟩
        clear hown hgrow W2 LY
        go_wp2
        go_roundg (ys.length - (i+1))
        case measure=>omega
        case rel=>exact ⟨i+1,_,_,rfl,zw,zi,jj _,R3⟩
       simp only [Value.slice.injEq] at hv
       obtain ⟨rfl,-,rfl⟩:=hv
       have HG:Aside (∀j v,(flat cellsP qs)[j]? =some v->wc.cell? ⟨g,j,none⟩=some v):=fun j v hj=>by
        have hl:j<(flat cellsP qs).length:=(jh.1 hj).1
        rw [flat_len (k:=3) (fun _=>rfl)] at hl
        rw [VV.o.1.row.cellAt j hl,hj]
       have dk0:(0:Int)<=(k:Int):=zi
       have dk1:(k:Int)<=(cg:Int):=zi
       have dk2:(k:Int)<=(qs.length:Int):=zi
       have ek:((k:Int)).toNat=k:=zi
       have HKL:Aside ((qs.take k).length=k/\(qs.drop k).length=qs.length - k):=⟨by rw [jz];omega,jT⟩
       go_wp2_with (at_builtin;refine wpList_append_own _ rfl _ _ 91 rfl wc.heap.size 95 i0 _ 3 32 underlying91 hi hz0 hz1 hz2 rfl zi _ _ _ rfl (jQ wc _ _ _) ⟨g,0,none⟩ k cg (flat cellsP (qs.take k)) rfl ?qa1 ?qa2 ?qa3 ?qa4 ?qa5 ?qa6 ?_)
       case qa1=>rw [flat_len (k:=3) (fun _=>rfl),HKL.o.1]
       case qa2=>exact flat_take_cells k HG.o
       case qa3=>exact flat_one cellsP_one _
       case qa4=>rw [jt];simp only [maxLen];omega
       case qa5=>rw [jt];omega
       case qa6=>exact jj _
       intro v2 u3 hown hgrow hnil
       clear hnil
       have B1:Below wc.heap.size wc u3:=(jo _ wc).grown hgrow ze zL
       have O1:Aside (u3.ownsRow wc.heap.size 95 3 v2 k (flat cellsP (qs.take k))/\Below wc.heap.size wc u3):=⟨qr,B1⟩
       have q0:=cellKept B1 QQ.o.1
       have q1:=cellKept B1 QQ.o.2.1
       have q2:=cellKept B1 QQ.o.2.2
       clear hown hgrow B1
       go_wp2_with (at_builtin;refine wpList_append_own _ rfl _ _ 91 rfl wc.heap.size 95 i0 _ 3 32 underlying91 hi hz0 hz1 hz2 rfl zi _ _ _ rfl (O1.o.1.alloc _) ⟨u3.heap.size,0,none⟩ 1 1 [.int .i64 node,.int .i64 other,.string name] rfl ?qb1 ?qb2 ?qb3 ?qb4 ?qb5 ?qb6 ?_)
       case qb1=>rfl
       case qb2=>exact lit_rp u3 (node,other,name)
       case qb3=>exact cellsP_one (node,other,name)
       case qb4=>simp only [maxLen];omega
       case qb5=>omega
       case qb6=>have:=O1.o.2.size;simp;omega
       intro v3 u4 hown hgrow hnil
       clear hnil q0 q1 q2
       have B2:Below wc.heap.size wc u4:=(O1.o.2.alloc O1.o.2.size _).grown hgrow (by have:=O1.o.2.size;simp;omega) (fun k hk=>(O1.o.1.lt k hk).1)
       have O2:Aside (u4.ownsRow wc.heap.size 95 3 v3 (k+1) (flat cellsP (qs.take k)++cellsP (node,other,name))/\Below wc.heap.size wc u4):=⟨hown,B2⟩
       clear hown hgrow B2 O1
       by_cases hkc:k=cg
       ·subst hkc
        go_wp2_with (at_builtin;refine wpList_append_own _ rfl _ _ 91 rfl wc.heap.size 95 i0 _ 3 32 underlying91 hi hz0 hz1 hz2 rfl zi _ _ _ rfl O2.o.1 ⟨g,0,none⟩ 0 0 [] rfl ?qd1 ?qd2 ?qd3 ?qd4 ?qd5 ?qd6 ?_)
        case qd1=>rfl
        case qd2=>intro j v hj;simp at hj
        case qd3=>intro v hv;cases hv
        case qd4=>simp only [maxLen];omega
        case qd5=>omega
        case qd6=>exact O2.o.2.size
        intro v4 u5 hown hgrow hnil
        clear hnil
        have R3:Aside (St4 w1 ys (i+1) (qs.take k++(node,other,name)::qs.drop k) v4 u5):=LY.o v4 u5 (by
         have hdrop:qs.drop k= []:=uG zi
         have hl0:qs.length - k=0:=zi
         rw [hdrop,hl0,flat_nil,vf]
         exact hown) (O2.o.2.grown hgrow O2.o.2.size (fun k hk=>(O2.o.1.lt k hk).1))
        clear hown hgrow O2 LY
        go_wp2
        go_roundg (ys.length - (i+1))
        case measure=>omega
        case rel=>exact ⟨i+1,_,_,rfl,zw,zi,jj _,R3⟩
       have hne:¬cg=k:=fun h=>hkc h.symm
       go_wp2_with (at_builtin;refine wpList_append_own _ rfl _ _ 91 rfl wc.heap.size 95 i0 _ 3 32 underlying91 hi hz0 hz1 hz2 rfl zi _ _ _ rfl O2.o.1 ⟨g,k*3,none⟩ (qs.length - k) (cg - k) (flat cellsP (qs.drop k)) rfl ?qd1 ?qd2 ?qd3 ?qd4 ?qd5 ?qd6 ?_)
       case qd1=>rw [flat_len (k:=3) (fun _=>rfl),HKL.o.2]
       case qd2=>exact flat_drop_cells k zi (fun j v hj=>cellKept O2.o.2 (HG.o j v hj))
       case qd3=>exact flat_one cellsP_one _
       case qd4=>simp only [maxLen];omega
       case qd5=>omega
       case qd6=>exact O2.o.2.size
       intro v4 u5 hown hgrow hnil
       clear hnil
       have R3:Aside (St4 w1 ys (i+1) (qs.take k++(node,other,name)::qs.drop k) v4 u5):=LY.o v4 u5 (by rw [jR];exact hown) (O2.o.2.grown hgrow O2.o.2.size (fun k hk=>(O2.o.1.lt k hk).1))
       clear hown hgrow O2 LY
       go_wp2
       go_roundg (ys.length - (i+1))
       case measure=>omega
       case rel=>exact ⟨i+1,_,_,rfl,zw,zi,jj _,R3⟩
  have hltz:decide ((i:Int)<(ys.length:Int))=false:=zk
  have R:Aside ((movsO ys).Perm (movsO xs)/\ByStamp (movsO ys)/\IsPlaces (madeBy (movsO ys)) qs/\qs.length<=200/\wr.ownsRow w.heap.size 95 3 (.slice ag qs.length cg) qs.length (flat cellsP qs)/\Below w.heap.size w wr):=by
   obtain rfl:i=ys.length:=zi
   have h1:=A.o.pls
   rw [jX] at h1
   exact ⟨Y.o.2.2.2.1,Y.o.2.2.2.2.1,h1,hq200,owns_base A.o.row Y.o.2.2.2.2.2.size,zh Y.o.2.2.2.2.2 A.o.below⟩
  clear A
  go_wp2
  go_ret
  exact ⟨_,qs,_,rfl,R.o⟩
