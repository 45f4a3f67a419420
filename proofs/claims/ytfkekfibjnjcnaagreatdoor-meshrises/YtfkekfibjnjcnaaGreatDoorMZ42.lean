import Derived.Test.YtfkekfibjnjcnaaGreatDoorMZ41
set_option linter.unusedSimpArgs false
set_option linter.unusedVariables false
set_option maxRecDepth 100000
set_option maxHeartbeats 64000000
namespace Go.Proofs.YtfkekfibjnjcnaaGreatDoor
open Go.Proofs.Tryz
variable {sp:Nat→Bool} {R:Rws} {W:World}
section
open Go.RowKit Go.Lib Go.Sort Go.Maps
open scoped Classical
def x4:OpX:=(1,0,1,109,4,0,⟨#[97]⟩,⟨#[]⟩)
theorem err4:errO x4=0:=zt
theorem next4:NextOp (fun _=>[]) 0 0 x4:=⟨err4,rfl,rfl,rfl,.inl ⟨rfl,rfl⟩,fun _=>.inl rfl,fun h=>by rcases h with ⟨h,_⟩ | h<;>exact absurd h zt⟩
theorem known4 (nd:Int):KnownN [x4] nd↔nd=4:=by
 constructor
 ·rintro ⟨x,hx,_,e,_⟩
  simp only [vA] at hx
  subst hx
  exact e.symm
 intro e
 exact ⟨x4,zm,rfl,e.symm,e.symm⟩
theorem line4:LineIs [x4] 4 []:=⟨[],List.Perm.refl _,⟨Zj,fun m hm=>by simp at hm,fun u m v e=>jb⟩,rfl⟩
theorem text4:Lib.join (linesB [(4,0,⟨#[97]⟩)] [(4,[])] []) [10]= [52,32,105,110,32,48,32,97]:=by
 have h6:Lib.itoa 4= [52]:=by unfold Lib.itoa;simp [Lib.decDigits]
 have h0:Lib.itoa 0= [48]:=by unfold Lib.itoa;simp [Lib.decDigits]
 unfold linesB placeB lineB
 simp [h6,h0,fullT,Lib.join_cons,Lib.joinTail]
theorem state4:StateIs [x4] [52,32,105,110,32,48,32,97]:=by
 refine ⟨[((1,0),(4,0,⟨#[97]⟩))],[(4,0,⟨#[97]⟩)],[(4,[])],[x4],[],List.Perm.refl _,Zz _ _,?_,⟨Zz _ _,fun nd=> ?_,fun t ht=> ?_⟩,List.Perm.refl _,⟨List.Pairwise.nil,fun p=> ?_⟩,text4.symm⟩
 ·rw [made_single _ zt]
  refine ⟨Zz _ _,fun p=> ?_⟩
  obtain ⟨a,b,s⟩:=p
  simp only [vA,upd]
  constructor
  ·intro e
   cases e
   simp
  intro e
  split at e
  ·cases e;rfl
  cases e
 ·rw [known4]
  simp
 ·simp only [vA] at ht
  subst ht
  exact ⟨[],line4,rfl⟩
 constructor
 ·intro h;simp at h
 rintro ⟨_,s,hs⟩
 have:madeO [x4]=noC:=rfl
 rw [this] at hs
 cases hs
theorem well4:WellK [x4]:=(next4.well rowsK_nil zj (fun y hy=>by simp [allR] at hy)).1
theorem allR_nil (h:R=fun _=>[]):allR R= []:=by rw [h];rfl
theorem time_nil (h:R=fun _=>[]) {T:Int} (ht:timeO (allR R) T):T=0:=by
 rw [allR_nil h] at ht
 rcases ht.2.1 with q | ⟨x,hx,_⟩
 ·exact q
 simp at hx
theorem made4 (h:R=fun _=>[]) {y:OpX} {cd:Nat} (hp:MadeP R 0 ⟨#[97]⟩ y cd):cd=0/\y=x4:=by
 obtain ⟨T,hT,hq⟩:=hp
 have hT0:=time_nil h hT
 subst hT0
 have e:ownX 0 0 (R 0).length 109 0 0 ⟨#[97]⟩ ⟨#[]⟩=x4:=by rw [h];rfl
 rw [e] at hq
 exact hq err4
theorem meshed_any {B:Nat} {ad:Nat->Addr} (w:World) (hE0:EnvM B ad w):
  Calls prog 6 #[] w fun e w'=>e= .returned (.bool true)/\Below w.heap.size w w':=by
 obtain ⟨S,hS⟩:=ze w.heap.size
 have hE:EnvM S ad w:=yH
 have hnew:=mnew_any (B:=S) w 2 zj zj yt
 have HE:Aside (EnvM S ad w):=hE
 clear hE hE0
 go_enter func6,ntmps6
 go_wp2_with fail
 refine hnew.mono ?_
 clear hnew
 rintro e w1 ⟨bm,rfl,H1⟩
 obtain ⟨K0,st0,hm1,hb1,hK0,hst0,hbm⟩:=H1.o
 have hI1:MeshI 2 0 [] K0 (fun _=>[]) st0 []:=by
  refine ⟨(MInv.start 2 _).congr (fun r hr x=>by rw [allR_nil (hK0 r hr)]),fun r hr=>by rw [hst0 r hr];exact diskI_new,fun x hx=>zO,fun r hr=>by rw [hK0 r hr];exact rowsK_nil⟩
 have hbS:Below S w w1:=by rw [hS.o];exact hb1
 have hE1:=HE.o.mono hbS
 have hdo:=do_of w1 0 (0,0,0,109,0,0,⟨#[97]⟩,⟨#[]⟩) hm1 hI1 zm hE1 zj ⟨zj,zj⟩ (fun r=>MadeP (K0 r) r ⟨#[97]⟩) (fun U c0 p b0 d0 r hr e hP hR hEU=>pnext_made U c0 p b0 d0 r (K0 r) ⟨#[97]⟩ hP hR hEU.t zj (fun T hT=>by have:=time_nil (hK0 r hr) hT;omega) (by rw [allR_nil (hK0 r hr)];simp) xi)
 unfold encO at hdo
 dsimp only at hdo
 have HB1:Aside (Below S w w1/\(∀r,r<2->K0 r=fun _=>[])/\∀r,r<2->st0 r=([],false,false,0)):=⟨hbS,hK0,hst0⟩
 clear H1 hm1 hb1 hK0 hst0 hbm hI1 hbS hE1
 go_wp2_with fail
 refine hdo.mono ?_
 clear hdo
 rintro e w2 ⟨y,cd,G',K1,D1,st1,N1,rfl,H2⟩
 obtain ⟨hmz,hbz,hIz,hNz,hgz,hGz,hPz,hrz,rfl⟩:=H2.o
 obtain ⟨y0,cd0,hp0,hq0⟩:=hPz 0 rfl zj
 obtain ⟨hc0,hy0⟩:=made4 (HB1.o.2.1 0 zj) hp0
 have hst:(st0 0).2.1=false/\(st0 0).2.2.1=false:=by rw [HB1.o.2.2 0 zj];exact ⟨rfl,rfl⟩
 obtain ⟨hcd,hy⟩:=hq0 hc0 hst.1 hst.2
 subst hcd
 rw [hy0] at hy
 subst hy
 have hG:G'= [x4]:=by
  rcases hGz with ⟨q,_⟩ | ⟨_,q,_⟩
  ·exact absurd rfl q
  rw [q];rfl
 subst hG
 have hK11:K1 1=fun _=>[]:=by rw [(hrz 1 zj).1];exact HB1.o.2.1 1 zj
 have hs11:st1 1=([],false,false,0):=by rw [(hrz 1 zj).2];exact HB1.o.2.2 1 zj
 have hK10:∀x,x∈allR (K1 0)↔x=x4:=fun x=>by
  constructor
  ·intro q
   have:=hIz.inv.sub 0 zj x q
   simpa using this
  intro q
  subst q
  exact hIz.inv.disk 0 zj _ (hIz.inv.mine (r:=0) zm rfl)
 have H3:Aside (MeshS (fun _=>none) S 2 bm K1 st1 [] w2/\Below S w w2/\MeshI 2 1 [x4] K1 D1 st1 []/\K1 1=(fun _=>[])/\st1 1=([],false,false,0)/\∀x,x∈allR (K1 0)↔x=x4):=⟨hmz,HB1.o.1.trans hbz,hIz,hK11,hs11,hK10⟩
 have hE2:=HE.o.mono H3.o.2.1
 clear H2 hmz hbz hIz hNz hgz hGz hPz hrz hp0 hq0 hc0 hy0 hst hK11 hs11 hK10
 unfold encO x4
 dsimp only
 rw [show eV ad 0= .nilIface from rfl]
 obtain ⟨V,hV⟩:=ze (w2.alloc (.cells #[.int .i64 1,.int .i64 0,.int .i64 1,.int .u8 109,.int .i64 4,.int .i64 0,.string ⟨#[97]⟩,.string ⟨#[]⟩] 41))
 have hbV:Below w2.heap.size w2 V:=by rw [hV.o];exact zh w2 _
 have OV:OpBlk V w2.heap.size x4:=by rw [hV.o];exact OpBlk.new w2 x4
 obtain ⟨M,hM⟩:=ze w2.heap.size
 rw [<-hM.o] at OV
 obtain ⟨-,-,-,-,j4,-⟩:=OV.cells
 unfold x4 at j4
 dsimp only at j4
 have hmV:=H3.o.1.later hbV
 have hSV:S<=w2.heap.size:=hE2.t.env.size
 have hask:=ask_any V 1 0 hmV (hE2.later hbV) (fun r hr=>by have:=H3.o.2.2.1.len hr;omega) ⟨zj,zj⟩ ⟨zj,zj⟩
 have HV:Aside (Below S w V):=H3.o.2.1.trans (hbV.mono hSV)
 clear hbV OV hmV hSV hE2
 go_upto_region 5 with fail
 rw [<-hV.o,<-hM.o]
 go_wp2_with fail
 refine hask.mono ?_
 clear hask j4
 rintro e w3 ⟨v3,N3,rfl,H4⟩
 obtain ⟨hm4,hb4,h4⟩:=H4.o
 have h4':v3= .nilIface/\N3= [askN 1 0 (vecR (K1 1))]:=by
  rcases h4 with ⟨e1,_,a,b,_,_,_,e2,e3,e4⟩ | ⟨_,q⟩
  ·obtain rfl:a=1:=by omega
   obtain rfl:b=0:=zj
   exact ⟨e1,e4⟩
  exact absurd ⟨⟨zj,zj⟩,⟨zj,zj⟩,zj,zm⟩ q
 obtain ⟨rfl,rfl⟩:=h4'
 have hI3:MeshI 2 1 [x4] K1 D1 st1 [askN 1 0 (vecR (K1 1))]:=H3.o.2.2.1.fly (fun u hu=>by
  rw [vA.1 hu]
  exact .inr ⟨fun y hy=>absurd hy yX,vD _⟩)
 have hb3:Below S w w3:=HV.o.trans hb4
 have hdl:=deliver_any w3 0 hm4 hI3 zm (HE.o.mono hb3) zj ⟨zj,zj⟩
 have HW3:Aside (Below S w w3):=hb3
 clear H4 hm4 hb4 h4 hI3 hb3 HV
 go_wp2_with fail
 refine hdl.mono ?_
 clear hdl
 rintro e w4 ⟨v4,K4,D4,st4,N4,rfl,H5⟩
 obtain ⟨hm5,hb5,hI5,hN5,hd5,hs5⟩:=H5.o
 have hst4:st4=st1:=hs5 ⟨0,askN 1 0 (vecR (K1 1)),rfl,rfl,rfl⟩
 subst hst4
 have h5:v4= .nilIface/\K4=K1/\∃ao cap F,DiffOf (K1 0) (vecR (K1 1)) F/\N4= [(0,1,false,fun _=>0,ao,cap,F)]:=by
  rcases hd5 with ⟨q,_⟩ | ⟨k,x,hk,hx,hd⟩
  ·exact absurd ⟨zj,zm⟩ q
  obtain rfl:k=0:=zj
  have hx':x=askN 1 0 (vecR (K1 1)):=by simpa using hx.symm
  subst hx'
  rcases hd with ⟨_,e1,e2,F,hF,hN⟩ | ⟨q,_⟩
  ·refine ⟨e1,e2,?_⟩
   have hF1:DiffOf (K1 0) (vecR (K1 1)) F:=hF
   have hFne:F≠ []:=fun q=>by
    obtain ⟨ys,y1,y2⟩:=hF1
    have hdi:=diff_is (H3.o.2.2.1.rows 1 zj) (H3.o.2.2.1.rows 0 zj) (fun a ha=>jw) y1
    rw [<-y2,q] at hdi
    have:=(hdi.2.2 x4).2 ⟨(H3.o.2.2.2.2.2 x4).2 rfl,by rw [allR_nil H3.o.2.2.2.1];simp⟩
    simp at this
   rcases hN with ⟨q | q,_⟩ | ⟨_,_,ao,cap,e4⟩
   ·exact absurd q hFne
   ·simp at q
   exact ⟨ao,cap,F,hF1,e4⟩
  cases q
 obtain ⟨rfl,rfl,ao,cap,F,hF,rfl⟩:=h5
 have hb4:Below S w w4:=HW3.o.trans hb5
 have hdl:=deliver_any w4 0 hm5 hI5 zm (HE.o.mono hb4) zj ⟨zj,zj⟩
 have HW4:Aside (Below S w w4/\DiffOf (K4 0) (vecR (K4 1)) F):=⟨hb4,hF⟩
 clear H5 hm5 hb5 hI5 hN5 hd5 hs5 hb4 hF HW3
 go_wp2_with fail
 refine hdl.mono ?_
 clear hdl
 rintro e w5 ⟨v5,K5,D5,st5,N5,rfl,H6⟩
 obtain ⟨hm6,hb6,hI6,hN6,hd6,_⟩:=H6.o
 have h6:v5= .nilIface/\N5= []/\∀x,x∈allR (K5 1)↔x=x4:=by
  rcases hd6 with ⟨q,_⟩ | ⟨k,x,hk,hx,hd⟩
  ·exact absurd ⟨zj,zm⟩ q
  obtain rfl:k=0:=zj
  have hx':x=(0,1,false,fun _=>0,ao,cap,F):=by simpa using hx.symm
  subst hx'
  rcases hd with ⟨q,_⟩ | ⟨_,e1,hH,hv⟩
  ·cases q
  obtain ⟨ys,y1,y2⟩:=HW4.o.2
  have hdi:=diff_is (H3.o.2.2.1.rows 1 zj) (H3.o.2.2.1.rows 0 zj) (fun a ha=>jw) y1
  rw [<-y2] at hdi
  have hmF:∀z,z∈F↔z=x4:=fun z=>by
   rw [hdi.2.2 z,H3.o.2.2.2.2.2 z,allR_nil H3.o.2.2.2.1]
   simp
  have hfit:Fits [x4] (allR (K4 1)) F:=⟨[x4],well4,fun z hz=>hz,fun z hz=>by rw [(hmF z).1 hz];simp,fun z hz=>.inr ((hmF z).2 (by simpa using hz))⟩
  have hs1:(st4 1).2.1=false/\(st4 1).2.2.1=false:=by rw [H3.o.2.2.2.2.1];exact ⟨rfl,rfl⟩
  refine ⟨hv hfit hs1.1 hs1.2,e1,fun z=> ?_⟩
  constructor
  ·intro q
   have:=hI6.inv.sub 1 zj z q
   simpa using this
  intro q
  exact hH.2.2.2 hfit z ((hmF z).2 q)
 obtain ⟨rfl,rfl,hK5⟩:=h6
 obtain ⟨ow,pv,fv,bp,br,d,dv,c,hm7⟩:=hm6
 have hb5:Below S w w5:=HW4.o.1.trans hb6
 have hE5:=HE.o.mono hb5
 have hrep:=replica_any w5 1 zj hm7 hE5
 have hsta:=state_any w5 (c 1) (br 1) ((1:Nat):Int) (K5 1) (hm7.rep 1 zj).1.rep hE5.t.is (by have:=hI6.len (r:=1) zj;omega)
 have k1:=(hm7.rep 1 zj).1.wellK
 have H7:Aside (MeshS (fun _=>none) S 2 bm K5 st5 [] w5/\Below S w w5/\∀s,StateIs (allR (K5 1)) s->s= [52,32,105,110,32,48,32,97]):=⟨⟨_,_,_,_,_,_,_,_,hm7⟩,hb5,fun s hs=>StateIs.same k1.well ((Zw k1.num.nodup zm).2 (fun z=>by rw [hK5 z];simp)) hs state4⟩
 clear H6 hm7 hb6 hI6 hN6 hd6 hb5 hE5 k1 HW4 hK5
 go_wp2_with fail
 refine hrep.mono ?_
 clear hrep
 rintro e w6 ⟨rfl,rfl⟩
 go_wp2_with fail
 refine hsta.mono ?_
 clear hsta
 rintro e w7 ⟨s7,rfl,hs7,hb7⟩
 obtain rfl:=H7.o.2.2 s7 hs7
 have hfl:=flying_any w7 (H7.o.1.later hb7) zm (fun x hx=>zO)
 have HB7:Aside (Below S w w7):=H7.o.2.1.trans (hb7.mono (by have:=H7.o.2.1.size;have:=hS.o;omega))
 clear hs7 hb7
 go_wp2_with fail
 refine hfl.mono ?_
 clear hfl
 rintro e w8 ⟨ao8,cap8,rfl,HB8⟩
 go_wp2
 go_ret
 refine ⟨rfl,?_⟩
 have:=HB7.o.trans (HB8.o.mono (by have:=HB7.o.size;have:=hS.o;omega))
 rwa [hS.o] at this
end
section
open Go.ChangeShapes Go.WideShapes Go.RowKit Go.Deep
theorem cellsStp:prog.cellsOf 45=12:=zk
theorem i64S {z:Int} (h:(Lit.int .i64 z).wf=true):I64 z:=by
 simp [Lit.wf,IntKind.min,IntKind.max,IntKind.signed,IntKind.bits] at h
 unfold I64
 omega
theorem u8S {k:Nat} (h:(Lit.int .u8 (k:Int)).wf=true):k<256:=by
 simp [Lit.wf,IntKind.min,IntKind.max,IntKind.signed,IntKind.bits] at h
 omega
theorem trod_stp {H:Type} {enc:TypeId×Value->H} {base:Nat} {held:Bool} {fuel:Nat} {cs:List Value} {x:DataW H×List MemPlace} (h:DataW.trod enc prog W base sp held fuel 45 cs=some x):
  ∃t:Stp,cs=encSt t/\StpIn t:=by
 obtain ⟨xs,m,_,rfl,hl,hlen,hf⟩:=DataW.trod_struct underlying45 h
 rw [cellsStp] at hl
 match cs,hl with
 | [c0,c1,c2,c3,c4,c5,c6,c7,c8,c9,c10,c11],_=>
 match xs,hlen with
 | [y0,y1,y2,y3,y4],_=>
  have g0:=hf 0 _ rfl
  have g1:=hf 1 _ rfl
  have g2:=hf 2 _ rfl
  have g3:=hf 3 _ rfl
  have g4:=hf 4 _ rfl
  simp [cellsInt,cellsOp,cellsStr1] at g0 g1 g2 g3 g4
  obtain ⟨k0,e0,rfl,w0⟩:=DataW.trod_string underlying9 g0
  obtain ⟨z1,e1,rfl,w1⟩:=DataW.trod_int underlying3 g1
  obtain ⟨z2,e2,rfl,w2⟩:=DataW.trod_int underlying3 g2
  obtain ⟨z3,e3,rfl,w3⟩:=DataW.trod_int underlying3 g3
  obtain ⟨t,b,n,k,node,other,name,value,e4,-,wo⟩:=trod_op g4
  simp at e0 e1 e2 e3 e4
  obtain ⟨rfl,rfl,rfl,rfl,rfl,rfl,rfl,rfl⟩:=e4
  subst e0 e1 e2 e3
  exact ⟨(k0,z1,z2,z3,t,b,n,k,node,other,name,value),rfl,i64S w1,i64S w2,i64S w3,u8S wo.k,i64S wo.node,i64S wo.other⟩
theorem steps_in {H:Type} {enc:TypeId×Value->H} {base:Nat} {held:Bool} {ao:Option Addr} {len cap:Nat} {d:DataW H} {p:List MemPlace}
  (h:DataW.Trod enc prog W base sp held 22 (.slice ao len cap) d p):
  ∃xs:List Stp,xs.length=len/\len<=maxLen/\InRow encSt W ao xs/\∀t∈xs,StpIn t:=by
 obtain ⟨fuel,hf⟩:=h
 rcases open_slice underlying22 hf with ⟨hcs,_⟩ | ⟨a,len',cap',m,n,D,Pl,hcs,_,hl,hmax,hm,_,hx⟩
 ·simp [Value.cells] at hcs
  obtain ⟨rfl,rfl,rfl⟩:=hcs
  exact ⟨[],rfl,vD _,.inl rfl,fun x hx=>zO⟩
 simp [Value.cells] at hcs
 obtain ⟨rfl,rfl,rfl⟩:=hcs
 have hmm:len<=m:=by subst hm;split<;>omega
 rcases Nat.eq_zero_or_pos len with h0 | hpos
 ·exact ⟨[],h0.symm,zj,.inl rfl,fun x hx=>zO⟩
 have key:∀i,i<len->∃o:Stp,StpIn o/\∀c,c<12->W.cell? ((a.add (i*12)).add c)=(encSt o)[c]? :=fun i hi=>by
  obtain ⟨cs',h1,h2⟩:=hx i zj
  rw [cellsStp] at h1
  obtain ⟨o,rfl,ho⟩:=trod_stp h2
  exact ⟨o,ho,fun c h12=>(World.cells?_some h1).2.2 c h12⟩
 obtain ⟨f,hf⟩:=choose_lt key
 obtain ⟨b,off,spot⟩:=a
 have h00:W.cell? ((Addr.add ⟨b,off,spot⟩ (0*12)).add 0)=some (.string (f 0).1):=(hf 0 hpos).2 0 zj
 have hspot:spot=none:=by simpa [Addr.add] using World.cell?_spot h00
 subst hspot
 refine ⟨(List.range len).map f,zm,zj,.inr ⟨b,off,rfl,fun j u hj=> ?_⟩,fun x hx=> ?_⟩
 ·have hjl:j<len*12:=by
   have:=(vi.1 hj).1
   rw [flat_len encSt_len] at this
   simpa using this
  have hi:j / 12<len:=zj
  have e:j / 12*12+j % 12=j:=zj
  have hm:((List.range len).map f)[j / 12]? =some (f (j / 12)):=by rw [uu,List.getElem?_range hi];rfl
  have h2:=flat_get (enc:=encSt) encSt_len hm (show j % 12<12 by omega)
  rw [e] at h2
  have h1:=(hf (j / 12) hi).2 (j % 12) zj
  rw [<-h2,hj,add_plain,add_plain,uY,e] at h1
  exact h1
 obtain ⟨i,hi,rfl⟩:=vV.1 hx
 exact (hf i (List.mem_range.1 hi)).1
