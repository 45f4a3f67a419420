import Derived.Test.YtjclejjkganhfaaGreatDoorSR17
import Derived.Test.YtjclejjkganhfaaGreatDoorSR18
set_option linter.unusedSimpArgs false
set_option linter.unusedVariables false
set_option maxRecDepth 100000
set_option maxHeartbeats 64000000
namespace Go.Proofs.YtjclejjkganhfaaGreatDoor
open Go.Proofs.Tryz
section
open RowKit Shelf Maps
section
variable {P:Program} {ops:Array Oper} {Q:Exit→Act→World→Prop} {md:Region.Mode} {S:World→Prop} {z:Nat}
theorem Id{i}{o}{fuel}{listed}{a}{w}(hr:Region.ready md ops listed= [i])(ho:ops[i]? =some o)(hz:listed.getD z false=true)
  (h:∀K:Act->World->Prop,(∀a' w',nz P md ops Q S z fuel (listed.setIfInBounds i true) a' w'->K a' w')->if Region.wanted o (yielded ops a.tmps)=true then Oper.wp P o a w K Q else K (a.put o.dst undef) w):nz P md ops Q S z (fuel+1) listed a w:=by
 refine ⟨fun h0=>vi,fun j hj=> ?_⟩;rw [hr] at hj;simp only [Zf] at hj;subst hj;have:=h (fun a' w'=>(S w'\/(listed.setIfInBounds j true).getD z false=true)/\nz P md ops Q S z fuel (listed.setIfInBounds j true) a' w') (fun a' w' h2=>⟨.inr (wD hz),h2⟩);unfold wpOp
 grind
end
theorem abd:(prog.info? 9).map (fun i=>(i.zero,i.size,i.bytes))=some (some (.string ⟨#[]⟩),1,16):=zk
def Kl(ls:List qU):List Value:=ls.map fun l=>.string ⟨l.toArray⟩
theorem Pk(a b):Kl (a++b)=Kl a++Kl b:=ZL
structure P1 (b:Nat) (ls:List qU) (v:Value) (w:qW):Prop where
 F3:Boxed w b 22 v
 row:w.ownsRow (b+1) 9 1 v ls.length (Kl ls)
theorem P1.lt{b}{ls}{v}{w}(h:P1 b ls v w):b<w.heap.size:=(uK.1 h.F3).1
theorem P1.later{b}{ls}{v}{w w'}(h:P1 b ls v w)(hb:qL w w'):P1 b ls v w':=
 ⟨(hb.block b h.lt).trans h.F3,mD h.row (fun g hg=>hb.block g (h.row.lt g hg).2)⟩
def Hy(b:Nat)(E5:qU)(ls:List qU)(v:Value)(w:qW)(e:Ending)(w':qW):Prop:=
 ∃v',e=qT #[]/\P1 b (ls++ [E5]) v' w'/\m7 (fun k=>k=b\/v.ownBlock=some k) w w'/\∀k,v'.ownBlock=some k->v.ownBlock=some k\/w.heap.size<=k
theorem Lm{b}{ls}{v}{w u}(h:P1 b ls v w)(hb:qL w u)(E5)(hls:ls.length<=1000000):
  ∃g cap w',(Builtin.append_ #[22,22] 22 #[v,qG u.heap.size 1 1]).run prog (u.alloc (.cells #[.string ⟨E5.toArray⟩] 9))= .ok (qG g (ls.length+1) cap) w'/\
   w'.cell? (qB b)=some v/\w'.frozen? (qB b)=false/\Hy b E5 ls v w (qT #[]) (w'.setCell (qB b) (qG g (ls.length+1) cap)):=by
 obtain ⟨i0,hi,aD,aw,aH⟩:=info_parts abd;have hu:=h.later hb;have hlt:=hu.lt
 obtain ⟨v',w',ae,hown,ag,av⟩:=pd (P:=prog) (u.alloc (.cells #[.string ⟨E5.toArray⟩] 9)) (b+1) 22 22 9 i0 _ 1 16 underlying22 hi aD aw aH rfl zj v ls.length (Kl ls) (hu.row.alloc _) (qB u.heap.size) 1 1 zj [.string ⟨E5.toArray⟩] rfl
  (YH (cs:= #[.string ⟨E5.toArray⟩]) (t:=9) (fr:=(0,0)) (heap_alloc_new u _)) xg zB zj yM
 obtain ⟨g,cap,rfl⟩:=ownsRow_succ hown
 have fN:∀k,v.ownBlock=some k->b+1<=k/\k<w.heap.size:=fun k hk=>h.row.lt k hk
 have hK1:=(((m7.refl (fun k=>v.ownBlock=some k) u).alloc _).trans ((lS ag).mono (fun k _ hk=>by rw [<-hk])))
 have hK2:=((lW hb).mono (fun k hk bD=>absurd hk zj)).trans hK1;have gG:=hK1.block b hlt (fun e=>zM);have bK:Boxed w' b 22 v:=gG.trans hu.F3;refine ⟨g,cap,w',ae,bK.cell,bK.frozen,qG g (ls.length+1) cap,rfl,⟨?_,?_⟩,?_,?_⟩
 ·exact heap_setCell_same w' b 0 _ _ _ bK
 ·rw [uQ,ZJ,Pk];refine mD hown (fun k hk=> ?_);have hkb:=(hown.lt k hk).1
  grind [Below.heap_setCell]
 ·exact ⟨hK2.os,hK2.tape,hK2.output,by simpa using hK2.size,fun k hk hn=>by
   rw [Below.heap_setCell _ _ _ k (show k≠b from fun e=>hn (.inl e))]
   exact hK2.block k hk (fun e=>hn (.inr e))⟩
 intro k hk
 rcases av with ⟨g1,c1,e1,e2⟩ | ⟨e1,_⟩
 ·cases e2
  subst e1;exact .inl hk
 rw [hk] at e1
 cases e1
 exact .inr (by have:=hb.size;simp;omega)
theorem Mz(nd)(ws):(⟨(Lib.itoa nd).toArray⟩:qY)++⟨#[32]⟩++⟨(Lib.join ws [32]).toArray⟩=⟨(AQ nd ws).toArray⟩:=by
 apply ByteArray.ext;simp [AQ]
theorem Ed(w)(b)(nd)(wb c)(ws:List ByteArray)(ls)(v)(hst:P1 b ls v w)(hw:∀(j:Nat) x,ws[j]? =some x->w.cell? (qA wb (0+j))=some (.string x))(hwb:wb<w.heap.size)(hwc:ws.length<=c)(hws:ws.length<=10)
  (aF:Lib.TabIs prog w "internal/strconv.uint64pow10" .u64 Lib.pow10Tab) (h0: -9223372036854775808<=nd) (h1:nd<=9223372036854775807) (hlen:(Lib.join (ws.map (·.data.toList)) [32]).length<=200000) (hls:ls.length<=1000000):
  qC 128 #[qI nd,qG wb ws.length c,qP b] w (Hy b (AQ nd (ws.map (·.data.toList))) ls v w):=by
 have HT:Aside (Lib.TabBelow prog w.heap.size w "internal/strconv.uint64pow10" .u64 Lib.pow10Tab):=Lib.tabBelow_of_tabIs aF
 have kC:∀u,qL w u->qC 54 #[qI nd] u (qR (.string ⟨(Lib.itoa nd).toArray⟩) u):=fun u hu=>BO nd h0 h1 u (HT.o u hu)
 have kB:∀u,qL w u->qC 104 #[qG wb ws.length c,.string ⟨#[32]⟩] u (qR (.string ⟨(Lib.join (ws.map (·.data.toList)) [32]).toArray⟩) u):=fun u hu=>
  Tryz.strings_Join wb 0 c ws ⟨#[32]⟩ u (fun j x hj=>(hu.cell (p:=(qA wb (0+j))) hwb).trans (hw j x hj)) (uT hwb hu.size) zj hwc zM
 have HI:Aside (∀u,qL w u->qC 54 #[qI nd] u (qR (.string ⟨(Lib.itoa nd).toArray⟩) u)):=kC;have HJ:Aside (∀u,qL w u->qC 104 #[qG wb ws.length c,.string ⟨#[32]⟩] u (qR (.string ⟨(Lib.join (ws.map (·.data.toList)) [32]).toArray⟩) u)):=kB;have HS:Aside (P1 b ls v w):=hst;have cz:Aside (qL w w.drew):=(uM _ w).drew;have gT:=(hst.later cz.o).F3.cell;have hLB:=Mz nd (ws.map (·.data.toList))
 have hIL:(Lib.itoa nd).length<=1000:=by have:=Lib.itoa_length_le nd h0 h1;omega
 obtain ⟨jn,iC⟩:=za (Lib.join (ws.map (·.data.toList)) [32]);rw [<-iC] at HJ hLB hlen;obtain ⟨E5,cD⟩:=za (AQ nd (ws.map (·.data.toList)))
 rw [<-cD] at hLB |-
 obtain ⟨it,hit⟩:=za (Lib.itoa nd);rw [<-hit] at HI hLB hIL
 obtain ⟨sl,fQ⟩:∃sl:Nat,sl=ws.length:=⟨_,rfl⟩
 rw [<-fQ] at HJ |-
 have n1:¬9223372036854775807<it.length+1:=zj;have n2:¬9223372036854775807<it.length+1+jn.length:=zj;clear kC kB hst hw hwb hwc hws aF h0 h1 hlen iC cD hit fQ HT hIL;go_enter func128,ntmps128;go_upto_region 0 with fail;refine nS (S:=fun w'=>w'.cell? (qB b)=some v) (z:=8) zk gT (fun aa=> ?_);refine mV (i:=0) (v:= ?v0) zo zk rfl zk zk zk zk (fun _ _ _ h=>h) (Or.inl ⟨zt,?hy0⟩) aa ?rest0
 case hy0=>(intro w' ab;go_simp;try with_reducible rfl)
 refine qn ?_;refine lY (i:=1) (v:= ?v1) zo rfl zk zk zk (fun _ _ _ h=>h) (Or.inl ⟨zt,?hy1⟩) aa ?rest1
 case hy1=>(intro w' _;go_simp;try with_reducible rfl)
 refine qn ?_;refine lY (i:=4) (v:= ?v4) zo rfl zk zk zk (fun _ _ _ h=>h) (Or.inl ⟨zt,?hy4⟩) aa ?rest4
 case hy4=>(intro w' _;go_simp;try with_reducible rfl)
 refine qn ?_;refine lN (i:=2) zk rfl (fun K hK=> ?_);go_simp;refine (HI.o _ cz.o).mono ?_;rintro e w1 ⟨rfl,hb1⟩;have B1:=zi cz.o hb1;have hS1:=(HS.o.later B1).F3.cell;refine hK _ _ (.inl hS1) ?_;clear hK K hb1;refine qn ?_;refine lY (i:=3) (v:= ?v3) zo rfl zk zk zk (fun _ _ _ h=>h) (Or.inl ⟨zt,?hy3⟩) hS1 ?rest3
 case hy3=>(intro w' _;go_simp;try with_reducible rfl)
 refine qn ?_;refine lN (i:=5) zk rfl (fun K hK=> ?_);go_simp;refine (HJ.o _ B1).mono ?_;rintro e w2 ⟨rfl,hb2⟩;have B2:=zi B1 hb2;have hS2:=(HS.o.later B2).F3.cell;refine hK _ _ (.inl hS2) ?_;clear hK K hb2;refine qn ?_;obtain ⟨g,cap,w3,ae,hc3,hf3,cn⟩:=Lm HS.o B2 E5 hls;have HO:Aside _:=cn;clear cn;refine lY (i:=6) (v:= ?v6a) zo rfl zk zk zk (fun _ _ _ h=>h) (Or.inl ⟨zt,?hy6a⟩) hS2 ?rest6a
 case hy6a=>(intro w' _;go_simp;try with_reducible rfl)
 refine qn ?_
 try rw [hLB]
 refine lN (i:=7) zk rfl (fun K hK=> ?_);go_simp;refine hK _ _ (.inl ((HS.o.later (B2.alloc B2.size _)).F3.cell)) ?_;clear hK K;refine qn ?_;refine lN (i:=8) zk rfl (fun K hK=> ?_);rw [if_pos zt];simp only [ZR,ZU,ZW];refine Lib.wp_append_run _ _ _ _ _ rfl v (qG w2.heap.size 1 1) rfl rfl _ w3 ae ?_;refine hK _ _ (.inr ⟨rfl,zo⟩) ?_;clear hK K ae;refine qn ?_;refine Id (i:=9) zk rfl zk (fun K hK=> ?_);go_simp;refine hK _ _ ?_;clear hK K hc3 hf3;refine nZ zk ?_ _;go_wp2;go_end0;obtain ⟨v',_,h⟩:=HO.o;exact ⟨v',rfl,h⟩
end
section
open RowKit
structure D6 (Kp:Nat->Prop) (V W:qW):Prop where
 size:V.heap.size<=W.heap.size
 block:∀k,Kp k->k<V.heap.size->W.heap[k]? =V.heap[k]?
theorem D6.refl(Kp)(V):D6 Kp V V:=⟨uL _,fun _ _ _=>rfl⟩
theorem D6.trans{Kp}{a b c}(h:D6 Kp a b)(k:D6 Kp b c):D6 Kp a c:=⟨uO h.size k.size,fun i hi hs=>(k.block i hi (uT hs h.size)).trans (h.block i hi hs)⟩
theorem D6.m8{Kp}{V W}(h:qL V W):D6 Kp V W:=⟨h.size,fun k _ hk=>h.block k hk⟩
theorem D6.drew{Kp}{V W}(h:D6 Kp V W):D6 Kp V W.drew:=⟨h.size,h.block⟩
theorem D6.cell{Kp}{V W}(h:D6 Kp V W){b o}{v}(hb:Kp b)(hc:V.cell? (qA b o)=some v):W.cell? (qA b o)=some v:=by
 rw [uS (a:=(qA b o)) (h.block b hb (uN V (qA b o) hc))];exact hc
def WJ(S0:Nat)(Kp:Nat->Prop)(ad:qF)(P:OpX->Nat->World->Prop)(W:qW)(e:Ending)(w':qW):Prop:=∃(y:OpX) (cd:Nat),e=qT #[mJ y,eV ad cd]/\(cd=0->mv y=0)/\Aside (D6 Kp W w'/\∀w'',m7 (fun k=>S0<=k/\k<W.heap.size) w' w''->P y cd w'')
def za9(ad:qF)(P:OpX->Nat->World->Prop)(e:Ending)(w':qW):Prop:=∃(y:OpX) (cd:Nat),((cd=0/\e=qT #[.string ⟨(Lib.itoa (idO y)).toArray⟩,.nilIface])\/(cd≠0/\e= .returned (.tuple #[.string ⟨#[]⟩,eV ad cd])))/\Aside (P y cd w')
theorem MI(y):ny y=(qVl y):=rfl
theorem zb9{Kp}{V X}{P:OpX->Nat->World->Prop}{y}{cd Z}{cs}(hcd:cd=0->mv y=0)(hC:D6 Kp V X)(jZ:V.heap.size<=Z)(hZ:p8 X Z 88 cs)(hl:cs.length=8)(hP:∀w'',m7 (fun k=>k=Z) X w''->P y cd w''):
  D6 Kp V (X.setCells Z 0 (ny y))/\Aside ((cd=0->mv y=0)/\p8 (X.setCells Z 0 (ny y)) Z 88 (ny y)/\P y cd (X.setCells Z 0 (ny y))):=by
 have hk:=lZ Z (ny y) 0 X;have h1:=mF Z (ny y) 0 X cs.toArray 88 hZ;have h2:=oD (ny y) [] cs [] cs.toArray zr (by rw [hl];rfl)
 generalize X.setCells Z 0 (ny y)=W at hk h1 |-
 generalize ny y=l at h1 h2 |-
 have h3:LG cs.toArray 0 l=l.toArray:=by rw [<-YW];simpa using h2
 rw [h3] at h1;exact ⟨⟨uO hC.size hk.size,fun k q1 q2=>(hk.block k (uT q2 hC.size) (fun e=>zj)).trans (hC.block k q1 q2)⟩,hcd,h1,hP W hk⟩
theorem NG(w)(S0)(Kp)(ad)(P)(a b p bm g)(v0 v1 v2)(x)(r)(y:OpX)
  (hS:B8 w v0 v1 v2 x) (hx:x.1= [r]) (ka:p8 w a 44 [ptB p]) (kb:p8 w b 89 [clV g []]) (kp:p8 w p 46 [ptB bm])
  (bH:Kp a/\Kp b/\Kp p) (gT:∀k,S0<=k->Kp k) (hrep:∀k,v0.ownBlock=some k->Kp k) (bD:S0<=w.heap.size)
  (eg:∀args w,(callFunc g args).run prog w= .ok (.enter g args) w)
  (hw:∀W,qL w W->Calls prog g #[.agg #[v0,v1,v2]] W (sY y W))
  (hd:∀W,qL w W->qC 81 #[qP bm,qI r,mJ y] W (WJ S0 Kp ad P W))
  (hP:∀y cd W W',P y cd W->qL W W'->P y cd W')
  (hI:∀y W,P y 0 W->mv y=0->qC 54 #[qI (idO y)] W (qR (.string ⟨(Lib.itoa (idO y)).toArray⟩) W)):
  qC 80 #[.agg #[v0,v1,v2],ptB a,ptB b] w (za9 ad P):=by
 obtain ⟨q0,c0,rfl,l0,h0⟩:=hS.abW (by rw [hx];simp);have k0:=h0 0 r (by rw [hx];rfl)
 rw [hx] at hw |-
 have kq:=hrep q0 rfl;obtain ⟨a1,n1,q1,rfl⟩:∃a0 n0 q0,v1= .slice a0 n0 q0:=qz;obtain ⟨a2,n2,q2,rfl⟩:∃a0 n0 q0,v2= .slice a0 n0 q0:=qK
 simp only [ZJ] at hw |-
 clear hS hx h0;have hb0:qL w (w.alloc (.cells #[qG q0 1 c0,.slice a1 n1 q1,.slice a2 n2 q2] 84)):=zh w _;have ks:=mq w [qG q0 1 c0,.slice a1 n1 q1,.slice a2 n2 q2] 84;have ka':=(ka.later hb0 ka.lt).cell 0;have kb':=(kb.later hb0 kb.lt).cell 0;have b6:=(kp.later hb0 kp.lt).cell 0;have dV:=mg hb0 k0;have s0:=ks.cell 0;have s1:=ks.cell 1;have s2:=ks.cell 2;simp only [uZ,Zb] at ka' kb' b6 s0 s1 s2;have kz:=gT _ bD;have HW:Aside (∀W,qL w W->Calls prog g #[.agg #[qG q0 1 c0,.slice a1 n1 q1,.slice a2 n2 q2]] W (sY y W)):=hw;have HD:Aside (∀W,qL w W->qC 81 #[qP bm,qI r,mJ y] W (WJ S0 Kp ad P W)):=hd
 have HPI:Aside (_/\_):=⟨hP,hI⟩
 have cz:Aside (qL w (w.alloc (.cells #[qG q0 1 c0,.slice a1 n1 q1,.slice a2 n2 q2] 84)).drew):=hb0.drew;clear hw hd hP hI hb0 ks ka kb kp k0;unfold ptB clV at*;go_enter func80,ntmps80;go_upto_region 1 with fail;obtain ⟨V,hV⟩:=ze (w.alloc (.cells #[qG q0 1 c0,.slice a1 n1 q1,.slice a2 n2 q2] 84))
 rw [<-hV.o] at cz ka' kb' b6 dV s0 s1 s2 |-
 have CS:=(D6.refl Kp V).drew
 generalize w.heap.size=Sd at kz s0 s1 s2 |-
 go_cut [6,7] (fun s6 s7 wx=>∃(Z cd:Nat) (yy:OpX),s6=qP Z/\s7=eV ad cd/\Aside ((cd=0->mv yy=0)/\p8 wx Z 88 (ny yy)/\P yy cd wx))
 case first=>
  refine lV (S:=D6 Kp V) zk CS (fun aa=> ?_);refine tk 0 CS ?_ (y:=ty (by intro w' ab;have q:=ab.cell (b:=a) (o:=0) bH.1 ka';clear ab;go_simp;try with_reducible rfl));refine tk 1 CS ?_;refine tk 2 CS ?_;refine tk 3 CS ?_ (y:=ty (by intro w' ab;have q:=ab.cell (b:=p) (o:=0) bH.2.2 b6;clear ab;go_simp;try with_reducible rfl));refine tk 4 CS ?_;refine tk 5 CS ?_ (y:=ty zR);refine tk 6 CS ?_;refine tk 7 CS ?_ (y:=ty (by intro w' ab;have q:=ab.cell (b:=q0) (o:=0) kq dV;clear ab;go_simp;try with_reducible rfl));refine tk 8 CS ?_ (y:=ty (by intro w' ab;have q:=ab.cell (b:=b) (o:=0) bH.2.1 kb';clear ab;go_simp;try with_reducible rfl));refine tk 9 CS ?_ (y:=ty (by intro w' ab;have q0:=ab.cell (b:=Sd) (o:=0) kz s0;have q1:=ab.cell (b:=Sd) (o:=1) kz s1;have q2:=ab.cell (b:=Sd) (o:=2) kz s2;clear ab;go_simp;try with_reducible rfl));refine we (i:=10) (j:=15) zk rfl rfl (fun K hK=> ?wi) (fun K hK=> ?al)
  case wi=>
   go_simp;refine (HW.o V.drew cz.o).mono ?_;rintro e w6 ⟨rfl,H6⟩;have C6:=CS.trans (D6.m8 H6.o);have HB6:Aside (qL w w6):=zi cz.o H6.o;refine hK _ _ C6 ?_;clear hK K;refine qn ?_;refine we (i:=11) (j:=15) zk rfl rfl (fun K hK=> ?dd) (fun K hK=> ?ad)
   case dd=>
    go_simp;refine (HD.o w6 HB6.o).mono ?_;rintro e w7 ⟨yy,cd,rfl,hcd,H7⟩;have C7:=C6.trans H7.o.1;refine hK _ _ C7 ?_;clear hK K;refine qn ?_;obtain ⟨X,hX⟩:=ze (w7.alloc qZc)
    have hbX:qL w7 X:=by rw [hX.o];exact zh w7 _
    have ZX:p8 X w7.heap.size 88 qZl:=by rw [hX.o];exact mq w7 _ _
    have HZ:Aside (∀w'',m7 (fun k=>k=w7.heap.size) X w''->P yy cd w''):=fun w'' hk=>H7.o.2 w'' ((lW hbX).then hk (fun k gC e=>zj) |>.mono (fun k gC e=>absurd e zj))
    have CX:=C7.trans (D6.m8 hbX);have jZ:=C7.size;obtain ⟨t',b',m',kd',nd',o',s',v'⟩:=yy;obtain ⟨er,aB⟩:=ze (eV ad cd);rw [<-aB.o];unfold mJ;refine qn ?_;refine tk 12 C7 ?_;refine tk 13 C7 ?_;refine tk 14 C7 ?_;refine an (i:=15) zk rfl (fun K hK=> ?_);go_simp;rw [<-hX.o];refine hK _ _ CX ?_;clear hK K;refine qn ?_;clear hX hbX H7 C7
    generalize w7.heap.size=Z at ZX HZ jZ |-
    have zz:=ZX.cell;have z0:=zz 0;have z1:=zz 1;have z2:=zz 2;have z3:=zz 3;have z4:=zz 4;have z5:=zz 5;have z6:=zz 6;have z7:=zz 7
    have zf:∀o,X.frozen? (qA Z o)=false:=fun o=>uF
    simp only [uZ,Zb] at z0 z1 z2 z3 z4 z5 z6 z7;have HF:=zb9 hcd CX jZ ZX rfl HZ.o;clear zz;refine an (i:=16) zk rfl (fun K hK=> ?_);go_simp;refine hK _ _ HF.1 ?_;clear hK K;refine qn ?_;refine tk 17 HF.1 ?_;refine wpAnyH_done zk ?_ _;refine qn ?_;clear z0 z1 z2 z3 z4 z5 z6 z7 zf;go_wp2;go_meet;exact ⟨Z,cd,_,rfl,aB.o,HF.2⟩
   case ad=>
    obtain ⟨Y,hY⟩:=ze (w6.alloc qZc)
    have jj:qL w6 Y:=by rw [hY.o];exact zh w6 _
    have ZY:p8 Y w6.heap.size 88 qZl:=by rw [hY.o];exact mq w6 _ _
    have CY:=C6.trans (D6.m8 jj);have jZ:=C6.size;have hSZ:=uO bD HB6.o.size;have HBY:Aside (qL w Y):=zi HB6.o jj;go_simp;rw [<-hY.o];refine hK _ _ CY ?_;clear hK K;refine qn ?_;clear hY jj C6 HB6 H6
    generalize w6.heap.size=Z at ZY jZ hSZ |-
    refine an (i:=11) zk rfl (fun K hK=> ?_);go_simp;refine (HD.o Y HBY.o).mono ?_;exact ka6
  case al=>
    obtain ⟨Y,hY⟩:=ze ((V.alloc qZc).drew)
    have jj:Below V.drew.heap.size V.drew Y:=by rw [hY.o];exact (uM _ V.drew).alloc zg _
    have ZY:p8 Y V.heap.size 88 qZl:=by rw [hY.o];exact mq V _ _
    have CY0:=CS.trans (D6.m8 jj);have jZ:V.heap.size<=V.heap.size:=uL _;have hSZ:S0<=V.heap.size:=uO bD cz.o.size;have kA:Aside (qL w Y):=zi cz.o jj;go_simp;rw [<-hY.o];refine hK _ _ CY0 ?_;clear hK K;refine qn ?_;clear hY jj;obtain ⟨Z,hZ⟩:=za V.heap.size
    rw [<-hZ] at ZY hSZ |-
    replace jZ:V.heap.size<=Z:=Nat.le_of_eq hZ.symm;clear hZ;refine an (i:=10) zk rfl (fun K hK=> ?_);go_simp;refine (HW.o Y kA.o).mono ?_;rintro e Y2 ⟨rfl,H6⟩;have CY:=CY0.trans (D6.m8 H6.o);have ZY2:=ZY.later H6.o ZY.lt;have HBY:Aside (qL w Y2):=zi kA.o H6.o;refine hK _ _ CY ?_;clear hK K ZY H6 CY0 kA;have ZY:=ZY2;clear ZY2;refine qn ?_;refine an (i:=11) zk rfl (fun K hK=> ?_);go_simp;refine (HD.o Y2 HBY.o).mono ?_;exact ka6
 obtain ⟨Z,cd,yy,rfl,rfl,HE⟩:=hcut;by_cases hc:cd=0
 ·subst hc;have hz:=HE.o.2.1.cell;have z0:=hz 0;have z1:=hz 1;have z2:=hz 2;have z3:=hz 3;have z4:=hz 4;have z5:=hz 5;have z6:=hz 6;have z7:=hz 7;rw [MI] at z0 z1 z2 z3 z4 z5 z6 z7;simp only [uZ,Zb] at z0 z1 z2 z3 z4 z5 z6 z7;have hid:=Il yy wc (HE.o.1 (by trivial));rw [show eV ad 0= .nilIface from rfl];unfold mJ at hid;clear HD HW CS cz hz;go_wp2_with fail;refine hid.mono ?_;clear hid z0 z1 z2 z3 z4 z5 z6 z7;rintro e w8 ⟨rfl,hb8⟩;have HP8:Aside (P yy 0 w8):=HPI.o.1 _ _ _ _ HE.o.2.2 hb8;have hit:=HPI.o.2 yy w8 HP8.o (HE.o.1 (by trivial));clear hb8;go_wp2_with fail;refine hit.mono ?_;clear hit;rintro e w9 ⟨rfl,hb9⟩;have HP9:Aside (P yy 0 w9):=HPI.o.1 _ _ _ _ HP8.o hb9;clear hb9;go_wp2;go_ret2;exact ⟨yy,0,.inl ⟨rfl,rfl⟩,HP9.o⟩
 have HEV:Aside (eV ad cd= .iface 437 (.pointer (some (ad (cd - 1))))):=if_neg hc;have HP9:Aside (P yy cd wc):=HE.o.2.2;rw [HEV.o];clear HD HW CS cz;go_wp2;go_ret2;exact ⟨yy,cd,.inr ⟨hc,by rw [HEV.o];rfl⟩,HP9.o⟩
def me(Q:ByteArray->World->Prop)(e:Ending)(w':qW):Prop:=∃s,e= .returned (.string s)/\Aside (Q s w')
theorem XN(w)(Q)(a b p bm br g)(v0 v1 v2)(x)(r)(hS:B8 w v0 v1 v2 x)(hx:x.1[0]? =some r)(ka:p8 w a 44 [ptB p])(kb:p8 w b 99 [clV g []])(kp:p8 w p 46 [ptB bm])
  (eg:∀args w,(callFunc g args).run prog w= .ok (.enter g args) w)
  (hR:∀W,qL w W->qC 99 #[qP bm,qI r] W fun e w'=>e=qT #[qP br,.nilIface]/\w'=W)
  (hg:∀W,qL w W->Calls prog g #[qP br,.agg #[v0,v1,v2]] W (me Q)):
  qC 98 #[.agg #[v0,v1,v2],ptB a,ptB b] w fun e w'=>∃s,e=qT #[.string s,.nilIface]/\Aside (Q s w'):=by
 obtain ⟨g0,c0,rfl,l0,h0⟩:=hS.abW (by have:=(uI.1 hx).1;omega);have k0:=h0 0 r hx
 have b1:(0:Int)<(x.1.length:Int):=by have:=(uI.1 hx).1;omega
 have b2:0<x.1.length:=zj;generalize x.1.length=n0 at*;obtain ⟨a1,n1,q1,rfl⟩:∃a0 n0 q0,v1= .slice a0 n0 q0:=zK;obtain ⟨a2,n2,q2,rfl⟩:∃a0 n0 q0,v2= .slice a0 n0 q0:=zv;have hb0:qL w (w.alloc (.cells #[qG g0 n0 c0,.slice a1 n1 q1,.slice a2 n2 q2] 84)):=zh w _;have kz:=mq w [qG g0 n0 c0,.slice a1 n1 q1,.slice a2 n2 q2] 84;have ka':=(ka.later hb0 ka.lt).cell 0;have kb':=(kb.later hb0 kb.lt).cell 0;have b6:=(kp.later hb0 kp.lt).cell 0;have dV:=mg hb0 k0;have s0:=kz.cell 0;have s1:=kz.cell 1;have s2:=kz.cell 2;simp only [uZ,Zb] at ka' kb' b6 s0 s1 s2;have hr:=hR _ hb0.drew;have HG:=Aside.mk' hg;have HB:Aside (qL w (w.alloc (.cells #[qG g0 n0 c0,.slice a1 n1 q1,.slice a2 n2 q2] 84)).drew):=hb0.drew;unfold ptB clV at*;simp only [YE,List.toArray] at kb';go_enter func98,ntmps98;go_upto_region 1 with fail;generalize w.alloc (.cells #[qG g0 n0 c0,.slice a1 n1 q1,.slice a2 n2 q2] 84)=V at*
 obtain ⟨Sd,hSd⟩:∃Sd,Aside (w.heap.size=Sd):=⟨_,rfl⟩
 rw [hSd.o] at s0 s1 s2 |-
 have CS:D6 (fun _=>True) V V.drew:=(D6.refl _ V).drew;refine lV (S:=D6 (fun _=>True) V) zk CS (fun aa=> ?_);refine tk 0 CS ?_ (y:=ty (by intro w' ab;have q:=ab.cell (b:=a) (o:=0) trivial ka';clear ab;go_simp;try with_reducible rfl));refine tk 1 CS ?_;refine tk 2 CS ?_;refine tk 3 CS ?_ (y:=ty (by intro w' ab;have q:=ab.cell (b:=p) (o:=0) trivial b6;clear ab;go_simp;try with_reducible rfl));refine tk 4 CS ?_;refine tk 5 CS ?_ (y:=ty (by intro w' ab;have q:=ab.cell (b:=Sd) (o:=0) trivial s0;clear ab;go_simp;try with_reducible rfl));refine tk 6 CS ?_;refine tk 7 CS ?_ (y:=ty (by intro w' ab;have q:=ab.cell (b:=g0) (o:=0) trivial dV;clear ab;go_simp;try with_reducible rfl));refine an (i:=8) zk rfl (fun K hK=> ?_);go_simp;refine hr.mono ?_;rintro e w1 ⟨rfl,hw1⟩;rw [hw1];refine hK _ _ CS ?_;refine qn ?_;refine tk 9 CS ?_;refine tk 10 CS ?_;refine tk 11 CS ?_;refine tk 12 CS ?_;refine tk 13 CS ?_;refine wpAnyH_done zk ?_ _;refine qn ?_;have kb2:=CS.cell (b:=b) (o:=0) trivial kb';have t0:=CS.cell (b:=Sd) (o:=0) trivial s0;have t1:=CS.cell (b:=Sd) (o:=1) trivial s1;have t2:=CS.cell (b:=Sd) (o:=2) trivial s2;have hc:=HG.o V.drew HB.o;generalize V.drew=U at*;go_wp2_with fail;refine hc.mono ?_;rintro e w2 ⟨s,rfl,HQ⟩;go_wp2;go_ret2;exact ⟨s,rfl,HQ.o⟩
def oq(Kp:Nat->Prop)(ad:qF)(Q:Nat->World->Prop)(W:qW)(e:Ending)(w':qW):Prop:=∃cd,e= .returned (eV ad cd)/\Aside (D6 Kp W w'/\Q cd w')
def Wk(ad:qF)(Q:Nat->World->Prop)(e:Ending)(w':qW):Prop:=∃cd,((cd=0/\e= .returned (.tuple #[.string ⟨#[111,107]⟩,.nilIface]))\/(cd≠0/\e= .returned (.tuple #[.string ⟨#[]⟩,eV ad cd])))/\Aside (Q cd w')
theorem KA(w)(ad)(Q)(q s g)(v0 v1 v2)(x)(hS:B8 w v0 v1 v2 x)(kq:p8 w q 93 [clV g [s]])
  (eg:∀args w,(callFunc g args).run prog w= .ok (.enter g args) w)
  (hg:∀W,qL w W->Calls prog g #[.agg #[v0,v1,v2],ptB s] W fun e w'=>∃cd,e= .returned (eV ad cd)/\Aside (Q cd w')):
  qC 84 #[.agg #[v0,v1,v2],ptB q] w (Wk ad Q):=by
 obtain ⟨a0,n0,q0,rfl⟩:∃a0 n0 q0,v0= .slice a0 n0 q0:=by obtain ⟨⟨B0,h0⟩,_,_⟩:=hS;obtain ⟨x,y,e⟩:=mC h0;exact ⟨_,_,_,e⟩
 obtain ⟨a1,n1,q1,rfl⟩:∃a0 n0 q0,v1= .slice a0 n0 q0:=qz;obtain ⟨a2,n2,q2,rfl⟩:∃a0 n0 q0,v2= .slice a0 n0 q0:=qK;have hb0:qL w (w.alloc (.cells #[.slice a0 n0 q0,.slice a1 n1 q1,.slice a2 n2 q2] 84)):=zh w _;have kq':=(kq.later hb0 kq.lt).cell 0;simp only [uZ] at kq';have hc:=hg _ hb0;unfold ptB clV at*;simp only [ZS,YE,List.toArray] at kq';go_enter func84,ntmps84;go_wp2_with fail;refine hc.mono ?_;rintro e w1 ⟨cd,rfl,HQ⟩;by_cases h0:cd=0
 ·subst h0;rw [show eV ad 0= .nilIface from rfl];go_wp2;go_ret2;exact ⟨0,.inl ⟨rfl,rfl⟩,HQ.o⟩
 have HEV:Aside (eV ad cd= .iface 437 (.pointer (some (ad (cd - 1))))):=if_neg h0;rw [HEV.o];go_wp2;go_ret2;exact ⟨cd,.inr ⟨h0,by rw [HEV.o];rfl⟩,HQ.o⟩
theorem Lf(w)(Kp)(ad)(Q)(s p bm)(v0 v1 v2)(x)(y0 y1)(hS:B8 w v0 v1 v2 x)(hy0:x.1[0]? =some y0)(hy1:x.1[1]? =some y1)(ks:p8 w s 44 [ptB p])(kp:p8 w p 46 [ptB bm])(bH:Kp s/\Kp p/\Kp w.heap.size/\(∀k,v0.ownBlock=some k->Kp k)/\∀k,v1.ownBlock=some k->Kp k)
  (hm:∀W,qL w W->qC 39 #[qP bm,qI y0,qI y1] W (oq Kp ad Q W)) (hQ:∀cd W W',Q cd W->qL W W'->Q cd W'):
  qC 38 #[.agg #[v0,v1,v2],ptB s] w fun e w'=>∃cd,e= .returned (eV ad cd)/\Aside (Q cd w'):=by
 obtain ⟨g0,c0,rfl,l0,h0⟩:=hS.abW (by have:=(uI.1 hy0).1;omega);have k0:=h0 0 y0 hy0;have b0:=(uI.1 hy0).1;have k1:=h0 1 y1 hy1;have b1:=(uI.1 hy1).1;generalize x.1.length=n0 at*;have kq0:=bH.2.2.2.1 g0 rfl;obtain ⟨a1,n1,q1,rfl⟩:∃a0 n0 q0,v1= .slice a0 n0 q0:=zK;obtain ⟨a2,n2,q2,rfl⟩:∃a0 n0 q0,v2= .slice a0 n0 q0:=zv;have bi1:(1:Int)<(n0:Int):=zj;have hb0:qL w (w.alloc (.cells #[qG g0 n0 c0,.slice a1 n1 q1,.slice a2 n2 q2] 84)):=zh w _;have kb:=mq w [qG g0 n0 c0,.slice a1 n1 q1,.slice a2 n2 q2] 84;have du:=(ks.later hb0 ks.lt).cell 0;have b6:=(kp.later hb0 kp.lt).cell 0;have s0:=kb.cell 0;have s1:=kb.cell 1;have dV:=mg hb0 k0;have k1':=mg hb0 k1;simp only [uZ,Zb] at du b6 s0 s1;have hc:=hm _ hb0.drew;have kz:=bH.2.2.1;unfold ptB at*;go_enter func38,ntmps38;go_upto_region 1 with fail;generalize w.alloc (.cells #[qG g0 n0 c0,.slice a1 n1 q1,.slice a2 n2 q2] 84)=V at*;generalize w.heap.size=Sd at*;have CS:=(D6.refl Kp V).drew;refine lV (S:=D6 Kp V) zk CS (fun aa=> ?_);refine tk 0 CS ?_ (y:=ty yr);refine tk 1 CS ?_;refine tk 2 CS ?_;refine tk 3 CS ?_ (y:=ty ym);refine tk 4 CS ?_;refine tk 5 CS ?_ (y:=ty zR);refine tk 6 CS ?_;refine tk 7 CS ?_ (y:=ty yq);refine tk 8 CS ?_;refine tk 9 CS ?_ (y:=ty zR);refine tk 10 CS ?_;refine tk 11 CS ?_ (y:=ty (by intro w' ab;have q:=ab.cell (b:=g0) (o:=1) kq0 k1';clear ab;go_simp;try with_reducible rfl));exact kd2
theorem DX(w)(Kp)(ad)(Q)(s p bm)(v0 v1 v2)(x)(y0)(hS:B8 w v0 v1 v2 x)(hy0:x.2.1[0]? =some y0)(ks:p8 w s 44 [ptB p])(kp:p8 w p 46 [ptB bm])(bH:Kp s/\Kp p/\Kp w.heap.size/\(∀k,v0.ownBlock=some k->Kp k)/\∀k,v1.ownBlock=some k->Kp k)
  (hm:∀W,qL w W->qC 41 #[qP bm,qI y0] W (oq Kp ad Q W)) (hQ:∀cd W W',Q cd W->qL W W'->Q cd W'):
  qC 40 #[.agg #[v0,v1,v2],ptB s] w fun e w'=>∃cd,e= .returned (eV ad cd)/\Aside (Q cd w'):=by
 obtain ⟨a0,n0,q0,rfl⟩:∃a0 n0 q0,v0= .slice a0 n0 q0:=zA;obtain ⟨g1,c1,rfl,l1,h1⟩:=hS.J (by have:=(uI.1 hy0).1;omega);have k0:=h1 0 y0 hy0;have b0:=(uI.1 hy0).1;generalize x.2.1.length=n1 at*;have kq1:=bH.2.2.2.2 g1 rfl;obtain ⟨a2,n2,q2,rfl⟩:∃a0 n0 q0,v2= .slice a0 n0 q0:=zv;have hb0:qL w (w.alloc (.cells #[.slice a0 n0 q0,qG g1 n1 c1,.slice a2 n2 q2] 84)):=zh w _;have kb:=mq w [.slice a0 n0 q0,qG g1 n1 c1,.slice a2 n2 q2] 84;have du:=(ks.later hb0 ks.lt).cell 0;have b6:=(kp.later hb0 kp.lt).cell 0;have s0:=kb.cell 0;have s1:=kb.cell 1;have dV:=mg hb0 k0;simp only [uZ,Zb] at du b6 s0 s1;have hc:=hm _ hb0.drew;have kz:=bH.2.2.1;unfold ptB at*;go_enter func40,ntmps40;exact ka3
theorem Hx(w)(Kp)(ad)(Q)(s p bm)(v0 v1 v2)(x)(y0)(hS:B8 w v0 v1 v2 x)(hy0:x.2.1[0]? =some y0)(ks:p8 w s 44 [ptB p])(kp:p8 w p 46 [ptB bm])(bH:Kp s/\Kp p/\Kp w.heap.size/\(∀k,v0.ownBlock=some k->Kp k)/\∀k,v1.ownBlock=some k->Kp k)
  (hm:∀W,qL w W->qC 43 #[qP bm,qI y0] W (oq Kp ad Q W)) (hQ:∀cd W W',Q cd W->qL W W'->Q cd W'):
  qC 42 #[.agg #[v0,v1,v2],ptB s] w fun e w'=>∃cd,e= .returned (eV ad cd)/\Aside (Q cd w'):=by
 obtain ⟨a0,n0,q0,rfl⟩:∃a0 n0 q0,v0= .slice a0 n0 q0:=zA;obtain ⟨g1,c1,rfl,l1,h1⟩:=hS.J (by have:=(uI.1 hy0).1;omega);have k0:=h1 0 y0 hy0;have b0:=(uI.1 hy0).1;generalize x.2.1.length=n1 at*;have kq1:=bH.2.2.2.2 g1 rfl;obtain ⟨a2,n2,q2,rfl⟩:∃a0 n0 q0,v2= .slice a0 n0 q0:=zv;have hb0:qL w (w.alloc (.cells #[.slice a0 n0 q0,qG g1 n1 c1,.slice a2 n2 q2] 84)):=zh w _;have kb:=mq w [.slice a0 n0 q0,qG g1 n1 c1,.slice a2 n2 q2] 84;have du:=(ks.later hb0 ks.lt).cell 0;have b6:=(kp.later hb0 kp.lt).cell 0;have s0:=kb.cell 0;have s1:=kb.cell 1;have dV:=mg hb0 k0;simp only [uZ,Zb] at du b6 s0 s1;have hc:=hm _ hb0.drew;have kz:=bH.2.2.1;unfold ptB at*;go_enter func42,ntmps42;exact ka3
theorem FL(w)(Kp)(ad)(Q)(s p bm)(v0 v1 v2)(x)(y0)(hS:B8 w v0 v1 v2 x)(hy0:x.2.1[0]? =some y0)(ks:p8 w s 44 [ptB p])(kp:p8 w p 46 [ptB bm])(bH:Kp s/\Kp p/\Kp w.heap.size/\(∀k,v0.ownBlock=some k->Kp k)/\∀k,v1.ownBlock=some k->Kp k)
  (hm:∀W,qL w W->qC 45 #[qP bm,qI y0] W (oq Kp ad Q W)) (hQ:∀cd W W',Q cd W->qL W W'->Q cd W'):
  qC 44 #[.agg #[v0,v1,v2],ptB s] w fun e w'=>∃cd,e= .returned (eV ad cd)/\Aside (Q cd w'):=by
 obtain ⟨a0,n0,q0,rfl⟩:∃a0 n0 q0,v0= .slice a0 n0 q0:=zA;obtain ⟨g1,c1,rfl,l1,h1⟩:=hS.J (by have:=(uI.1 hy0).1;omega);have k0:=h1 0 y0 hy0;have b0:=(uI.1 hy0).1;generalize x.2.1.length=n1 at*;have kq1:=bH.2.2.2.2 g1 rfl;obtain ⟨a2,n2,q2,rfl⟩:∃a0 n0 q0,v2= .slice a0 n0 q0:=zv;have hb0:qL w (w.alloc (.cells #[.slice a0 n0 q0,qG g1 n1 c1,.slice a2 n2 q2] 84)):=zh w _;have kb:=mq w [.slice a0 n0 q0,qG g1 n1 c1,.slice a2 n2 q2] 84;have du:=(ks.later hb0 ks.lt).cell 0;have b6:=(kp.later hb0 kp.lt).cell 0;have s0:=kb.cell 0;have s1:=kb.cell 1;have dV:=mg hb0 k0;simp only [uZ,Zb] at du b6 s0 s1;have hc:=hm _ hb0.drew;have kz:=bH.2.2.1;unfold ptB at*;go_enter func44,ntmps44;exact ka3
theorem LM(w)(Kp)(ad)(Q)(s p bm)(v0 v1 v2)(x)(y0 y1)(hS:B8 w v0 v1 v2 x)(hy0:x.1[0]? =some y0)(hy1:x.2.1[0]? =some y1)(ks:p8 w s 44 [ptB p])(kp:p8 w p 46 [ptB bm])(bH:Kp s/\Kp p/\Kp w.heap.size/\(∀k,v0.ownBlock=some k->Kp k)/\∀k,v1.ownBlock=some k->Kp k)
  (hm:∀W,qL w W->qC 47 #[qP bm,qI y0,qI y1] W (oq Kp ad Q W)) (hQ:∀cd W W',Q cd W->qL W W'->Q cd W'):
  qC 46 #[.agg #[v0,v1,v2],ptB s] w fun e w'=>∃cd,e= .returned (eV ad cd)/\Aside (Q cd w'):=by
 obtain ⟨g0,c0,rfl,l0,h0⟩:=hS.abW (by have:=(uI.1 hy0).1;omega);have k0:=h0 0 y0 hy0;have b0:=(uI.1 hy0).1;generalize x.1.length=n0 at*;have kq0:=bH.2.2.2.1 g0 rfl;obtain ⟨g1,c1,rfl,l1,h1⟩:=hS.J (by have:=(uI.1 hy1).1;omega);have k1:=h1 0 y1 hy1;have b1:=(uI.1 hy1).1;generalize x.2.1.length=n1 at*;have kq1:=bH.2.2.2.2 g1 rfl;obtain ⟨a2,n2,q2,rfl⟩:∃a0 n0 q0,v2= .slice a0 n0 q0:=zv;have hb0:qL w (w.alloc (.cells #[qG g0 n0 c0,qG g1 n1 c1,.slice a2 n2 q2] 84)):=zh w _;have kb:=mq w [qG g0 n0 c0,qG g1 n1 c1,.slice a2 n2 q2] 84;have du:=(ks.later hb0 ks.lt).cell 0;have b6:=(kp.later hb0 kp.lt).cell 0;have s0:=kb.cell 0;have s1:=kb.cell 1;have dV:=mg hb0 k0;have k1':=mg hb0 k1;simp only [uZ,Zb] at du b6 s0 s1;have hc:=hm _ hb0.drew;have kz:=bH.2.2.1;unfold ptB at*;go_enter func46,ntmps46;go_upto_region 1 with fail;generalize w.alloc (.cells #[qG g0 n0 c0,qG g1 n1 c1,.slice a2 n2 q2] 84)=V at*;generalize w.heap.size=Sd at*;have CS:=(D6.refl Kp V).drew;refine lV (S:=D6 Kp V) zk CS (fun aa=> ?_);refine tk 0 CS ?_ (y:=ty yr);refine tk 1 CS ?_;refine tk 2 CS ?_;refine tk 3 CS ?_ (y:=ty ym);refine tk 4 CS ?_;refine tk 5 CS ?_ (y:=ty zR);refine tk 6 CS ?_;refine tk 7 CS ?_ (y:=ty yq);refine tk 8 CS ?_;refine tk 9 CS ?_ (y:=ty uD);refine tk 10 CS ?_;refine tk 11 CS ?_ (y:=ty (by intro w' ab;have q:=ab.cell (b:=g1) (o:=0) kq1 k1';clear ab;go_simp;try with_reducible rfl));exact kd2
theorem JO(w)(Kp)(ad)(Q)(s p bm)(v0 v1 v2)(x)(y0)(hS:B8 w v0 v1 v2 x)(hy0:x.1[0]? =some y0)(ks:p8 w s 44 [ptB p])(kp:p8 w p 46 [ptB bm])(bH:Kp s/\Kp p/\Kp w.heap.size/\(∀k,v0.ownBlock=some k->Kp k)/\∀k,v1.ownBlock=some k->Kp k)
  (hm:∀W,qL w W->qC 49 #[qP bm,qI y0] W (oq Kp ad Q W)) (hQ:∀cd W W',Q cd W->qL W W'->Q cd W'):
  qC 48 #[.agg #[v0,v1,v2],ptB s] w fun e w'=>∃cd,e= .returned (eV ad cd)/\Aside (Q cd w'):=by
 obtain ⟨g0,c0,rfl,l0,h0⟩:=hS.abW (by have:=(uI.1 hy0).1;omega);have k0:=h0 0 y0 hy0;have b0:=(uI.1 hy0).1;generalize x.1.length=n0 at*;have kq0:=bH.2.2.2.1 g0 rfl;obtain ⟨a1,n1,q1,rfl⟩:∃a0 n0 q0,v1= .slice a0 n0 q0:=zK;obtain ⟨a2,n2,q2,rfl⟩:∃a0 n0 q0,v2= .slice a0 n0 q0:=zv;have hb0:qL w (w.alloc (.cells #[qG g0 n0 c0,.slice a1 n1 q1,.slice a2 n2 q2] 84)):=zh w _;have kb:=mq w [qG g0 n0 c0,.slice a1 n1 q1,.slice a2 n2 q2] 84;have du:=(ks.later hb0 ks.lt).cell 0;have b6:=(kp.later hb0 kp.lt).cell 0;have s0:=kb.cell 0;have s1:=kb.cell 1;have dV:=mg hb0 k0;simp only [uZ,Zb] at du b6 s0 s1;have hc:=hm _ hb0.drew;have kz:=bH.2.2.1;unfold ptB at*;go_enter func48,ntmps48;go_upto_region 1 with fail;generalize w.alloc (.cells #[qG g0 n0 c0,.slice a1 n1 q1,.slice a2 n2 q2] 84)=V at*;generalize w.heap.size=Sd at*;have CS:=(D6.refl Kp V).drew;refine lV (S:=D6 Kp V) zk CS (fun aa=> ?_);refine tk 0 CS ?_ (y:=ty yr);refine tk 1 CS ?_;refine tk 2 CS ?_;refine tk 3 CS ?_ (y:=ty ym);refine tk 4 CS ?_;refine tk 5 CS ?_ (y:=ty zR);refine tk 6 CS ?_;refine tk 7 CS ?_ (y:=ty yq);refine an (i:=8) zk rfl (fun K hK=> ?_);go_simp;refine hc.mono ?_;rintro e w1 ⟨cd,rfl,H1⟩;have C1:=CS.trans H1.o.1;refine hK _ _ C1 ?_;obtain ⟨ev,aR⟩:=ze (eV ad cd);rw [<-aR.o];refine qn ?_;refine tk 9 C1 ?_;refine wpAnyH_done zk ?_ _;refine qn ?_;go_wp2;go_ret;exact ⟨cd,by rw [<-aR.o];rfl,H1.o.2⟩
def orN(l:qU):qU:=if l= [] then [110,111,116,104,105,110,103] else l
theorem Vc(l):orN l≠ []:=by unfold orN;split<;>simp_all
theorem wl(w)(l):
  qC 100 #[.string ⟨l.toArray⟩] w fun e w'=>e= .returned (.string ⟨(orN l).toArray⟩)/\w'=w:=by
 by_cases h:l= []
 ·subst h;go_enter func100,ntmps100;exact ka7
 have e:Aside (orN l=l):=if_neg h;rw [e.o];have d3:l.isEmpty=false:=xl;go_enter func100,ntmps100;exact ka7
def Qo(s:qU):qU:=orN (Lib.replaceAll s [10] [59,32])
theorem Rg(s X7)(h:1<=X7.size):Lib.countB s X7<=s.size:=by
 have:=Lib.countB_mul_le X7 h s.size s zg;exact uO (Nat.le_mul_of_pos_right _ h) this
theorem Ll(w)(br)(m)(Q:qU->Prop)(hm:w.cell? (qB 14)=some (qI m))
  (hs:qC 102 #[qP br] w fun e w'=>∃s,e= .returned (.string ⟨s.toArray⟩)/\(Q s/\s.length<=10000000)/\qL w w'):
  qC 58 #[qP br] w fun e w'=>∃s,e= .returned (.string ⟨(Qo s).toArray⟩)/\Aside (Q s/\qL w w'):=by
 go_enter func58,ntmps58;go_wp2_with fail;refine hs.mono ?_;rintro e w1 ⟨s,rfl,hQ,hb⟩;have hm1:=mg hb hm
 have hz:(⟨s.toArray⟩:qY).size=s.length:=by rw [Lib.size_eq]
 have hc:=Rg ⟨s.toArray⟩ ⟨#[10]⟩ zo;have hr:=Tryz.strings_ReplaceAll ⟨s.toArray⟩ ⟨#[10]⟩ ⟨#[59,32]⟩ m w1 (by have:=hQ.2;omega) hm1 zo (by have:=hQ.2;have e:(⟨#[59,32]⟩:qY).size=2:=rfl;rw [e];omega)
 have HQ:Aside (Q s/\qL w w1):=⟨hQ.1,hb⟩
 go_wp2_with fail;refine hr.mono ?_;rintro e w2 ⟨rfl,hb2⟩;have HB:Aside (qL w w2):=zi HQ.o.2 hb2;have ho:=wl w2 (Lib.replaceAll s [10] [59,32]);go_wp2_with fail;refine ho.mono ?_;rintro e w3 ⟨rfl,rfl⟩;go_wp2;go_ret;exact ⟨s,rfl,HQ.o.1,HB.o⟩
theorem TE(w)(br)(path)(Q:Int->Bool->Prop)
  (hs:qC 105 #[qP br,.string path] w fun e w'=>∃b is,e=qT #[qI b,.bool is]/\Q b is/\qL w w')
  (hI:∀b W,Q b true->qL w W->qC 54 #[qI b] W (qR (.string ⟨(Lib.itoa b).toArray⟩) W)):
  qC 62 #[qP br,.string path] w fun e w'=>∃b is,e= .returned (.string ⟨(if is=true then Lib.itoa b else [110,111,116,104,105,110,103]).toArray⟩)/\Aside (Q b is/\qL w w'):=by
 have HI:=Aside.mk' hI;go_enter func62,ntmps62;go_wp2_with fail;refine hs.mono ?_;rintro e w1 ⟨b,is,rfl,hQ,hb⟩
 have HQ:Aside (Q b is/\qL w w1):=⟨hQ,hb⟩
 cases is
 ·go_wp2;go_ret;exact ⟨b,false,rfl,HQ.o⟩
 have hi:=HI.o b w1 HQ.o.1 HQ.o.2;go_wp2_with fail;refine hi.mono ?_;rintro e w2 ⟨rfl,hb2⟩;have HB:Aside (qL w w2):=zi HQ.o.2 hb2;go_wp2;go_ret;exact ⟨b,true,rfl,HQ.o.1,HB.o⟩
theorem OD(w)(br)(l8)(Q:qU->Bool->Prop)
  (hs:qC 106 #[qP br,qI l8] w fun e w'=>∃s is,e=qT #[.string ⟨s.toArray⟩,.bool is]/\Q s is/\qL w w'):
  qC 64 #[qP br,qI l8] w fun e w'=>∃s is,e= .returned (.string ⟨(if is=true then s else [110,111,116,104,105,110,103]).toArray⟩)/\Aside (Q s is/\qL w w'):=by
 go_enter func64,ntmps64;go_wp2_with fail;refine hs.mono ?_;rintro e w1 ⟨s,is,rfl,hQ,hb⟩
 have HQ:Aside (Q s is/\qL w w1):=⟨hQ,hb⟩
 cases is
 ·go_wp2;go_ret;exact ⟨s,false,rfl,HQ.o⟩
 go_wp2;go_ret;exact ⟨s,true,rfl,HQ.o⟩
theorem ON(w)(Q)(br)(v0 v1 v2)(x)(hS:B8 w v0 v1 v2 x)(hg:∀W,qL w W->qC 58 #[qP br] W (me Q)):
  qC 57 #[qP br,.agg #[v0,v1,v2]] w (me Q):=by
 obtain ⟨a0,n0,q0,rfl⟩:∃a0 n0 q0,v0= .slice a0 n0 q0:=zA;obtain ⟨a1,n1,q1,rfl⟩:∃a0 n0 q0,v1= .slice a0 n0 q0:=zK;obtain ⟨a2,n2,q2,rfl⟩:∃a0 n0 q0,v2= .slice a0 n0 q0:=zv;have hb0:qL w (w.alloc (.cells #[.slice a0 n0 q0,.slice a1 n1 q1,.slice a2 n2 q2] 84)):=zh w _;have hc:=hg _ hb0;go_enter func57,ntmps57;exact ke1
theorem RP(w)(Q)(br)(v0 v1 v2)(x)(hS:B8 w v0 v1 v2 x)(y)(hy:x.2.1[0]? =some y)(hg:∀W,qL w W->qC 60 #[qP br,qI y] W (me Q)):
  qC 59 #[qP br,.agg #[v0,v1,v2]] w (me Q):=by
 obtain ⟨g1,c1,rfl,l1,h1⟩:=hS.J (by have:=(uI.1 hy).1;omega);have k0:=h1 0 y hy
 have b1:(0:Int)<(x.2.1.length:Int):=by have:=(uI.1 hy).1;omega
 have b2:0<x.2.1.length:=zj;generalize x.2.1.length=n1 at*;obtain ⟨a0,n0,q0,rfl⟩:∃a0 n0 q0,v0= .slice a0 n0 q0:=zA;obtain ⟨a2,n2,q2,rfl⟩:∃a0 n0 q0,v2= .slice a0 n0 q0:=zv;have hb0:qL w (w.alloc (.cells #[.slice a0 n0 q0,qG g1 n1 c1,.slice a2 n2 q2] 84)):=zh w _;have dV:=mg hb0 k0;have hc:=hg _ hb0;go_enter func59,ntmps59;exact ke1
theorem Qb(w)(Q)(br)(v0 v1 v2)(x)(hS:B8 w v0 v1 v2 x)(y)(hy:x.2.2[0]? =some y)(hg:∀W,qL w W->qC 62 #[qP br,.string y] W (me Q)):
  qC 61 #[qP br,.agg #[v0,v1,v2]] w (me Q):=by
 obtain ⟨g2,c2,rfl,l2,h2⟩:=hS.aaf (by have:=(uI.1 hy).1;omega);have k0:=h2 0 y hy
 have b1:(0:Int)<(x.2.2.length:Int):=by have:=(uI.1 hy).1;omega
 have b2:0<x.2.2.length:=zj;generalize x.2.2.length=n2 at*;obtain ⟨a0,n0,q0,rfl⟩:∃a0 n0 q0,v0= .slice a0 n0 q0:=zA;obtain ⟨a1,n1,q1,rfl⟩:∃a0 n0 q0,v1= .slice a0 n0 q0:=zK;have hb0:qL w (w.alloc (.cells #[.slice a0 n0 q0,.slice a1 n1 q1,qG g2 n2 c2] 84)):=zh w _;have dV:=mg hb0 k0;have hc:=hg _ hb0;go_enter func61,ntmps61;exact ke1
theorem Qt(w)(Q)(br)(v0 v1 v2)(x)(hS:B8 w v0 v1 v2 x)(y)(hy:x.2.1[0]? =some y)(hg:∀W,qL w W->qC 64 #[qP br,qI y] W (me Q)):
  qC 63 #[qP br,.agg #[v0,v1,v2]] w (me Q):=by
 obtain ⟨g1,c1,rfl,l1,h1⟩:=hS.J (by have:=(uI.1 hy).1;omega);have k0:=h1 0 y hy
 have b1:(0:Int)<(x.2.1.length:Int):=by have:=(uI.1 hy).1;omega
 have b2:0<x.2.1.length:=zj;generalize x.2.1.length=n1 at*;obtain ⟨a0,n0,q0,rfl⟩:∃a0 n0 q0,v0= .slice a0 n0 q0:=zA;obtain ⟨a2,n2,q2,rfl⟩:∃a0 n0 q0,v2= .slice a0 n0 q0:=zv;have hb0:qL w (w.alloc (.cells #[.slice a0 n0 q0,qG g1 n1 c1,.slice a2 n2 q2] 84)):=zh w _;have dV:=mg hb0 k0;have hc:=hg _ hb0;go_enter func63,ntmps63;exact ke1
theorem NL(w)(Q)(br)(v0 v1 v2)(x)(t0 t1 t2 t3)(hS:B8 w v0 v1 v2 x)(hv:∀W,qL w W->qC 66 #[qP br] W (qR (.agg #[qI t0,qI t1,qI t2,qI t3]) W))
  (ht:∀W,qL w W->qC 67 #[.agg #[qI t0,qI t1,qI t2,qI t3]] W (me Q)):
  qC 65 #[qP br,.agg #[v0,v1,v2]] w (me Q):=by
 obtain ⟨a0,n0,q0,rfl⟩:∃a0 n0 q0,v0= .slice a0 n0 q0:=zA;obtain ⟨a1,n1,q1,rfl⟩:∃a0 n0 q0,v1= .slice a0 n0 q0:=zK;obtain ⟨a2,n2,q2,rfl⟩:∃a0 n0 q0,v2= .slice a0 n0 q0:=zv;have hb0:qL w (w.alloc (.cells #[.slice a0 n0 q0,.slice a1 n1 q1,.slice a2 n2 q2] 84)):=zh w _;have hc:=hv _ hb0;have HT:Aside _:=ht;have HB:Aside _:=hb0;go_enter func65,ntmps65;go_wp2_with fail;refine hc.mono ?_;rintro e w1 ⟨rfl,hb1⟩;have hd:=HT.o w1 (zi HB.o hb1);go_wp2_with fail;refine hd.mono ?_;rintro e w2 ⟨s,rfl,HQ⟩;go_wp2;go_ret;exact ⟨s,rfl,HQ.o⟩
theorem It(w)(z):qC 51 #[.bool z] w fun e w'=>e= .returned (.string (if z then ⟨#[121,101,115]⟩ else ⟨#[110,111]⟩))/\w'=w:=by
 cases z
 ·go_enter func51,ntmps51;exact ka7
 go_enter func51,ntmps51;exact ka7
theorem WM(w)(Q:World->Prop)(s p bm)(v0 v1 v2)(x)(hS:B8 w v0 v1 v2 x)(ks:p8 w s 44 [ptB p])(kp:p8 w p 46 [ptB bm])(hc:∀W,qL w W->qC 52 #[qP bm] W fun e w'=>e= .returned (.bool true)/\Aside (Q w')):
  qC 50 #[.agg #[v0,v1,v2],ptB s] w fun e w'=>e= .returned (.tuple #[.string ⟨#[121,101,115]⟩,.nilIface])/\Aside (Q w'):=by
 obtain ⟨a0,n0,q0,rfl⟩:∃a0 n0 q0,v0= .slice a0 n0 q0:=zA;obtain ⟨a1,n1,q1,rfl⟩:∃a0 n0 q0,v1= .slice a0 n0 q0:=zK;obtain ⟨a2,n2,q2,rfl⟩:∃a0 n0 q0,v2= .slice a0 n0 q0:=zv;have hb0:qL w (w.alloc (.cells #[.slice a0 n0 q0,.slice a1 n1 q1,.slice a2 n2 q2] 84)):=zh w _;have du:=(ks.later hb0 ks.lt).cell 0;have b6:=(kp.later hb0 kp.lt).cell 0;simp only [uZ] at du b6;have hc1:=hc _ hb0;unfold ptB at*;go_enter func50,ntmps50;go_wp2_with fail;refine hc1.mono ?_;rintro e w1 ⟨rfl,HQ⟩;have hy:=It w1 true;go_wp2_with fail;refine hy.mono ?_;rintro e w2 ⟨rfl,rfl⟩;go_wp2;go_ret2;exact ⟨rfl,HQ.o⟩
theorem zca(w)(s p bm)(v0 v1 v2)(x)(hS:B8 w v0 v1 v2 x)(ks:p8 w s 44 [ptB p])(kp:p8 w p 46 [ptB bm])(N)(hc:∀W,qL w W->qC 55 #[qP bm] W fun e w'=>∃ao cap,e= .returned (.slice ao N cap)/\Aside (qL W w'))(hI:∀W,qL w W->qC 54 #[qN N] W (qR (.string ⟨(Lib.itoa (N:Int)).toArray⟩) W)):
  qC 53 #[.agg #[v0,v1,v2],ptB s] w fun e w'=>e=qT #[.string ⟨(Lib.itoa (N:Int)).toArray⟩,.nilIface]/\Aside (qL w w'):=by
 obtain ⟨a0,n0,q0,rfl⟩:∃a0 n0 q0,v0= .slice a0 n0 q0:=zA;obtain ⟨a1,n1,q1,rfl⟩:∃a0 n0 q0,v1= .slice a0 n0 q0:=zK;obtain ⟨a2,n2,q2,rfl⟩:∃a0 n0 q0,v2= .slice a0 n0 q0:=zv;have hb0:qL w (w.alloc (.cells #[.slice a0 n0 q0,.slice a1 n1 q1,.slice a2 n2 q2] 84)):=zh w _;have du:=(ks.later hb0 ks.lt).cell 0;have b6:=(kp.later hb0 kp.lt).cell 0;simp only [uZ] at du b6;have hc1:=hc _ hb0;have HB:Aside _:=hb0;have HI:Aside _:=hI;unfold ptB at*;go_enter func53,ntmps53;go_wp2_with fail;refine hc1.mono ?_;rintro e w1 ⟨ao,cap,rfl,HB1⟩;have cX:Aside (qL w w1):=zi HB.o HB1.o;have hi:=HI.o w1 cX.o;go_wp2_with fail;refine hi.mono ?_;rintro e w2 ⟨rfl,hb2⟩;have fe:Aside (qL w w2):=zi cX.o hb2;go_wp2;go_ret2;exact ⟨rfl,fe.o⟩
theorem Ff(w)(s fn)(bs)(form)(v0 v1 v2)(x)(n0)(a)(R:Ending->World->Prop)(hS:B8 w v0 v1 v2 x)(hn:x.2.1[0]? =some n0)(ks:p8 w s 63 [.string form,clV fn bs])
  (hT:w.cell? (qB 5)=some (.iface 437 (.pointer (some a))))
  (eg:∀args w,(callFunc fn args).run prog w= .ok (.enter fn args) w)
  (hg:∀W,qL w W->Calls prog fn (#[.agg #[v0,v1,v2]]++(bs.map ptB).toArray) W fun e w'=>∃told ev,e=qT #[.string told,ev]/\Aside (R e w')):
  qC 83 #[.agg #[v0,v1,v2],ptB s] w fun e w'=>(n0=0/\Jw a w e w')\/(n0≠0/\∃told ev,e=qT #[.string told,ev]/\Aside (R e w')):=by
 obtain ⟨g1,c1,rfl,l1,h1⟩:=hS.J (by have:=(uI.1 hn).1;omega);have k1:=h1 0 n0 hn
 have b1:(0:Int)<(x.2.1.length:Int):=by have:=(uI.1 hn).1;omega
 have b2:0<x.2.1.length:=zj;generalize x.2.1.length=n1 at*;obtain ⟨a0,m0,q0,rfl⟩:∃a0 n0 q0,v0= .slice a0 n0 q0:=zA;obtain ⟨a2,m2,q2,rfl⟩:∃a0 n0 q0,v2= .slice a0 n0 q0:=zv;have hb0:qL w (w.alloc (.cells #[.slice a0 m0 q0,qG g1 n1 c1,.slice a2 m2 q2] 84)):=zh w _;have k1':=mg hb0 k1;have f1:=(ks.later hb0 ks.lt).cell 1;have hT1:=mg hb0 hT;simp only [uZ,Zb] at f1;have hc:=hg _ hb0;have HB:Aside _:=hb0;unfold clV at f1;generalize (bs.map ptB).toArray=cs at f1 hc;unfold ptB;by_cases h0:n0=0
 ·subst h0;go_enter func83,ntmps83;go_upto_region 2 with fail;go_region
  all_goals (go_wp2;go_ret2;exact .inl ⟨trivial,rfl,HB.o.drew⟩)
 have d1:(n0==0)=false:=by simpa using h0
 go_enter func83,ntmps83;go_wp2_with fail;refine hc.mono ?_;rintro e w1 ⟨told,ev,rfl,HR⟩;go_wp2;go_ret2;exact .inr ⟨h0,told,ev,rfl,HR.o⟩

end