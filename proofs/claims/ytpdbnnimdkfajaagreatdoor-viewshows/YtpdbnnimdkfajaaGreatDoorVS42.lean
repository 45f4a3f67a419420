import Derived.Test.YtpdbnnimdkfajaaGreatDoorVS34
import Derived.Test.YtpdbnnimdkfajaaGreatDoorVS35
import Derived.Test.YtpdbnnimdkfajaaGreatDoorVS40
set_option linter.unusedSimpArgs false
set_option linter.unusedVariables false
set_option maxRecDepth 100000
set_option maxHeartbeats 64000000
namespace Go.Proofs.YtpdbnnimdkfajaaGreatDoor
open Go.Proofs.Tryz
variable {s v:ByteArray} {T nd o:Int} {B i kd:Nat} {ad:Nat→Addr} {R:Rws} {w:World}
section
open Go.RowKit Go.Lib Go.Sort Go.Maps
open scoped Classical
attribute [local go_sem] Oper.semAt_some
def FindOut (w:World) (qs:List Plc) (nms:List (List UInt8)) (e:Ending) (w':World):Prop:=
 ((∃b,e= .returned (.tuple #[.int .i64 b,.bool true])/\WalkTo qs 0 nms b)\/(e= .returned (.tuple #[.int .i64 0,.bool false])/\∃pre nm rest b,pre++nm::rest=nms/\WalkTo qs 0 pre b/\NoLead qs b nm))/\Below w.heap.size w w'
structure FindAt (w4:World) (S B:Nat) (node:Int) (W:World):Prop where
 node:Boxed W (S+1+1) 3 (.int .i64 node)
 r0:Boxed W S 3 (.int .i64 0)
 r1:Boxed W (S+1) 4 (.bool false)
 size:w4.heap.size<=W.heap.size
 keep:Keeps (fun k=>k=S+1+1\/k=B+1) w4 W
theorem FindAt.grow {w4:World} {S:Nat} (hSB:S+1+1<B) {node:Int} {X Y:World} {row:Option Nat} (h:FindAt w4 S B node X) (hg:X.grownBy Y row) (hr:∀r,row=some r->r=B+1\/(w4.heap.size<=r/\∃o:Obj,X.heap[r]? =some o/\o.isCells=false)):FindAt w4 S B node Y:=by
 have bx:∀ {k:Nat} {t:TypeId} {v:Value},Boxed X k t v->k≠B+1->Boxed Y k t v:=fun {k t v} hb hk=>hb.kept hg (fun e=>by
  rcases hr k e.symm with q | ⟨_,o,ho,hc⟩
  ·exact hk q
  ·unfold Boxed at hb
   rw [hb] at ho
   cases ho
   cases hc)
 refine ⟨bx h.node zi,bx h.r0 zi,bx h.r1 zi,jw h.size hg.size,⟨hg.os.trans h.keep.os,hg.tape.trans h.keep.tape,hg.output.trans h.keep.output,jw h.keep.size hg.size,fun k hk hs=> ?_⟩⟩
 rw [<-h.keep.block k hk hs]
 refine hg.block k (by have:=h.size;omega) (fun e=> ?_)
 rcases hr k e.symm with q | ⟨q,_⟩
 ·exact hs (.inr q)
 omega
theorem FindAt.own (w4:World) (S B:Nat) (hSB:S+1+1<B) (qs:List Plc):OwnM w4.heap.size (fun r=>r=B+1) (fun pre W=>∃node,FindAt w4 S B node W/\WalkTo qs 0 pre node):=fun pre X Y row ⟨node,h,hw⟩ hg hr=>⟨node,h.grow hSB hg hr,hw⟩
def LostAt (w4:World) (S B:Nat) (qs:List Plc) (c:Code) (pre:List (List UInt8)) (W:World):Prop:=c= .ret/\(∃p0 x b node,pre=p0++ [x]/\WalkTo qs 0 p0 b/\NoLead qs b x/\FindAt w4 S B node W)
theorem LostAt.own (w4:World) (S B:Nat) (hSB:S+1+1<B) (qs:List Plc) (c:Code):OwnM w4.heap.size (fun r=>r=B+1) (LostAt w4 S B qs c):=fun pre X Y row ⟨hc,p0,x,b,node,h1,h2,h3,h4⟩ hg hr=>⟨hc,p0,x,b,node,h1,h2,h3,h4.grow hSB hg hr⟩
theorem PlsAt.boxes {W:World} {v:Value} {qs:List Plc} {T:Nat->Prop} (h:PlsAt w v qs) (hk:Keeps T w W) (hT:∀k,T k->∃t u,Boxed w k t u):PlsAt W v qs:=by
 rcases h with ⟨h1,h2⟩ | ⟨g,cap,h1,hg,hc⟩
 ·exact .inl ⟨h1,h2⟩
 refine .inr ⟨g,cap,h1,jE hg hk.size,fun j u hj=> ?_⟩
 have hne:¬T g:=fun q=>by
  obtain ⟨t,u',hb⟩:=hT g q
  cases qs with
  | nil=>simp [flat] at hj
  | cons a r=>
   have k:=hc 2 (.string a.2.2) rfl
   unfold Boxed at hb
   simp [World.cell?,hb] at k
 exact (jr (a:=⟨g,j,none⟩) (hk.block g hg hne)).trans (hc j u hj)
theorem find_in (w:World) (br bt bm n:Nat) (v:Value) (f:Sta) (h:ViewAt w br bt bm n v f) (qs:List Plc) (hq:IsPlaces f qs) (hql:qs.length<=300) (path:ByteArray) (nm:ByteArray) (hp:path.data.toList=47::nm.data.toList) (hne:nm.data.toList≠ []) (hsz:path.size<=1000000)
  (htab:Lib.TabIs prog w "internal/strconv.uint64pow10" .u64 Lib.pow10Tab) (m:Int) (hmax:w.cell? ⟨13,0,none⟩=some (.int .i64 m)):
  Calls prog 33 #[.pointer (some ⟨br,0,none⟩),.string path] w (FindOut w qs (cutP 47 nm.data.toList)):=by
 have HT:Aside (Lib.TabBelow prog w.heap.size w "internal/strconv.uint64pow10" .u64 Lib.pow10Tab):=Lib.tabBelow_of_tabIs htab
 have hc:=fun u=>Tryz.strings_CutPrefix path ⟨#[47]⟩ u
 have e47:(⟨#[47]⟩:ByteArray).data.toList= [47]:=rfl
 have ht:Lib.trimPrefix (47::nm.data.toList) [47]=nm.data.toList:=by simp [Lib.trimPrefix,Lib.hasPrefix]
 have hh:Lib.hasPrefix (47::nm.data.toList) [47]=true:=by simp [Lib.hasPrefix]
 rw [e47,hp,ht,hh,bytes_back'] at hc
 have hnb:nm.toList.isEmpty=false:=empty_no hne
 have hnz:nm.size<=1000000:=by have h1:=listLen path;have h2:=listLen nm;rw [hp,jK] at h1;omega
 have H:Aside (ViewAt w br bt bm n v f/\IsPlaces f qs/\(∀p∈qs,FineQ p)/\w.cell? ⟨13,0,none⟩=some (.int .i64 m)):=⟨h,hq,fineQ_of h.shown hq,hmax⟩
 have H1:Aside (∀W,Below w.heap.size w W->Calls prog 89 #[.pointer (some ⟨br,0,none⟩)] W fun e w'=>e= .returned (.pointer (some ⟨bt,0,none⟩))/\w'=W):=fun W hW=>treeOf_any W br bt bm n v f (h.later hW)
 have H3:Aside (∀W,Below w.heap.size w W->Calls prog 42 #[.pointer (some ⟨bt,0,none⟩)] W fun e w'=>∃u,e= .returned u/\Aside (PlsAt w' u qs/\Below W.heap.size W w')):=fun W hW=>placesV W br bt bm n v f (h.later hW) qs hq
 clear h hq hp hne hsz htab hmax e47 ht hh
 obtain ⟨S,hS⟩:=za w.heap.size
 refine (callsIn_wide (n:=4)).1 ?_
 refine callsIn_of_wp_marks func33 rfl trivial ?_ rfl
 simp only [ntmps33,jN,jK,vy,Nat.reduceAdd,Nat.reduceSub,vd,ve,vr,vj,vn,vp]
 gi_wp2_with (refine ⟨trivial,?_⟩;gi_at_call 90;refine ((callsIn_wide (n:=4 - 1)).2 (hc _)).mono ?_;rintro e w1 ⟨rfl,rfl⟩)
 obtain ⟨U,hU⟩:=za (((w.alloc (.cells #[.int .i64 0] 3)).alloc (.cells #[.bool false] 4)).alloc (.cells #[.int .i64 0] 3))
 rw [<-hU,<-hS]
 have hbU:Below w.heap.size w U:=by rw [hU];exact ((zg w _).alloc zm _).alloc zk _
 have hsU:U.heap.size=S+3:=by rw [hU,hS];simp
 have u0:Boxed U S 3 (.int .i64 0):=by
  have:=(blk2 w (.cells #[.int .i64 0] 3) (.cells #[.bool false] 4)).1
  rw [hU,hS];exact (jp _ _ _ zk).trans this
 have u1:Boxed U (S+1) 4 (.bool false):=by
  have:=(blk2 w (.cells #[.int .i64 0] 3) (.cells #[.bool false] 4)).2
  rw [hU,hS];exact (jp _ _ _ zm).trans this
 have u2:Boxed U (S+1+1) 3 (.int .i64 0):=by
  have:=heap_alloc_new ((w.alloc (.cells #[.int .i64 0] 3)).alloc (.cells #[.bool false] 4)) (.cells #[.int .i64 0] 3)
  simp only [jI] at this
  rw [hU,hS];exact this
 have h1:=H1.o U hbU
 have h3:=H3.o U hbU
 have HS:Aside (S=w.heap.size/\U.heap.size=S+3/\Below w.heap.size w U/\Boxed U S 3 (.int .i64 0)/\Boxed U (S+1) 4 (.bool false)/\Boxed U (S+1+1) 3 (.int .i64 0)):=⟨hS,hsU,hbU,u0,u1,u2⟩
 clear hU hc hS hsU hbU u0 u1 u2
 refine ⟨trivial,?_⟩
 refine ((callsIn_wide (n:=3)).2 h1).mono ?_
 clear h1
 rintro e w2 ⟨rfl,hw2⟩
 obtain rfl:=hw2.symm
 clear hw2
 gi_wp2_with (first
  | (refine ⟨trivial,?_⟩;gi_at_call 42;refine ((callsIn_wide (n:=4 - 1)).2 h3).mono ?_;rintro e w3 ⟨u,rfl,H4⟩;obtain ⟨ao,cap,rfl,hP⟩:=H4.o.1.isIn)
  | (refine ⟨trivial,?_⟩;gi_at_call 91;refine ((callsIn_wide (n:=4 - 1)).2 (splitSeq_any _ nm)).mono ?_;rintro e w4 ⟨rfl,rfl⟩))
 obtain ⟨B,hB⟩:=za w3.heap.size
 obtain ⟨w4,hw4⟩:=za (((((w3.alloc (.cells #[.slice ao qs.length cap] 103)).alloc (.cells #[.string nm] 9)).alloc (.cells #[.string ⟨#[47]⟩] 9)).alloc (.cells #[.int .i64 0] 3)))
 have e4:=blk4 w3 (.cells #[.slice ao qs.length cap] 103) (.cells #[.string nm] 9) (.cells #[.string ⟨#[47]⟩] 9) (.cells #[.int .i64 0] 3)
 have hs4:w4.heap.size=B+4:=by rw [hw4,hB];simp
 have hb34:Below w3.heap.size w3 w4:=yF
 rw [<-hw4,<-hB] at e4
 rw [<-hw4,<-hB]
 obtain ⟨k1,k2,k3,k4⟩:=e4
 have hSB:S+1+1<B:=by have:=H4.o.2.size;have:=HS.o.2.1;omega
 have hU4:Below U.heap.size U w4:=zh H4.o.2 hb34
 have hbw:Below w.heap.size w w4:=zh HS.o.2.2.1 hU4
 have hP4:PlsAt w4 (.slice ao qs.length cap) qs:=H4.o.1.later hb34
 have F4:FindAt w4 S B 0 w4:=⟨(hU4.block _ HS.o.2.2.2.2.2.lt).trans HS.o.2.2.2.2.2,(hU4.block _ HS.o.2.2.2.1.lt).trans HS.o.2.2.2.1,(hU4.block _ HS.o.2.2.2.2.1.lt).trans HS.o.2.2.2.2.1,jj _,Keeps.refl _ _⟩
 have hmax4:w4.cell? ⟨13,0,none⟩=some (.int .i64 m):=cellKept hbw H.o.2.2.2
 have hGB:B+1≠13:=by have:=jl w ⟨13,0,none⟩ H.o.2.2.2;have:=HS.o.1;dsimp only at*;omega
 have X4:SplAt (B+1) m nm w4:=⟨k2,k3,k4,hmax4⟩
 have H5:Aside (PlsAt w4 (.slice ao qs.length cap) qs/\Boxed w4 B 103 (.slice ao qs.length cap)/\Below w.heap.size w w4/\w.heap.size<=S/\Boxed w4 (B+1) 9 (.string nm)):=⟨hP4,k1,hbw,by have:=HS.o.1;omega,k2⟩
 clear hw4 hB k1 k2 k3 k4 hP h3 hb34 hU4 hmax4 hP4
 refine range_M (M:=fun r=>r=B+1) zi (gf:=212) (lb:= #[.pointer (some ⟨B+1+1,0,none⟩),.pointer (some ⟨B+1,0,none⟩),.pointer (some ⟨B+1+1+1,0,none⟩)]) rfl (enters_of func212 zj rfl) (fun r e=>by rw [e,hs4];omega)
  (split_seq (4 - 1) zi (B+1) m hGB nm hnz w4 X4) KeepS.trans (fun W l r o hl ho=>fun k hk=> ?kb) rfl
  (fun pre W=>∃node,FindAt w4 S B node W/\WalkTo qs 0 pre node) (LostAt w4 S B qs) (FindAt.own w4 S B hSB qs) (LostAt.own w4 S B hSB qs) ⟨0,F4,rfl⟩
  (fun x a' W=>∃Bx,w4.heap.size<=Bx/\Boxed W Bx 9 (.string ⟨x.toArray⟩)/\a'= {tmps:= #[.pointer (some ⟨br,0,none⟩),.string path,undef,undef,.pointer (some ⟨S,0,none⟩),.pointer (some ⟨S+1,0,none⟩),.string nm,.bool true,.pointer (some ⟨S+1+1,0,none⟩),.pointer (some ⟨B,0,none⟩),.pointer (some ⟨Bx,0,none⟩),undef,undef,.tuple #[.string nm,.bool true],.string path,.tuple #[.string nm,.bool true],.string nm,.bool true,.pointer (some ⟨br,0,none⟩),.bool false,.bool false,.bool true,.bool false,.bool false,.string nm,.bool false,undef,.pointer (some ⟨br,0,none⟩),.pointer (some ⟨bt,0,none⟩),.slice ao qs.length cap,.string nm,.func (.func 212) #[] #[.pointer (some ⟨B+1+1,0,none⟩),.pointer (some ⟨B+1,0,none⟩),.pointer (some ⟨B+1+1+1,0,none⟩)],.string ⟨x.toArray⟩,undef,undef,undef,undef,undef,undef,undef,undef,undef,undef,undef,undef,undef,undef],defers:=[]})
  ?ax ?assign ?body ?done ?stop
 case kb=>
  refine vL (fun e=> ?_)
  have:=jl w4 ⟨13,0,none⟩ X4.max
  dsimp only at this
  rcases hk with q | q | q | q<;>omega
 case ax=>
  intro x a' _ X Y row hs hg hr
  obtain ⟨Bx,f1,f2,f3⟩:=hs
  refine ⟨Bx,f1,f2.kept hg (fun e=> ?_),f3⟩
  rcases hr Bx e.symm with q | ⟨_,o,ho,hc⟩
  ·omega
  unfold Boxed at f2
  rw [f2] at ho
  cases ho
  cases hc
 case assign=>
  rintro l pre x W K ⟨node,hF,hW⟩ hK
  have hK':Aside _:=hK
  have hsz:=hF.size
  clear hK
  gi_wp2
  refine hK'.o _ _ ((KeepsOthers.alloc _ _).from _) (fun k hk=> ?_) ⟨node,hF.grow hSB (World.grownBy_alloc W _ none) (fun r e=>yJ),hW⟩ ⟨W.heap.size,zi,heap_alloc_new W _,rfl⟩
  refine jp _ _ _ ?_
  have:=jl w4 ⟨13,0,none⟩ X4.max
  dsimp only at this
  rcases hk with q | q | q | q<;>omega
 case body=>
  rintro l pre x a' W hl ⟨node,hF,hW⟩ ⟨Bx,hBx,hE,rfl⟩ hlt
  have hBW:Below w.heap.size w W:=H5.o.2.2.1.trans (hF.keep.below H5.o.2.2.1.size (fun k e=>yE))
  have hPW:PlsAt W (.slice ao qs.length cap) qs:=H5.o.1.boxes hF.keep (fun k e=>e.elim (fun q=>by rw [q];exact ⟨_,_,F4.node⟩) (fun q=>by rw [q];exact ⟨_,_,H5.o.2.2.2.2⟩))
  have hent:=entries_any W (.slice ao qs.length cap) qs node hPW hql H.o.2.2.1 (HT.o W hBW)
  have g9:W.cell? ⟨B,0,none⟩=some (.slice ao qs.length cap):=(jr (a:=⟨B,0,none⟩) (hF.keep.block B zi (by rintro (q | q)<;>omega))).trans H5.o.2.1.cell
  have g8:=hF.node.cell
  have HW:Aside (FindAt w4 S B node W/\WalkTo qs 0 pre node/\Boxed W Bx 9 (.string ⟨x.toArray⟩)/\B+4<=Bx/\w4.heap.size=B+4):=⟨hF,hW,hE,zi,hs4⟩
  clear hBW hPW hF hW hE
  gi_wp2_with (refine ⟨trivial,?_⟩;gi_at_call 88;refine (CallsIn.inRound l ((callsIn_wide (n:=4 - 1 - 1 - 1)).2 hent)).mono ?_;rintro e w5 ⟨v',es,rfl,HE⟩;obtain ⟨ao',cap',rfl,hEin⟩:=HE.o.1.isIn)
  have hidx:=idxEn_any (fun e=>decide (e.1=⟨x.toArray⟩)) 93 #[.pointer (some ⟨Bx,0,none⟩)] (enters_of func93 zj rfl) ao' cap' w5.heap.size es w5 ze (fun W' y _ hW'=>named_any W' Bx y ⟨x.toArray⟩ (cellKept hW' (cellKept HE.o.2.2 HW.o.2.2.1.cell))) (by
   obtain ⟨R,hR,_,rfl⟩:=HE.o.2.1
   rw [jG,hR.length_eq]
   have:=vF (fun p:Plc=> !(p.2.1 !=node)) qs
   omega) hEin
  refine ⟨trivial,?_⟩
  refine (CallsIn.inRound l ((callsIn_wide (n:=1)).2 hidx)).mono ?_
  clear hidx hent g8 g9
  rintro e w6 ⟨r,rfl,HR⟩
  have hb6:Below W.heap.size W w6:=zh HE.o.2.2 HR.o.2
  have F6:FindAt w4 S B node w6:=HW.o.1.grow hSB (grown_of_below hb6) (fun q e=>yJ)
  have HF:Aside (FindAt w4 S B node w6/\Below W.heap.size W w6):=⟨F6,hb6⟩
  have xb:∀y:ByteArray,y.data.toList=x↔y=⟨x.toArray⟩:=fun y=>⟨fun e=>by rw [<-e],fun e=>by rw [e]⟩
  rcases HR.o.1 with ⟨hr,ha⟩ | ⟨k,e,hr,hk,he,hfst⟩
  ·subst hr
   have hno:NoLead qs node x:=⟨es,HE.o.2.1,fun e he q=>by
    have:=ha e he
    rw [decide_eq_false_iff_not] at this
    exact this ((xb _).1 q)⟩
   have HN:=Lib.hid hno
   have r0:=F6.r0.cell
   have r0f:=F6.r0.frozen
   have r1:=F6.r1.cell
   have r1f:=F6.r1.frozen
   clear ha hno F6 hb6 xb
   gi_wp2
   have g1:=grownBy_setCell' w6 S (.int .i64 0)
   have g2:=grownBy_setCell' (w6.setCell ⟨S,0,none⟩ (.int .i64 0)) (S+1) (.bool false)
   have kO:KeepsOthers W ((w6.setCell ⟨S,0,none⟩ (.int .i64 0)).setCell ⟨S+1,0,none⟩ (.bool false)):=((KeepsOthers.of_grownBy (grown_of_below HF.o.2) (fun j o e=>yJ)).trans (KeepsOthers.setCell _ _ _)).trans (KeepsOthers.setCell _ _ _)
   refine ⟨kO.from _,rfl,pre,x,node,node,rfl,HW.o.2.1,HN.o,?_⟩
   have F6:=HF.o.1
   have q0:=F6.r0.set (.int .i64 0)
   have q1:=F6.r1.other (B':=S) zi (.int .i64 0)
   have q2:=F6.node.other (B':=S) zi (.int .i64 0)
   refine ⟨q2.other zi _,q0.other zi _,q1.set _,xx,⟨g2.os.trans (g1.os.trans F6.keep.os),g2.tape.trans (g1.tape.trans F6.keep.tape),g2.output.trans (g1.output.trans F6.keep.output),xx,fun k hk hs=> ?_⟩⟩
   by_cases k0:k=S
   ·rw [k0];exact (q0.other (B':=S+1) zi (.bool false)).trans F4.r0.symm
   by_cases k1:k=S+1
   ·rw [k1];exact (q1.set (.bool false)).trans F4.r1.symm
   rw [g2.block k qq (fun e=>by cases e;exact k1 rfl),g1.block k (by have:=F6.size;omega) (fun e=>by cases e;exact k0 rfl)]
   exact F6.keep.block k hk hs
  have hlead:LeadsTo qs node x e.2:=⟨es,k,e,HE.o.2.1,hk,(xb _).2 (of_decide_eq_true he),fun j y hj hy q=>by
   have:=hfst j y hj hy
   rw [decide_eq_false_iff_not] at this
   exact this ((xb _).1 q),rfl⟩
  have HN:=Lib.hid hlead
  obtain ⟨g',off',hao',q0,q1⟩:=(hEin.later HR.o.2).get hk
  subst hao'
  have hkl:k<es.length:=(jh.1 hk).1
  have d0:decide (r<0)=false:=zk
  have ek:r.toNat=k:=zi
  have p0:(0:Int)<=r:=zi
  have p1:r<(es.length:Int):=zi
  have n8:=F6.node.cell
  have n8f:=F6.node.frozen
  clear hlead hk he hfst F6 hb6 xb
  gi_wp2
  have g1:=grownBy_setCell' w6 (S+1+1) (.int .i64 e.2)
  have kO:KeepsOthers W (w6.setCell ⟨S+1+1,0,none⟩ (.int .i64 e.2)):=(KeepsOthers.of_grownBy (grown_of_below HF.o.2) (fun j o e=>yJ)).trans (KeepsOthers.setCell _ _ _)
  have F6:=HF.o.1
  refine ⟨kO.from _,fun k hk=> ?_,e.2,⟨F6.node.set _,F6.r0.other zi _,F6.r1.other zi _,qq,⟨g1.os.trans F6.keep.os,g1.tape.trans F6.keep.tape,g1.output.trans F6.keep.output,qq,fun k hk hs=> ?_⟩⟩,HW.o.2.1.snoc HN.o⟩
  ·have hG:=jl w4 ⟨13,0,none⟩ X4.max
   have hG2:=jl w ⟨13,0,none⟩ H.o.2.2.2
   dsimp only at hG hG2
   have hwS:=H5.o.2.2.2.1
   have hWs:=HW.o.1.size
   have hkW:k<W.heap.size:=by rcases hk with q | q | q | q<;>omega
   have hkS:k≠S+1+1:=by rcases hk with q | q | q | q<;>omega
   rw [g1.block k (by have:=HF.o.2.size;omega) (fun e=>by cases e;exact hkS rfl)]
   exact HF.o.2.block k hkW
  rw [g1.block k (by have:=F6.size;omega) (fun e=>by cases e;exact hs (.inl rfl))]
  exact F6.keep.block k hk hs
 case done=>
  rintro D xs W hD hall ⟨node,hF,hW⟩ hK
  subst hall
  have g8:=hF.node.cell
  have r0:=hF.r0.cell
  have r0f:=hF.r0.frozen
  have r1:=hF.r1.cell
  have r1f:=hF.r1.frozen
  gi_wp2
  have b0:Boxed (W.setCell ⟨S,0,none⟩ (.int .i64 node)) S 3 (.int .i64 node):=hF.r0.set _
  have b1:Boxed (W.setCell ⟨S,0,none⟩ (.int .i64 node)) (S+1) 4 (.bool false):=hF.r1.other zi _
  obtain ⟨V,hV⟩:=za ((W.setCell ⟨S,0,none⟩ (.int .i64 node)).setCell ⟨S+1,0,none⟩ (.bool true))
  have v0:Boxed V S 3 (.int .i64 node):=by rw [hV];exact b0.other zi _
  have v1:Boxed V (S+1) 4 (.bool true):=by rw [hV];exact b1.set _
  have g1:=grownBy_setCell' W S (.int .i64 node)
  have g2:=grownBy_setCell' (W.setCell ⟨S,0,none⟩ (.int .i64 node)) (S+1) (.bool true)
  rw [<-hV] at g2
  have hDl:=(jk.1 hK).1
  have hDV:V.heap[D]? =some (.deferred (some [])):=by
   rw [g2.block D (by have:=g1.size;omega) (fun e=>by cases e;omega),g1.block D hDl (fun e=>by cases e;omega)]
   exact hK
  have hBW:Below w.heap.size w W:=H5.o.2.2.1.trans (hF.keep.below H5.o.2.2.1.size (fun k e=>yE))
  have hBV:Below w.heap.size w V:=(hBW.grown g1 hBW.size (fun k e=>by cases e;exact H5.o.2.2.2.1)).grown g2 (by have:=hBW.size;have:=g1.size;omega) (fun k e=>by cases e;have:=H5.o.2.2.2.1;omega)
  rw [<-hV]
  refine ⟨zm,.inl ⟨_,_,rfl,run_takeDeferred hDV,?_⟩⟩
  have z0:(V.putObj D (.deferred none)).cell? ⟨S,0,none⟩=some (.int .i64 node):=(jr (a:=⟨S,0,none⟩) (vL (show S≠D by omega))).trans v0.cell
  have z1:(V.putObj D (.deferred none)).cell? ⟨S+1,0,none⟩=some (.bool true):=(jr (a:=⟨S+1,0,none⟩) (vL (show S+1≠D by omega))).trans v1.cell
  refine ⟨.tuple #[.int .i64 node,.bool true],by simp [results,f33,go_sem,z0,z1],.inl ⟨node,rfl,hW⟩,hBV.trans (belowK_b (w:=w) ze V D _ _ (by have:=H5.o.2.2.2.1;omega) hDV rfl rfl)⟩
 case stop=>
  rintro D c pre W hD ⟨rest,hrest⟩ ⟨rfl,p0,x,b,node,hp,hw0,hno,hF⟩ hK
  have r0:=hF.r0.cell
  have r1:=hF.r1.cell
  gi_wp2
  have hBW:Below w.heap.size w W:=H5.o.2.2.1.trans (hF.keep.below H5.o.2.2.1.size (fun k e=>yE))
  refine ⟨zm,.inl ⟨_,_,rfl,run_takeDeferred hK,?_⟩⟩
  have z0:(W.putObj D (.deferred none)).cell? ⟨S,0,none⟩=some (.int .i64 0):=(jr (a:=⟨S,0,none⟩) (vL (show S≠D by omega))).trans r0
  have z1:(W.putObj D (.deferred none)).cell? ⟨S+1,0,none⟩=some (.bool false):=(jr (a:=⟨S+1,0,none⟩) (vL (show S+1≠D by omega))).trans r1
  refine ⟨.tuple #[.int .i64 0,.bool false],by simp [results,f33,go_sem,z0,z1],.inr ⟨rfl,p0,x,rest,b,?_,hw0,hno⟩,hBW.trans (belowK_b (w:=w) ze W D _ _ (by have:=H5.o.2.2.2.1;omega) hK rfl rfl)⟩
  rw [<-hrest,hp,jR]
  rfl
end
section
open Go.RowKit Go.Lib Go.Sort Go.Maps
open scoped Classical
def Make1Out (ad:Nat->Addr) (w:World) (R:Rws) (i:Nat) (e:Ending) (w':World):Prop:=∃(y:OpX) (cd:Nat),e= .returned (.tuple #[encO y,eV ad cd])/\Aside (Below w.heap.size w w'/\cd<=12/\((cd≠0/\y=zeroO)\/(cd=0/\∃T,timeO (allR R) T/\NextOp R i T y)))
theorem known_two {S:List OpX} (h:∀x∈S,errO x=0) (k:KnownN S nd):2<=nd:=by
 obtain ⟨x,hx,k1,k2,k3⟩:=k
 have:=(err_refs (h x hx)).2.2.2.2.1 k1
 omega
theorem err_le (x:OpX):errO x<=5:=by
 unfold errO opE kindE moveE insE delE setE
 repeat (first | omega | split)
theorem atL_true {n:Int} {L:List Ltr} {id:Int} (h:atL n L=(id,true)):id∈L.map (·.1):=by
 unfold atL at h
 split at h
 ·split at h
  ·rename_i l hl
   cases h
   exact jO.2 ⟨l,(vx.1 (jm hl)).1,rfl⟩
  cases h
 cases h
theorem next_own (he:errO (ownX T i (R i).length kd nd o s v)=0) (hr:RefOk (ownX T i (R i).length kd nd o s v::allR R) (ownX T i (R i).length kd nd o s v)):NextOp R i T (ownX T i (R i).length kd nd o s v):=⟨he,rfl,rfl,rfl,hr⟩
theorem own_node {m:Nat} (h:nd≠0):nodeO (ownX T i m kd nd o s v)=nd:=if_neg h
theorem made_out {w':World} {x:OpX} {ok:Prop} {e:Ending} (h:MadeOut ad w ok x e w') (hT:timeO (allR R) T) (hF:errF x=errO x) (hx:ok->errO x=0->NextOp R i T x):Make1Out ad w R i e w':=by
 rcases h with ⟨h1,h2,h3⟩ | ⟨h1,h2,h3⟩
 ·rw [hF] at h2
  by_cases he:errO x=0
  ·rw [if_pos he,he] at h2
   exact ⟨x,0,h2,h3,zi,.inr ⟨rfl,T,hT,hx h1 he⟩⟩
  rw [if_neg he] at h2
  exact ⟨zeroO,errO x,h2,h3,by have:=err_le x;omega,.inl ⟨he,rfl⟩⟩
 exact ⟨zeroO,6,h2,h3,zi,.inl ⟨zi,rfl⟩⟩
section
variable {B:Nat} {ad:Nat→Addr} (w:World) (c:Nat→Nat) (br:Nat) (i:Nat) (R:Rws)
theorem m_make (into:Int) (name:ByteArray) (h:RepOwn B w c br (i:Int) R) (hE:EnvT B ad w) (hi:i<4) (hT:∀T,timeO (allR R) T->T<1073741824) (hn:(allR R).length<=140) (hs1:name.size<=1000000) (h2: -9223372036854775808<=into) (h3:into<=9223372036854775807):
  Calls prog 43 #[.pointer (some ⟨br,0,none⟩),.int .i64 into,.string name] w (Make1Out ad w R i):=by
 obtain ⟨T,kv,bt,bx,bc,A,hm,hp,ht⟩:=h.rep.time
 obtain ⟨ao,cap,hM⟩:=hm.norm
 refine (make_any w c br T i ao cap bt bx bc R into name hM.cell hM.rows h.wellK hE.env hi ht.2.2 (uy (hT T ht)) hn hs1 h2 h3).mono fun e w' q=>made_out q ht (errF_own (hT T ht)) (fun ok he=>next_own he ?_)
 refine ⟨.inl ⟨rfl,rfl⟩,fun _=>ok.imp id (fun q=>q.imp id (fun q=>q.mono (fun x hx=>jv _ hx))),fun q=> ?_⟩
 rcases q with ⟨q,_⟩ | q<;>exact absurd q (by show ¬(109=_);decide)
theorem m_mark (nd:Int) (name value:ByteArray) (h:RepOwn B w c br (i:Int) R) (hE:EnvT B ad w) (hi:i<4) (hT:∀T,timeO (allR R) T->T<1073741824) (hn:(allR R).length<=140) (hs1:name.size<=1000000) (hs2:value.size<=1000000) (h2: -9223372036854775808<=nd) (h3:nd<=9223372036854775807):
  Calls prog 68 #[.pointer (some ⟨br,0,none⟩),.int .i64 nd,.string name,.string value] w (Make1Out ad w R i):=by
 obtain ⟨T,kv,bt,bx,bc,A,hm,hp,ht⟩:=h.rep.time
 obtain ⟨ao,cap,hM⟩:=hm.norm
 refine (mark_any w c br T i ao cap bt bx bc R nd name value hM.cell hM.rows h.wellK hE.env hi ht.2.2 (uy (hT T ht)) hn hs1 hs2 h2 h3).mono fun e w' q=>made_out q ht (errF_own (hT T ht)) (fun ok he=>next_own he ?_)
 have hnd:=known_two h.wellK.well.ok ok
 refine ⟨.inr ?_,fun q=>absurd q (by show ¬(115=_);decide),fun q=> ?_⟩
 ·rw [own_node zi]
  exact ok.mono (fun x hx=>jv _ hx)
 rcases q with ⟨q,_⟩ | q<;>exact absurd q (by show ¬(115=_);decide)
theorem m_erase (nd n:Int) (h:RepOwn B w c br (i:Int) R) (hE:EnvT B ad w) (hi:i<4) (hT:∀T,timeO (allR R) T->T<1073741824) (hn:(allR R).length<=140) (h2: -9223372036854775808<=nd) (h3:nd<=9223372036854775807) (h4: -9223372036854775808<=n) (h5:n<=9223372036854775807):
  Calls prog 67 #[.pointer (some ⟨br,0,none⟩),.int .i64 nd,.int .i64 n] w (Make1Out ad w R i):=by
 obtain ⟨T,kv,bt,bx,bc,A,hm,hp,ht⟩:=h.rep.time
 obtain ⟨ao,cap,hM⟩:=hm.norm
 refine (erase_any w c br T i ao cap bt bx bc R A nd n hM.cell hM.text hp hE.env hi ht.2.2 (uy (hT T ht)) hn h2 h3 h4 h5).mono fun e w' q=> ?_
 obtain ⟨a,⟨a1,a2⟩,q⟩:=q
 refine made_out q ht (errF_own (hT T ht)) (fun ok he=>next_own he ?_)
 have hk:KnownN A nd:=by
  by_cases hk:KnownN A nd
  ·exact hk
  rw [a1 hk] at ok;cases ok
 obtain ⟨L,hL,ea⟩:=a2 hk
 have hl:LetterN A nd a.1:=hL.mem.1 (atL_true (n:=n) (by rw [<-ea,<-ok]))
 have hk':=(knownN_perm hp nd).1 hk
 have hnd:=known_two h.wellK.well.ok hk'
 refine ⟨.inr ?_,fun q=>absurd q (by show ¬(100=_);decide),fun _=> ?_⟩
 ·rw [own_node zi]
  exact hk'.mono (fun x hx=>jv _ hx)
 rw [own_node zi]
 exact hl.mono (fun x hx=>jv _ (hp.mem_iff.1 hx))
theorem m_write (nd n:Int) (ch:UInt8) (h:RepOwn B w c br (i:Int) R) (hE:EnvT B ad w) (hi:i<4) (hT:∀T,timeO (allR R) T->T<1073741824) (hn:(allR R).length<=140) (h2: -9223372036854775808<=nd) (h3:nd<=9223372036854775807) (h4: -9223372036854775808<=n) (h5:n<=9223372036854775807):
  Calls prog 66 #[.pointer (some ⟨br,0,none⟩),.int .i64 nd,.int .i64 n,.int .u8 (ch.toNat:Int)] w (Make1Out ad w R i):=by
 obtain ⟨T,kv,bt,bx,bc,A,hm,hp,ht⟩:=h.rep.time
 obtain ⟨ao,cap,hM⟩:=hm.norm
 refine (write_any w c br T i ao cap bt bx bc R A nd n ch hM.cell hM.rows hM.text hp h.wellK hE.env hi ht.2.2 (uy (hT T ht)) hn h2 h3 h4 h5).mono fun e w' q=> ?_
 obtain ⟨a,hw,q⟩:=q
 refine made_out q ht (errF_own (hT T ht)) (fun ok he=>next_own he ?_)
 have hkl:KnownN A nd/\(0<a.1->LetterN A nd a.1):=by
  rcases hw with ⟨_,q2,q3⟩ | ⟨_,a1,a2⟩
  ·exact ⟨q3.1 ok,fun q=>zi⟩
  have hk:KnownN A nd:=by
   by_cases hk:KnownN A nd
   ·exact hk
   rw [a1 hk] at ok;cases ok
  obtain ⟨L,hL,ea⟩:=a2 hk
  exact ⟨hk,fun _=>hL.mem.1 (atL_true (n:=n - 1) (by rw [<-ea,<-ok]))⟩
 have hk':=(knownN_perm hp nd).1 hkl.1
 have hnd:=known_two h.wellK.well.ok hk'
 refine ⟨.inr ?_,fun q=>absurd q (by show ¬(105=_);decide),fun q=> ?_⟩
 ·rw [own_node zi]
  exact hk'.mono (fun x hx=>jv _ hx)
 rw [own_node zi]
 refine (hkl.2 ?_).mono (fun x hx=>jv _ (hp.mem_iff.1 hx))
 rcases q with ⟨_,q⟩ | q
 ·exact q
 exact absurd q (by show ¬(105=_);decide)
theorem m_move (nd into:Int) (name:ByteArray) (h:RepOwn B w c br (i:Int) R) (hE:EnvT B ad w) (hcy:Aside (Cyc ad)) (hi:i<4) (hT:∀T,timeO (allR R) T->T<1073741824) (hn:(allR R).length<=140) (hs1:name.size<=1000000) (h2: -9223372036854775808<=nd) (h3:nd<=9223372036854775807) (h4: -9223372036854775808<=into) (h5:into<=9223372036854775807):
  Calls prog 65 #[.pointer (some ⟨br,0,none⟩),.int .i64 nd,.int .i64 into,.string name] w (Make1Out ad w R i):=by
 obtain ⟨T,kv,bt,bx,bc,A,hm,hp,ht⟩:=h.rep.time
 obtain ⟨ao,cap,hM⟩:=hm.norm
 obtain ⟨bm,tv,ms,hTA,hms,-⟩:=hM.tree
 obtain ⟨nm,hnm,hMap⟩:=hTA.map
 have t0:=hTA.cell.c0
 refine (rmove_any w c br T i ao cap bt bx bc bm nm (madeBy ms) R nd into name hM.cell hM.rows t0 hMap hTA.good h.wellK hE.env hcy hi ht.2.2 (uy (hT T ht)) hn hs1 h2 h3 h4 h5).mono fun e w' q=> ?_
 obtain ⟨hb,q⟩:=q
 rw [errF_own (hT T ht)] at q
 rcases q with ⟨_,q⟩ | ⟨ok,he,q⟩ | ⟨_,_,_,q⟩ | ⟨ok,he,_,q⟩
 ·exact ⟨zeroO,6,q,hb,zi,.inl ⟨zi,rfl⟩⟩
 ·exact ⟨zeroO,_,q,hb,by have:=err_le (ownX T i (R i).length 109 nd into name ⟨#[]⟩);omega,.inl ⟨he,rfl⟩⟩
 ·exact ⟨zeroO,10,q,hb,zi,.inl ⟨zi,rfl⟩⟩
 refine ⟨_,0,q,hb,zi,.inr ⟨rfl,T,ht,next_own he ?_⟩⟩
 have hnd:=known_two h.wellK.well.ok ok.1
 refine ⟨.inr ?_,fun _=>ok.2.imp id (fun q=>q.imp id (fun q=>q.mono (fun x hx=>jv _ hx))),fun q=> ?_⟩
 ·rw [own_node zi]
  exact ok.1.mono (fun x hx=>jv _ hx)
 rcases q with ⟨q,_⟩ | q<;>exact absurd q (by show ¬(109=_);decide)
end
theorem first_byte (v:ByteArray) (h:v.size≠0):∃ch:UInt8,∀w:World,(Instr.index 9 (.string v) (.int .i64 0)).run prog w= .ok (.int .u8 (ch.toNat:Int)) w:=by
 have hv:0<v.size:=zi
 have hv':(0:Int)<(v.size:Int):=zi
 refine ⟨v[0],fun w=> ?_⟩
 have:=hv
 go_simp
theorem make1_any {B:Nat} {ad:Nat->Addr} (w:World) (c:Nat->Nat) (br:Nat) (i:Nat) (R:Rws) (x:OpX) (h:RepOwn B w c br (i:Int) R) (hE:EnvT B ad w) (hcy:Aside (Cyc ad)) (hi:i<4) (hT:∀T,timeO (allR R) T->T<1073741824) (hn:(allR R).length<=140)
  (hs1:x.2.2.2.2.2.2.1.size<=1000000) (hs2:x.2.2.2.2.2.2.2.size<=1000000) (hk:x.2.2.2.1<256) (h2: -9223372036854775808<=nodeO x/\nodeO x<=9223372036854775807) (h4: -9223372036854775808<=otherO x/\otherO x<=9223372036854775807):
  Calls prog 14 #[.pointer (some ⟨br,0,none⟩),encO x] w (Make1Out ad w R i):=by
 obtain ⟨t,b,m,kd,nd,o,s,v⟩:=x
 dsimp only at hs1 hs2 hk h2 h4
 obtain ⟨S,hS⟩:=za w.heap.size
 obtain ⟨U,hU⟩:=za ((w.alloc (.cells #[.int .i64 t,.int .i64 b,.int .i64 m,.int .u8 (kd:Int),.int .i64 nd,.int .i64 o,.string s,.string v] 38)).alloc (.cells #[.int .i64 0,.int .i64 0,.int .i64 0,.int .u8 0,.int .i64 0,.int .i64 0,.string ⟨#[]⟩,.string ⟨#[]⟩] 38))
 have hbU:Below w.heap.size w U:=zG
 have O0:OpBlk U S (t,b,m,kd,nd,o,s,v):=by rw [hU,hS];exact (jp _ _ _ zm).trans (OpBlk.new w (t,b,m,kd,nd,o,s,v))
 have Z0:OpBlk U (S+1) zeroO:=by
  rw [hU,hS]
  have:=OpBlk.new (w.alloc (.cells #[.int .i64 t,.int .i64 b,.int .i64 m,.int .u8 (kd:Int),.int .i64 nd,.int .i64 o,.string s,.string v] 38)) zeroO
  rw [jI] at this
  exact this
 obtain ⟨j0,j1,j2,j3,j4,j5,j6,j7,-⟩:=O0.cells
 dsimp only at j0 j1 j2 j3 j4 j5 j6 j7
 have hR:=h.later hbU
 have hEU:=hE.later hbU
 have c1:=m_make U c br i R o s hR hEU hi hT hn hs1 h4.1 h4.2
 have c2:=m_move U c br i R nd o s hR hEU hcy hi hT hn hs1 h2.1 h2.2 h4.1 h4.2
 have c3:=fun ch=>m_write U c br i R nd o ch hR hEU hi hT hn h2.1 h2.2 h4.1 h4.2
 have c4:=m_erase U c br i R nd o hR hEU hi hT hn h2.1 h2.2 h4.1 h4.2
 have c5:=m_mark U c br i R nd s v hR hEU hi hT hn hs1 hs2 h2.1 h2.2
 have H0:Aside (U=(w.alloc (.cells #[.int .i64 t,.int .i64 b,.int .i64 m,.int .u8 (kd:Int),.int .i64 nd,.int .i64 o,.string s,.string v] 38)).alloc (.cells #[.int .i64 0,.int .i64 0,.int .i64 0,.int .u8 0,.int .i64 0,.int .i64 0,.string ⟨#[]⟩,.string ⟨#[]⟩] 38)/\OpBlk U (S+1) zeroO/\Below w.heap.size w U/\S=w.heap.size):=⟨hU,Z0,hbU,hS⟩
 have HC1:=Lib.hid c1
 have HC2:=Lib.hid c2
 have HC3:=Lib.hid c3
 have HC4:=Lib.hid c4
 have HC5:=Lib.hid c5
 clear hU Z0 hbU hS O0 hR hEU h hE c1 c2 c3 c4 c5 h2 h4
 unfold encO
 dsimp only
 go_enter func14,ntmps14
 go_upto_region 1 with fail
 rw [<-H0.o.1,<-H0.o.2.2.2]
 by_cases k1:kd=109
 ·have d1:((kd:Int)==109)=true:=by simp;omega
  by_cases k0:nd=0
  ·have d0:(nd==0)=true:=by simp [k0]
   clear k1 k0
   go_wp2_with fail
   refine HC1.o.mono ?_
   rintro e w2 ⟨y,cd,rfl,H2⟩
   obtain ⟨t',b',m',kd',nd',o',s',v'⟩:=y
   obtain ⟨er,her⟩:=za (eV ad cd)
   rw [<-her]
   unfold encO
   dsimp only
   obtain ⟨z0,z1,z2,z3,z4,z5,z6,z7,zf⟩:=(H0.o.2.1.later H2.o.1).cells
   unfold zeroO at z0 z1 z2 z3 z4 z5 z6 z7
   dsimp only at z0 z1 z2 z3 z4 z5 z6 z7
   have HER:Aside (er=eV ad cd/\Below w.heap.size w w2):=⟨her,zh H0.o.2.2.1 H2.o.1⟩
   clear her
   go_wp2
   (try simp only [Exit.inBlock,Exit.then])
   refine bodyPost_ret (v:=.tuple #[.agg #[.int .i64 t',.int .i64 b',.int .i64 m',.int .u8 (kd':Int),.int .i64 nd',.int .i64 o',.string s',.string v'],er]) ?_ rfl ⟨(t',b',m',kd',nd',o',s',v'),cd,by rw [<-HER.o.1];rfl,?_,H2.o.2⟩
   ·rw [results_ct rfl]
    go_simp
   exact below_cells (b:=S+1) HER.o.2 zV 0 [.int .i64 t',.int .i64 b',.int .i64 m',.int .u8 (kd':Int),.int .i64 nd',.int .i64 o',.string s',.string v']
  have d0:(nd==0)=false:=by simp [k0]
  clear k1 k0
  go_wp2_with fail
  refine HC2.o.mono ?_
  rintro e w2 ⟨y,cd,rfl,H2⟩
  obtain ⟨t',b',m',kd',nd',o',s',v'⟩:=y
  obtain ⟨er,her⟩:=za (eV ad cd)
  rw [<-her]
  unfold encO
  dsimp only
  obtain ⟨z0,z1,z2,z3,z4,z5,z6,z7,zf⟩:=(H0.o.2.1.later H2.o.1).cells
  unfold zeroO at z0 z1 z2 z3 z4 z5 z6 z7
  dsimp only at z0 z1 z2 z3 z4 z5 z6 z7
  have HER:Aside (er=eV ad cd/\Below w.heap.size w w2):=⟨her,zh H0.o.2.2.1 H2.o.1⟩
  clear her
  go_wp2
  (try simp only [Exit.inBlock,Exit.then])
  refine bodyPost_ret (v:=.tuple #[.agg #[.int .i64 t',.int .i64 b',.int .i64 m',.int .u8 (kd':Int),.int .i64 nd',.int .i64 o',.string s',.string v'],er]) ?_ rfl ⟨(t',b',m',kd',nd',o',s',v'),cd,by rw [<-HER.o.1];rfl,?_,H2.o.2⟩
  ·rw [results_ct rfl]
   go_simp
  exact below_cells (b:=S+1) HER.o.2 zV 0 [.int .i64 t',.int .i64 b',.int .i64 m',.int .u8 (kd':Int),.int .i64 nd',.int .i64 o',.string s',.string v']
 have d1:((kd:Int)==109)=false:=zk
 by_cases k2:kd=105
 ·have d2:((kd:Int)==105)=true:=by simp;omega
  clear k1 k2
  by_cases kv0:v.size=0
  ·have he:=emptyYes kv0
   go_wp2_with fail
   refine (HC3.o 0).mono ?_
   rintro e w2 ⟨y,cd,rfl,H2⟩
   obtain ⟨t',b',m',kd',nd',o',s',v'⟩:=y
   obtain ⟨er,her⟩:=za (eV ad cd)
   rw [<-her]
   unfold encO
   dsimp only
   obtain ⟨z0,z1,z2,z3,z4,z5,z6,z7,zf⟩:=(H0.o.2.1.later H2.o.1).cells
   unfold zeroO at z0 z1 z2 z3 z4 z5 z6 z7
   dsimp only at z0 z1 z2 z3 z4 z5 z6 z7
   have HER:Aside (er=eV ad cd/\Below w.heap.size w w2):=⟨her,zh H0.o.2.2.1 H2.o.1⟩
   clear her
   go_wp2
   (try simp only [Exit.inBlock,Exit.then])
   refine bodyPost_ret (v:=.tuple #[.agg #[.int .i64 t',.int .i64 b',.int .i64 m',.int .u8 (kd':Int),.int .i64 nd',.int .i64 o',.string s',.string v'],er]) ?_ rfl ⟨(t',b',m',kd',nd',o',s',v'),cd,by rw [<-HER.o.1];rfl,?_,H2.o.2⟩
   ·rw [results_ct rfl]
    go_simp
   exact below_cells (b:=S+1) HER.o.2 zV 0 [.int .i64 t',.int .i64 b',.int .i64 m',.int .u8 (kd':Int),.int .i64 nd',.int .i64 o',.string s',.string v']
  have he:=emptyNo kv0
  obtain ⟨ch,hch⟩:∃ch:UInt8,∀w:World,(Instr.index 9 (.string v) (.int .i64 0)).run prog w= .ok (.int .u8 (ch.toNat:Int)) w:=first_byte v kv0
  go_wp2_with fail
  refine (HC3.o ch).mono ?_
  rintro e w2 ⟨y,cd,rfl,H2⟩
  obtain ⟨t',b',m',kd',nd',o',s',v'⟩:=y
  obtain ⟨er,her⟩:=za (eV ad cd)
  rw [<-her]
  unfold encO
  dsimp only
  obtain ⟨z0,z1,z2,z3,z4,z5,z6,z7,zf⟩:=(H0.o.2.1.later H2.o.1).cells
  unfold zeroO at z0 z1 z2 z3 z4 z5 z6 z7
  dsimp only at z0 z1 z2 z3 z4 z5 z6 z7
  have HER:Aside (er=eV ad cd/\Below w.heap.size w w2):=⟨her,zh H0.o.2.2.1 H2.o.1⟩
  clear her
  go_wp2
  (try simp only [Exit.inBlock,Exit.then])
  refine bodyPost_ret (v:=.tuple #[.agg #[.int .i64 t',.int .i64 b',.int .i64 m',.int .u8 (kd':Int),.int .i64 nd',.int .i64 o',.string s',.string v'],er]) ?_ rfl ⟨(t',b',m',kd',nd',o',s',v'),cd,by rw [<-HER.o.1];rfl,?_,H2.o.2⟩
  ·rw [results_ct rfl]
   go_simp
  exact below_cells (b:=S+1) HER.o.2 zV 0 [.int .i64 t',.int .i64 b',.int .i64 m',.int .u8 (kd':Int),.int .i64 nd',.int .i64 o',.string s',.string v']
 have d2:((kd:Int)==105)=false:=zk
 by_cases k3:kd=100
 ·have d3:((kd:Int)==100)=true:=by simp;omega
  clear k1 k2 k3
  go_wp2_with fail
  refine HC4.o.mono ?_
  rintro e w2 ⟨y,cd,rfl,H2⟩
  obtain ⟨t',b',m',kd',nd',o',s',v'⟩:=y
  obtain ⟨er,her⟩:=za (eV ad cd)
  rw [<-her]
  unfold encO
  dsimp only
  obtain ⟨z0,z1,z2,z3,z4,z5,z6,z7,zf⟩:=(H0.o.2.1.later H2.o.1).cells
  unfold zeroO at z0 z1 z2 z3 z4 z5 z6 z7
  dsimp only at z0 z1 z2 z3 z4 z5 z6 z7
  have HER:Aside (er=eV ad cd/\Below w.heap.size w w2):=⟨her,zh H0.o.2.2.1 H2.o.1⟩
  clear her
  go_wp2
  (try simp only [Exit.inBlock,Exit.then])
  refine bodyPost_ret (v:=.tuple #[.agg #[.int .i64 t',.int .i64 b',.int .i64 m',.int .u8 (kd':Int),.int .i64 nd',.int .i64 o',.string s',.string v'],er]) ?_ rfl ⟨(t',b',m',kd',nd',o',s',v'),cd,by rw [<-HER.o.1];rfl,?_,H2.o.2⟩
  ·rw [results_ct rfl]
   go_simp
  exact below_cells (b:=S+1) HER.o.2 zV 0 [.int .i64 t',.int .i64 b',.int .i64 m',.int .u8 (kd':Int),.int .i64 nd',.int .i64 o',.string s',.string v']
 have d3:((kd:Int)==100)=false:=zk
 clear k1 k2 k3
 go_wp2_with fail
 refine HC5.o.mono ?_
 rintro e w2 ⟨y,cd,rfl,H2⟩
 obtain ⟨t',b',m',kd',nd',o',s',v'⟩:=y
 obtain ⟨er,her⟩:=za (eV ad cd)
 rw [<-her]
 unfold encO
 dsimp only
 obtain ⟨z0,z1,z2,z3,z4,z5,z6,z7,zf⟩:=(H0.o.2.1.later H2.o.1).cells
 unfold zeroO at z0 z1 z2 z3 z4 z5 z6 z7
 dsimp only at z0 z1 z2 z3 z4 z5 z6 z7
 have HER:Aside (er=eV ad cd/\Below w.heap.size w w2):=⟨her,zh H0.o.2.2.1 H2.o.1⟩
 clear her
 go_wp2
 (try simp only [Exit.inBlock,Exit.then])
 refine bodyPost_ret (v:=.tuple #[.agg #[.int .i64 t',.int .i64 b',.int .i64 m',.int .u8 (kd':Int),.int .i64 nd',.int .i64 o',.string s',.string v'],er]) ?_ rfl ⟨(t',b',m',kd',nd',o',s',v'),cd,by rw [<-HER.o.1];rfl,?_,H2.o.2⟩
 ·rw [results_ct rfl]
  go_simp
 exact below_cells (b:=S+1) HER.o.2 zV 0 [.int .i64 t',.int .i64 b',.int .i64 m',.int .u8 (kd':Int),.int .i64 nd',.int .i64 o',.string s',.string v']
