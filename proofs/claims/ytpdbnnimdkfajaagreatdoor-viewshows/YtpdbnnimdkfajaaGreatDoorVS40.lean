import Derived.Test.YtpdbnnimdkfajaaGreatDoorVS20
import Derived.Test.YtpdbnnimdkfajaaGreatDoorVS36
import Derived.Test.YtpdbnnimdkfajaaGreatDoorVS37
import Derived.Test.YtpdbnnimdkfajaaGreatDoorVS38
set_option linter.unusedSimpArgs false
set_option linter.unusedVariables false
set_option maxRecDepth 100000
set_option maxHeartbeats 64000000
namespace Go.Proofs.YtpdbnnimdkfajaaGreatDoor
open Go.Proofs.Tryz
variable {t:ByteArray} {by_ m:Int} {es:List Enx} {B B' a br k n:Nat} {ad:Nat→Addr} {c c':Nat→Nat} {ao:Option Addr} {R R':Rws} {v:Value} {W W' w w':World}
section
open Go.RowKit Go.Lib Go.Sort Go.Maps
open scoped Classical
theorem placeV (w:World) (bt bm n:Nat) (f:Sta) (node:Int) (ht:w.cell? ⟨bt,0,none⟩=some (.map (some bm))) (hm:MapAt prog 3 w bm n f) (hk:Wf node):
  Calls prog 163 #[.pointer (some ⟨bt,0,none⟩),.int .i64 node] w fun e w'=>e= .returned (.tuple #[encP ((f node).getD zeroP),.bool (f node).isSome])/\Below w.heap.size w w':=by
 have hbt:bt<w.heap.size:=block_lt_of_cell ht
 have hl:∀o,(Instr.lookup 184 (.map (some bm)) (.int .i64 node) true).run prog (w.alloc o)= .ok (.tuple #[encP ((f node).getD zeroP),.bool (f node).isSome]) (w.alloc o):=fun o=>(hm.same (jp _ _ _ hm.lt)).looks hk
 have hc:∀o,(w.alloc o).cell? ⟨bt,0,none⟩=some (.map (some bm)):=fun o=>by rw [jr (jp w o bt hbt)];exact ht
 generalize (f node).isSome=z at hl |-
 generalize (f node).getD zeroP=p at hl |-
 obtain ⟨c,q,nm⟩:=p
 unfold encP at hl |-
 dsimp only at hl |-
 clear ht hm hk
 go_enter func163,ntmps163
 go_wp2
 (try simp only [Exit.inBlock,Exit.then])
 refine bodyPost_ret (v:=.tuple #[.agg #[.int .i64 c,.int .i64 q,.string nm],.bool z]) ?_ rfl ⟨rfl,(zg w _).alloc zm _⟩
 rw [results_cell_tmp rfl]
 go_simp
structure KeepUp (S:Nat->Prop) (W W':World):Prop where
 old:∀k,S k->W'.heap[k]? =W.heap[k]?
 plc:∀(k:Nat) (p:Plc),PlcAt W k p->W'.heap[k]? =W.heap[k]?
theorem KeepUp.refl (S:Nat->Prop) (W:World):KeepUp S W W:=⟨fun _ _=>rfl,fun _ _ _=>rfl⟩
theorem KeepUp.trans {S:Nat->Prop} {A B C:World} (h:KeepUp S A B) (k:KeepUp S B C):KeepUp S A C:=
 ⟨fun q hq=>(k.old q hq).trans (h.old q hq),fun q p hq=>(k.plc q p (hq.same (h.plc q p hq))).trans (h.plc q p hq)⟩
theorem KeepUp.below {S:Nat->Prop} (hS:∀k,S k->k<W.heap.size) (hb:Below W.heap.size W W'):KeepUp S W W':=
 ⟨fun k hk=>hb.block k (hS k hk),fun k p h=>hb.block k h.lt⟩
theorem grown_of_below (hb:Below W.heap.size W W'):W.grownBy W' none:=⟨hb.os,hb.tape,hb.output,hb.size,fun i hi _=>hb.block i hi⟩
theorem lt_of_same (h:k<W.heap.size) (e:W'.heap[k]? =W.heap[k]?):k<W'.heap.size:=by
 rw [uj h] at e
 exact (jk.1 e).1
def upNode (node:Int) (L:List Plc):Nat->Int
 | 0=>node
 | k+1=>(L.getD k zeroP).2.1
theorem up_at {f:Sta} :∀ {L:List Plc} {node:Int},UpL f node L->∀k,k<=L.length->f (upNode node L k)=L[k]?
 | [],node,h,0,_=>h
 | p::L,node,h,0,_=>h.1
 | p::L,node,h,k+1,hk=>by
  have ih:=up_at h.2 k (by simpa using hk)
  rw [List.getElem?_cons_succ,<-ih]
  cases k with
  | zero=>rfl
  | succ k=>rfl
 | [],_,_,k+1,hk=>by simp at hk
theorem up1_in (n:Nat) (hn:1<=n) (l B1 B2 bt bm nn:Nat) (f:Sta) (node:Int) (L:List Plc) (hup:UpL f node L) (G:Good f) (hwf:Wf node) (S:Nat->Prop) (h1S:S B1) (h2S:S B2) (h3S:S bt) (h4S:S bm) (J Jx:List Nat->World->Prop)
  (hY:∀pre x W,J pre W->pre.length<L.length->YieldAt Fence.wide (n - 1) prog l #[encP (L.getD x zeroP)] W fun e W'=>
   (e= .returned (.bool true)/\J (pre++ [x]) W'/\KeepUp S W W')\/(e= .returned (.bool false)/\Jx (pre++ [x]) W'))
  (W:World) (hJ:AbidesFrom W.heap.size J) (hS:∀k,S k->k<W.heap.size) (c1:W.cell? ⟨B1,0,none⟩=some (.pointer (some ⟨bt,0,none⟩))) (c2:W.cell? ⟨B2,0,none⟩=some (.int .i64 node)) (ct:W.cell? ⟨bt,0,none⟩=some (.map (some bm))) (hm:MapAt prog 3 W bm nn f) (h0:J [] W):
  CallsIn Fence.wide n prog 162 #[.func (.yield l) #[] #[],.pointer (some ⟨B1,0,none⟩),.pointer (some ⟨B2,0,none⟩)] W fun e W'=>(∃v,e= .returned v)/\
   ((∃ys,ys=List.range L.length/\J ys W')\/(∃pre,(∃k,k<=L.length/\pre=List.range k)/\Jx pre W')):=by
 refine callsIn_of_wp func162 rfl trivial ?_ rfl
 simp only [ntmps162,jN,jK,vy,Nat.reduceAdd,Nat.reduceSub,vd,ve,vr,vj,vn,vp]
 have hp0:=placeV W bt bm nn f node ct hm hwf
 have u0:=up_at hup 0 (js _)
 have hz0:(f node).isSome=decide (0<L.length):=by
  rw [show f node=L[0]? from u0]
  cases L<;>simp
 have hg0:(f node).getD zeroP=L.getD 0 zeroP:=by rw [show f node=L[0]? from u0];simp [List.getD]
 rw [hz0,hg0] at hp0
 clear u0 hz0 hg0
 obtain ⟨p0,hp0e⟩:∃p,Aside (p=L.getD 0 zeroP):=⟨_,rfl⟩
 have hp0e':=hp0e.o
 rw [<-hp0e'] at hp0
 clear hp0e'
 obtain ⟨c,q,nm⟩:=p0
 unfold encP at hp0
 dsimp only at hp0
 have H:Aside (UpL f node L/\(S B1/\S B2/\S bt/\S bm)/\(∀k,S k->k<W.heap.size)/\W.cell? ⟨bt,0,none⟩=some (.map (some bm))/\MapAt prog 3 W bm nn f/\W.cell? ⟨B1,0,none⟩=some (.pointer (some ⟨bt,0,none⟩))/\J [] W):=⟨hup,⟨h1S,h2S,h3S,h4S⟩,hS,ct,hm,c1,h0⟩
 have HJ:Aside (AbidesFrom W.heap.size J):=hJ
 have HY:Aside (∀pre x W,J pre W->pre.length<L.length->YieldAt Fence.wide (n - 1) prog l #[encP (L.getD x zeroP)] W fun e W'=>(e= .returned (.bool true)/\J (pre++ [x]) W'/\KeepUp S W W')\/(e= .returned (.bool false)/\Jx (pre++ [x]) W')):=hY
 clear hup h1S h2S h3S h4S hS hm h0 hJ hY ct
 gi_wp2_with (refine ⟨trivial,?_⟩;gi_at_call 163;refine ((callsIn_wide (n:=n - 1)).2 hp0).mono ?_;rintro e w' ⟨rfl,hb⟩)
 obtain ⟨b0,hb0⟩:∃b,b=w'.heap.size:=⟨_,rfl⟩
 obtain ⟨X,hX⟩:=za (w'.alloc (.cells #[.int .i64 c,.int .i64 q,.string nm] 106))
 have hPX:PlcAt X b0 (L.getD 0 zeroP):=by rw [hX,hb0,<-hp0e.o];exact heap_alloc_new w' _
 have hbX:Below W.heap.size W X:=by rw [hX];exact hb.alloc hb.size _
 rw [<-hX,<-hb0]
 have H0:Aside (PlcAt X b0 (L.getD 0 zeroP)/\Below W.heap.size W X):=⟨hPX,hbX⟩
 clear hX hb0 hPX hbX hb hp0 c2
 gi_loopg [4,5] L.length (fun kx s4 s5 wr=>∃(k b:Nat),s4= .pointer (some ⟨b,0,none⟩)/\s5= .bool (decide (k<L.length))/\k<=L.length/\L.length - k<=kx/\Aside (J (List.range k) wr/\KeepUp S W wr/\PlcAt wr b (L.getD k zeroP)))
 case atStart=>exact ⟨0,b0,rfl,rfl,js _,jj _,HJ.o _ W X none H.o.2.2.2.2.2.2 (grown_of_below H0.o.2) (fun r e=>yJ),KeepUp.below H.o.2.2.1 H0.o.2,H0.o.1⟩
 case round=>
  obtain ⟨k,b,rfl,rfl,hk,hkx,A⟩:=hrel
  by_cases hlt:k<L.length
  ·rw [decide_eq_true hlt]
   obtain ⟨p,hpe⟩:=zc (L.getD k zeroP)
   obtain ⟨fn,tmps,assign,body,hy,hR⟩:=HY.o (List.range k) k wr A.o.1 (by rw [List.length_range];exact hlt)
   have hPw:=A.o.2.2
   rw [<-hpe.o] at hy hPw
   have hin:L[k]? =some p:=by
    rw [ji hlt,hpe.o,vq,ji hlt];rfl
   have hfp:f (upNode node L k)=some p:=by rw [up_at H.o.1 k hk];exact hin
   have hwj:Wf p.2.1:=(wf_fine (G.fine _ _ hfp)).2
   have u1:=up_at H.o.1 (k+1) hlt
   have hz1:(f p.2.1).isSome=decide (k+1<L.length):=by
    have e:upNode node L (k+1)=p.2.1:=xL
    rw [e] at u1
    rw [u1]
    by_cases q:k+1<L.length
    ·rw [ji q,decide_eq_true q];rfl
    rw [uJ zi,decide_eq_false q];rfl
   have hg1:(f p.2.1).getD zeroP=L.getD (k+1) zeroP:=by
    have e:upNode node L (k+1)=p.2.1:=xL
    rw [e] at u1
    rw [u1,vq]
   obtain ⟨nd,j,s⟩:=p
   unfold encP at hy
   dsimp only at hy hwj hz1 hg1
   have x0:=hPw.c0
   have x1:=hPw.c1
   have x2:=hPw.c2
   dsimp only at x0 x1 x2
   have HP:Aside (PlcAt wr b (nd,j,s)/\Wf j/\(f j).isSome=decide (k+1<L.length)/\(f j).getD zeroP=L.getD (k+1) zeroP/\k<L.length):=⟨hPw,hwj,hz1,hg1,hlt⟩
   have hR':Aside (RoundIn Fence.wide (n - 1) prog l fn tmps assign body wr fun e W'=>(e= .returned (.bool true)/\J (List.range k++ [k]) W'/\KeepUp S wr W')\/(e= .returned (.bool false)/\Jx (List.range k++ [k]) W')):=hR
   clear hR hPw hin hfp hwj u1 hz1 hg1 hlt
   gi_wp2
   refine hR'.o.mono ?_
   clear hR' hy x0 x1 x2
   rintro e W3 (⟨rfl,hJ3,hk3⟩ | ⟨rfl,hJx3⟩)
   ·have hP3:PlcAt W3 b (nd,j,s):=HP.o.1.same (hk3.plc b _ HP.o.1)
    have hK3:KeepUp S W W3:=A.o.2.1.trans hk3
    obtain ⟨W4,hW4⟩:=za (W3.alloc (.cells #[.int .i64 nd,.int .i64 j,.string s] 106))
    have hb4:Below W3.heap.size W3 W4:=by rw [hW4];exact zg W3 _
    have hsm:∀q,S q->W4.heap[q]? =W.heap[q]? :=fun q hq=>by
     have e3:=hK3.old q hq
     exact (hb4.block q (lt_of_same (H.o.2.2.1 q hq) e3)).trans e3
    have hpl:=placeV W4 bt bm nn f j ((jr (a:=⟨bt,0,none⟩) (hsm bt H.o.2.1.2.2.1)).trans H.o.2.2.2.1) (H.o.2.2.2.2.1.same (hsm bm H.o.2.1.2.2.2)) HP.o.2.1
    rw [HP.o.2.2.1,HP.o.2.2.2.1] at hpl
    obtain ⟨p',hpe'⟩:∃p,Aside (p=L.getD (k+1) zeroP):=⟨_,rfl⟩
    have hpe'':=hpe'.o
    rw [<-hpe''] at hpl
    clear hpe''
    obtain ⟨nd',j',s'⟩:=p'
    unfold encP at hpl
    dsimp only at hpl
    have x0:=hP3.c0
    have x1:=hP3.c1
    have x2:=hP3.c2
    dsimp only at x0 x1 x2
    have y1:W4.cell? ⟨B1,0,none⟩=some (.pointer (some ⟨bt,0,none⟩)):=(jr (a:=⟨B1,0,none⟩) (hsm B1 H.o.2.1.1)).trans H.o.2.2.2.2.2.1
    rw [hW4] at y1
    have H4:Aside (J (List.range k++ [k]) W3/\KeepUp S W W3/\Below W3.heap.size W3 W4/\PlcAt W4 W3.heap.size (nd,j,s)/\W4.heap.size=W3.heap.size+1):=⟨hJ3,hK3,hb4,by rw [hW4];exact heap_alloc_new W3 _,by rw [hW4,jI]⟩
    have z1:=H4.o.2.2.2.1.c1
    dsimp only at z1
    rw [hW4] at z1 hpl
    have hW4':=Lib.hid hW4
    clear hW4 hJ3 hk3 hK3 hb4 hsm hP3
    gi_wp2_with (refine ⟨trivial,?_⟩;gi_at_call 163;refine ((callsIn_wide (n:=n - 1)).2 hpl).mono ?_;rintro e w5 ⟨rfl,hb5⟩;rw [<-hW4'.o] at hb5;have q0:=(H4.o.2.2.2.1.same (hb5.block _ H4.o.2.2.2.1.lt)).c0;have q1:=(H4.o.2.2.2.1.same (hb5.block _ H4.o.2.2.2.1.lt)).c1;have q2:=(H4.o.2.2.2.1.same (hb5.block _ H4.o.2.2.2.1.lt)).c2;have f0:=(H4.o.2.2.2.1.same (hb5.block _ H4.o.2.2.2.1.lt)).fz 0;have f1:=(H4.o.2.2.2.1.same (hb5.block _ H4.o.2.2.2.1.lt)).fz 1;have f2:=(H4.o.2.2.2.1.same (hb5.block _ H4.o.2.2.2.1.lt)).fz 2)
    gi_roundg (L.length - (k+1))
    case measure=>have:=HP.o.2.2.2.2;omega
    case rel=>
     have hP5:=H4.o.2.2.2.1.same (hb5.block _ H4.o.2.2.2.1.lt)
     have hb35:Below W3.heap.size W3 w5:=H4.o.2.2.1.trans (hb5.mono (by have:=H4.o.2.2.2.2;omega))
     have hbS:=PlcAt.storedBelow (nd',j',s') hb35 ze
     refine ⟨k+1,W3.heap.size,rfl,rfl,HP.o.2.2.2.2,jj _,?_,?_,?_⟩
     ·rw [uu]
      exact HJ.o _ W3 _ none H4.o.1 (grown_of_below hbS) (fun r e=>yJ)
     ·exact ⟨fun q hq=>(hbS.block q (lt_of_same (H.o.2.2.1 q hq) (H4.o.2.1.old q hq))).trans (H4.o.2.1.old q hq),fun q p hp=>by
       have h3:=H4.o.2.1.plc q p hp
       exact (hbS.block q (hp.same h3).lt).trans h3⟩
     rw [<-hpe'.o]
     exact hP5.stored (nd',j',s')
   gi_wp2
   refine bodyPost_ret (results_none rfl _ _ _) rfl ?_
   exact ⟨⟨_,rfl⟩,.inr ⟨_,⟨k+1,by have:=HP.o.2.2.2.2;omega,(uu).symm⟩,hJx3⟩⟩
  rw [decide_eq_false hlt]
  gi_wp2
  go_end0
  have e:k=L.length:=zi
  subst e
  exact ⟨⟨_,rfl⟩,.inl ⟨_,rfl,A.o.1⟩⟩
end
section
open Go.RowKit Go.Lib Go.Sort Go.Maps
theorem idx_cut (p:UInt8):∀s:List UInt8,(Lib.index s [p]= -1/\p∉s)\/∃a r,s=a++p::r/\p∉a/\Lib.index s [p]=(a.length:Int)
 | []=>.inl ⟨rfl,zm⟩
 | b::l=>by
  by_cases h:b=p
  ·exact .inr ⟨[],l,by rw [h];rfl,zm,by simp [Lib.index,h]⟩
  have hp: [p].isPrefixOf (b::l)=false:=by simp [List.isPrefixOf,Ne.symm h]
  rcases idx_cut p l with ⟨h1,h2⟩ | ⟨a,r,h1,h2,h3⟩
  ·exact .inl ⟨by unfold Lib.index;rw [hp,h1];rfl,by simp [h2,Ne.symm h]⟩
  refine .inr ⟨b::a,r,by rw [h1];rfl,by simp [h2,Ne.symm h],?_⟩
  unfold Lib.index
  rw [hp,h3]
  have:((a.length:Int)== -1)=false:=zm
  simp [this]
theorem bytes_back' (x:ByteArray):(⟨x.data.toList.toArray⟩:ByteArray)=x:=zm
def KeepS (S:Nat->Prop) (W W':World):Prop:=∀k,S k->W'.heap[k]? =W.heap[k]?
theorem KeepS.trans {S:Nat->Prop} {A B C:World} (h:KeepS S A B) (k:KeepS S B C):KeepS S A C:=fun q hq=>(k q hq).trans (h q hq)
structure SplAt (B:Nat) (m:Int) (t:ByteArray) (W:World):Prop where
 txt:Boxed W B 9 (.string t)
 sep:Boxed W (B+1) 9 (.string ⟨#[47]⟩)
 num:Boxed W (B+1+1) 3 (.int .i64 0)
 max:W.cell? ⟨13,0,none⟩=some (.int .i64 m)
def splS (B k:Nat):Prop:=k=B\/k=B+1\/k=B+1+1\/k=13
theorem SplAt.keep (h:SplAt B m t W) (hk:KeepS (splS B) W W'):SplAt B m t W':=
 ⟨(hk B (.inl rfl)).trans h.txt,(hk (B+1) (.inr (.inl rfl))).trans h.sep,(hk (B+1+1) (.inr (.inr (.inl rfl)))).trans h.num,(jr (a:=⟨13,0,none⟩) (hk _ (.inr (.inr (.inr rfl))))).trans h.max⟩
theorem SplAt.set {B:Nat} {m:Int} {t:ByteArray} {W:World} (h:SplAt B m t W) (hB:B≠13) (t':ByteArray):SplAt B m t' (W.setCell ⟨B,0,none⟩ (.string t')):=
 ⟨h.txt.set _,h.sep.other zi _,h.num.other zi _,(jr (a:=⟨13,0,none⟩) ((grownBy_setCell' W B _).block _ (jl W ⟨13,0,none⟩ h.max) (fun e=>by cases e;exact hB rfl))).trans h.max⟩
theorem split1_in (n:Nat) (hn:1<=n) (l B:Nat) (m:Int) (hB:B≠13) (s:ByteArray) (hs:s.size<=1000000) (J Jx:List (List UInt8)->World->Prop) (hJ:StabM (fun r=>r=B) J)
  (hY:∀pre x W,J pre W->pre.length<(cutP 47 s.data.toList).length->YieldAt Fence.wide (n - 1) prog l #[.string ⟨x.toArray⟩] W fun e W'=>(e= .returned (.bool true)/\J (pre++ [x]) W'/\KeepS (splS B) W W')\/(e= .returned (.bool false)/\Jx (pre++ [x]) W'))
  (W:World) (h:SplAt B m s W) (h0:J [] W):
  CallsIn Fence.wide n prog 212 #[.func (.yield l) #[] #[],.pointer (some ⟨B+1,0,none⟩),.pointer (some ⟨B,0,none⟩),.pointer (some ⟨B+1+1,0,none⟩)] W fun e W'=>(∃v,e= .returned v)/\((∃xs,xs=cutP 47 s.data.toList/\J xs W')\/∃pre,(∃rest,pre++rest=cutP 47 s.data.toList)/\Jx pre W'):=by
 refine callsIn_of_wp func212 rfl trivial ?_ rfl
 simp only [ntmps212,jN,jK,vy,Nat.reduceAdd,Nat.reduceSub,vd,ve,vr,vj,vn,vp]
 have g0:=h.sep.cell
 have H:Aside (SplAt B m s W/\J [] W):=⟨h,h0⟩
 have HJ:Aside (StabM (fun r=>r=B) J):=hJ
 have HY:Aside (∀pre x W,J pre W->pre.length<(cutP 47 s.data.toList).length->YieldAt Fence.wide (n - 1) prog l #[.string ⟨x.toArray⟩] W fun e W'=>(e= .returned (.bool true)/\J (pre++ [x]) W'/\KeepS (splS B) W W')\/(e= .returned (.bool false)/\Jx (pre++ [x]) W')):=hY
 clear h h0 hJ hY
 gi_wp2
 gi_loopg [7,8] s.size (fun kx _ _ wr=>∃(t:ByteArray) (pre:List (List UInt8)),t.size<=kx/\t.size<=s.size/\Aside (SplAt B m t wr/\J pre wr/\pre++cutP 47 t.data.toList=cutP 47 s.data.toList))
 case atStart=>exact ⟨s,[],jj _,jj _,H.o.1,H.o.2,rfl⟩
 case round=>
  obtain ⟨t,pre,htk,hts,A⟩:=hrel
  have c0:=A.o.1.txt.cell
  have c1:=A.o.1.sep.cell
  have c2:=A.o.1.num.cell
  have hidx:=Tryz.strings_Index t ⟨#[47]⟩ m wr zi A.o.1.max
  have hc:=idx_cut 47 t.data.toList
  have e47:(⟨#[47]⟩:ByteArray).data.toList= [47]:=rfl
  rw [e47] at hidx
  clear e47
  rcases hc with ⟨hi,hno⟩ | ⟨a,r,ht,hno,hi⟩
  ·rw [hi] at hidx
   obtain ⟨fn,tmps,assign,body,hy,hR⟩:=HY.o pre t.data.toList wr A.o.2.1 (by rw [<-A.o.2.2,cutP_plain _ _ hno];simp)
   rw [bytes_back'] at hy
   have hR':Aside (RoundIn Fence.wide (n - 1) prog l fn tmps assign body wr fun e W'=>(e= .returned (.bool true)/\J (pre++ [t.data.toList]) W'/\KeepS (splS B) wr W')\/(e= .returned (.bool false)/\Jx (pre++ [t.data.toList]) W')):=hR
   clear hR
   gi_wp2_with (refine ⟨trivial,?_⟩;gi_at_call 214;refine ((callsIn_wide (n:=n - 1)).2 hidx).mono ?_;rintro e w' ⟨rfl,rfl⟩)
   refine hR'.o.mono ?_
   clear hR' hy c0 c1 c2
   rintro e W3 (⟨rfl,hJ3,_⟩ | ⟨rfl,hJx3⟩)
   ·gi_wp2
    go_end0
    exact ⟨⟨_,rfl⟩,.inl ⟨_,rfl,by rw [<-A.o.2.2,cutP_plain _ _ hno];exact hJ3⟩⟩
   gi_wp2
   go_end0
   exact ⟨⟨_,rfl⟩,.inr ⟨_,⟨[],by rw [vf,<-A.o.2.2,cutP_plain _ _ hno]⟩,hJx3⟩⟩
  rw [hi] at hidx
  have hlen:t.size=a.length+1+r.length:=by
   have:=listLen t
   rw [ht] at this
   simp only [jA,jK] at this
   omega
  have hcut:pre++(a::cutP 47 r)=cutP 47 s.data.toList:=by rw [<-A.o.2.2,ht,cutP_append _ _ _ hno]
  obtain ⟨fn,tmps,assign,body,hy,hR⟩:=HY.o pre a wr A.o.2.1 (by rw [<-hcut];simp)
  have hR':Aside (RoundIn Fence.wide (n - 1) prog l fn tmps assign body wr fun e W'=>(e= .returned (.bool true)/\J (pre++ [a]) W'/\KeepS (splS B) wr W')\/(e= .returned (.bool false)/\Jx (pre++ [a]) W')):=hR
  have efrag:t.extract 0 a.length=⟨a.toArray⟩:=by
   apply ByteArray.ext
   apply Array.toList_inj.1
   simp [ht]
  have erest:t.extract (a.length+1) t.size=⟨r.toArray⟩:=by
   apply ByteArray.ext
   apply Array.toList_inj.1
   rw [hlen]
   simp [ht]
  have p1:(0:Int)<=(a.length:Int):=zi
  have p2:(a.length:Int)<=(t.size:Int):=zi
  have p3:(a.length:Int)+1<=(t.size:Int):=zi
  have w0:IntKind.i64.wrap ((a.length:Int)+0)=(a.length:Int):=zq
  have w1:IntKind.i64.wrap ((a.length:Int)+1)=(a.length:Int)+1:=zq
  have d0:decide ((a.length:Int)<0)=false:=zm
  have HA:Aside (t.data.toList=a++47::r/\t.size=a.length+1+r.length/\pre++(a::cutP 47 r)=cutP 47 s.data.toList):=⟨ht,hlen,hcut⟩
  clear hR ht hlen hcut hi hno
  gi_wp2_with (refine ⟨trivial,?_⟩;gi_at_call 214;refine ((callsIn_wide (n:=n - 1)).2 hidx).mono ?_;rintro e w' ⟨rfl,rfl⟩)
  refine hR'.o.mono ?_
  clear hR' hy c0 c1 c2
  rintro e W3 (⟨rfl,hJ3,hk3⟩ | ⟨rfl,hJx3⟩)
  ·have S3:=A.o.1.keep hk3
   have c0:=S3.txt.cell
   have c1:=S3.sep.cell
   have f0:=S3.txt.frozen
   have H3:Aside (SplAt B m t W3/\J (pre++ [a]) W3):=⟨S3,hJ3⟩
   clear S3 hJ3 hk3
   gi_wp2
   gi_roundg r.length
   case measure=>have:=HA.o.2.1;omega
   case rel=>
    have er:(⟨r.toArray⟩:ByteArray).size=r.length:=by simp [ByteArray.size]
    refine ⟨⟨r.toArray⟩,pre++ [a],zi,by have:=HA.o.2.1;omega,H3.o.1.set hB _,HJ.o _ W3 _ (some B) H3.o.2 (grownBy_setCell' W3 B _) (fun q e=>by cases e;rfl),?_⟩
    rw [<-HA.o.2.2,jR]
    rfl
  gi_wp2
  refine bodyPost_ret (results_none rfl _ _ _) rfl ?_
  exact ⟨⟨_,rfl⟩,.inr ⟨_,⟨cutP 47 r,by rw [<-HA.o.2.2,jR];rfl⟩,hJx3⟩⟩
theorem split_seq (n:Nat) (hn:1<=n) (B:Nat) (m:Int) (hB:B≠13) (s:ByteArray) (hs:s.size<=1000000) (w:World) (h:SplAt B m s w):
  SeqM n prog 212 #[.pointer (some ⟨B+1,0,none⟩),.pointer (some ⟨B,0,none⟩),.pointer (some ⟨B+1+1,0,none⟩)] (fun r=>r=B) (fun x:List UInt8=>.string ⟨x.toArray⟩) (KeepS (splS B)) (fun xs=>xs=cutP 47 s.data.toList) (fun pre=>∃rest,pre++rest=cutP 47 s.data.toList) (cutP 47 s.data.toList).length w:=fun l J Jx W hW hJ _ hY h0=>by
 refine split1_in n hn l B m hB s hs J Jx hJ hY W (h.keep fun k hk=>hW.block k ?_) h0
 rcases hk with rfl | rfl | rfl | rfl
 ·exact h.txt.lt
 ·exact h.sep.lt
 ·exact h.num.lt
 exact jl w ⟨13,0,none⟩ h.max
theorem splitSeq_any (w:World) (s:ByteArray):Calls prog 91 #[.string s,.string ⟨#[47]⟩] w fun e w'=>e= .returned (.func (.func 212) #[] #[.pointer (some ⟨w.heap.size+1,0,none⟩),.pointer (some ⟨w.heap.size,0,none⟩),.pointer (some ⟨w.heap.size+1+1,0,none⟩)])/\w'=((w.alloc (.cells #[.string s] 9)).alloc (.cells #[.string ⟨#[47]⟩] 9)).alloc (.cells #[.int .i64 0] 3):=by
 have h1:Calls prog 161 #[.string s,.string ⟨#[47]⟩,.int .i64 0] w fun e w'=>e= .returned (.func (.func 212) #[] #[.pointer (some ⟨w.heap.size+1,0,none⟩),.pointer (some ⟨w.heap.size,0,none⟩),.pointer (some ⟨w.heap.size+1+1,0,none⟩)])/\w'=((w.alloc (.cells #[.string s] 9)).alloc (.cells #[.string ⟨#[47]⟩] 9)).alloc (.cells #[.int .i64 0] 3):=by
  go_enter func161,ntmps161
  go_wp2
  go_ret
  exact ⟨rfl,rfl⟩
 go_enter func91,ntmps91
 go_wp2_with fail
 refine h1.mono ?_
 clear h1
 rintro e w' ⟨rfl,rfl⟩
 go_wp2
 go_ret
 exact ⟨rfl,rfl⟩
end
section
open Go.RowKit Go.Lib Go.Sort Go.Maps
open scoped Classical
theorem up_stops (n:Nat) (hn:1<=n) (B1 B2 bt bm nn:Nat) (f:Sta) (node:Int) (L:List Plc) (hup:UpL f node L) (G:Good f) (hwf:Wf node) (S:Nat->Prop) (h1S:S B1) (h2S:S B2) (h3S:S bt) (h4S:S bm) (w:World) (hS:∀k,S k->k<w.heap.size)
  (c1:w.cell? ⟨B1,0,none⟩=some (.pointer (some ⟨bt,0,none⟩))) (c2:w.cell? ⟨B2,0,none⟩=some (.int .i64 node)) (ct:w.cell? ⟨bt,0,none⟩=some (.map (some bm))) (hm:MapAt prog 3 w bm nn f):
  SeqStopsK Fence.wide n prog 162 #[.pointer (some ⟨B1,0,none⟩),.pointer (some ⟨B2,0,none⟩)] (fun x:Nat=> #[encP (L.getD x zeroP)]) (KeepUp S) (fun ys=>ys=List.range L.length) (fun pre=>∃k,k<=L.length/\pre=List.range k) L.length w:=fun l J Jx W hW hJ _ hY h0=>
 up1_in n hn l B1 B2 bt bm nn f node L hup G hwf S h1S h2S h3S h4S J Jx hY W hJ (fun k hk=>jE (hS k hk) hW.size) ((hW.cell (p:=⟨B1,0,none⟩) (hS _ h1S)).trans c1) ((hW.cell (p:=⟨B2,0,none⟩) (hS _ h2S)).trans c2) ((hW.cell (p:=⟨bt,0,none⟩) (hS _ h3S)).trans ct) (hm.same (hW.block bm (hS _ h4S))) h0
theorem upward_any (w:World) (bt:Nat) (node:Int):Calls prog 97 #[.pointer (some ⟨bt,0,none⟩),.int .i64 node] w fun e w'=>e= .returned (.func (.func 162) #[] #[.pointer (some ⟨w.heap.size,0,none⟩),.pointer (some ⟨w.heap.size+1,0,none⟩)])/\w'=(w.alloc (.cells #[.pointer (some ⟨bt,0,none⟩)] 66)).alloc (.cells #[.int .i64 node] 3):=by
 go_enter func97,ntmps97
 go_wp2
 go_ret
 exact ⟨rfl,rfl⟩
theorem path_root (w:World) (br:Nat):Calls prog 37 #[.pointer (some ⟨br,0,none⟩),.int .i64 0] w fun e w'=>e= .returned (.tuple #[.string ⟨#[47]⟩,.bool true])/\w'=w:=by
 go_enter func37,ntmps37
 go_wp2
 go_ret2
 exact ⟨rfl,rfl⟩
theorem path_out (w:World) (br bt bm n:Nat) (v:Value) (f:Sta) (h:ViewAt w br bt bm n v f) (node:Int) (hwf:Wf node) (h0:node≠0) (hout:¬Ins f node 0):
  Calls prog 37 #[.pointer (some ⟨br,0,none⟩),.int .i64 node] w fun e w'=>e= .returned (.tuple #[.string ⟨#[]⟩,.bool false])/\Below w.heap.size w w':=by
 have h1:=treeOf_any w br bt bm n v f h
 have h2:=insideV w br bt bm n v f h node 0 hwf
 rw [decide_eq_false hout] at h2
 have d0:(node==0)=false:=qP
 clear h hout hwf h0
 go_enter func37,ntmps37
 go_wp2_with fail
 refine h1.mono ?_
 clear h1
 rintro e w1 ⟨rfl,hw⟩
 obtain rfl:=hw.symm
 clear hw
 go_wp2_with fail
 refine h2.mono ?_
 clear h2
 rintro e w2 ⟨rfl,hb⟩
 go_wp2
 go_ret2
 exact ⟨rfl,hb⟩
end
section
open Go.RowKit Go.Lib Go.Sort
def encEV (e:Enx):Value:=.agg #[.string e.1,.int .i64 e.2]
def EnsIn (w:World) (ao:Option Addr) (es:List Enx):Prop:=es= []\/∃g off,ao=some ⟨g,off,none⟩/\∀j u,(flat encEn es)[j]? =some u->w.cell? ⟨g,off+j,none⟩=some u
theorem EnsIn.later (h:EnsIn w ao es) (hb:Below w.heap.size w w'):EnsIn w' ao es:=by
 rcases h with h | ⟨g,o,h1,h2⟩
 ·exact .inl h
 exact .inr ⟨g,o,h1,fun j u hj=>cellKept hb (h2 j u hj)⟩
theorem EnsAt.isIn (h:EnsAt w v es):∃ao cap,v= .slice ao es.length cap/\EnsIn w ao es:=by
 rcases h with ⟨h,e⟩ | ⟨g,cap,h,_,hc⟩
 ·exact ⟨none,0,by rw [h,e];rfl,.inl e⟩
 exact ⟨some ⟨g,0,none⟩,cap,h,.inr ⟨g,0,rfl,fun j u hj=>yD⟩⟩
theorem EnsIn.get (h:EnsIn w ao es) {p:Enx} (hk:es[k]? =some p):∃g off,ao=some ⟨g,off,none⟩/\w.cell? ⟨g,off+k*2,none⟩=some (.string p.1)/\w.cell? ⟨g,off+k*2+1,none⟩=some (.int .i64 p.2):=by
 rcases h with h | ⟨g,off,h1,h2⟩
 ·rw [h] at hk;simp at hk
 refine ⟨g,off,h1,?_,?_⟩
 ·exact h2 (k*2) _ (by have:=flat_get encEn_len hk (c:=0) zi;rw [vk] at this;rw [this];rfl)
 rw [vG];exact h2 (k*2+1) _ (by rw [flat_get encEn_len hk zi];rfl)
def PredE (g:Nat) (lb:Array Value) (xs:List Enx) (p:Enx->Bool) (base:Nat) (w:World):Prop:=
 ∀(W:World) (x:Enx),x∈xs->Below base w W->Calls prog g (#[encEV x]++lb) W fun e w'=>e= .returned (.bool (p x))/\Below W.heap.size W w'
def IdxE (p:Enx->Bool) (zs:List Enx) (r:Int):Prop:=
 (r= -1/\∀x∈zs,p x=false)\/∃k x,r=((k:Nat):Int)/\zs[k]? =some x/\p x=true/\∀j y,j<k->zs[j]? =some y->p y=false
theorem idxEn_any (p:Enx->Bool) (g:Nat) (lb:Array Value) (eg:∀args w,(callFunc g args).run prog w= .ok (.enter g args) w) (ao:Option Addr) (cap base:Nat) (zs:List Enx) (w:World) (hbase:base<=w.heap.size) (hp:PredE g lb zs p base w) (hbig:zs.length<=1000000) (hin:EnsIn w ao zs):
  Calls prog 92 #[.slice ao zs.length cap,.func (.func g) #[] lb] w fun e w'=>∃r:Int,e= .returned (.int .i64 r)/\Aside (IdxE p zs r/\Below w.heap.size w w'):=by
 have HP:Aside (PredE g lb zs p base w/\base<=w.heap.size):=⟨hp,hbase⟩
 have HI:Aside (EnsIn w ao zs):=hin
 clear hp hin hbase
 go_enter func92,ntmps92
 go_wp2
 go_loopg [5,8] zs.length (fun kx _ s8 wr=>∃(k:Nat),s8= .int .i64 (k:Int)/\k<=zs.length/\zs.length - k<=kx/\Aside (Below w.heap.size w wr/\∀j l,j<k->zs[j]? =some l->p l=false))
 case atStart=>exact ⟨0,rfl,js _,jj _,⟨jo _ w,fun j l hj=>zi⟩⟩
 case round=>
  obtain ⟨k,rfl,hk,hkx,A⟩:=hrel
  by_cases hlt:k<zs.length
  ·have hltz:decide ((k:Int)<(zs.length:Int))=true:=by simp;omega
   have ek:((k:Int)).toNat=k:=zi
   have pk:(0:Int)<=(k:Int):=zi
   have bk:(k:Int)<(zs.length:Int):=zi
   obtain ⟨⟨s,nd⟩,hl⟩:∃l,Aside (zs[k]? =some l):=⟨zs[k],ji hlt⟩
   obtain ⟨blk,off,hao,r0,r1⟩:=(HI.o.later A.o.1).get hl.o
   subst hao
   dsimp only at r0 r1
   have hcall:=HP.o.1 wr (s,nd) (jm hl.o) (A.o.1.mono HP.o.2)
   unfold encEV at hcall
   dsimp only at hcall
   cases hq:p (s,nd) with
   | true=>
    rw [hq] at hcall
    have HQ:=Lib.hid hq
    clear hq
    go_wp2_with (go_at_fn g;refine hcall.mono ?_;rintro e w' ⟨rfl,hb'⟩)
    go_ret
    exact ⟨_,rfl,.inr ⟨k,_,rfl,hl.o,HQ.o,A.o.2⟩,zh A.o.1 hb'⟩
   | false=>
    rw [hq] at hcall
    have HQ:=Lib.hid hq
    clear hq
    go_wp2_with (go_at_fn g;refine hcall.mono ?_;rintro e w' ⟨rfl,hb'⟩)
    go_roundg (zs.length - (k+1))
    case measure=>omega
    case rel=>
     refine ⟨k+1,zw,zi,jj _,⟨zh A.o.1 hb',fun j l hj e=> ?_⟩⟩
     rcases vh j k with h | h
     ·exact A.o.2 j l h e
     obtain rfl:j=k:=zi
     rw [hl.o] at e
     cases e
     exact HQ.o
  have hltz:decide ((k:Int)<(zs.length:Int))=false:=zk
  go_wp2
  go_ret
  refine ⟨_,rfl,.inl ⟨rfl,fun l hl=> ?_⟩,A.o.1⟩
  obtain ⟨j,hj,rfl⟩:=jU hl
  exact A.o.2 j _ zi (ji hj)
theorem named_any (W:World) (B:Nat) (q:Enx) (nm:ByteArray) (hB:W.cell? ⟨B,0,none⟩=some (.string nm)):
  Calls prog 93 (#[encEV q]++ #[.pointer (some ⟨B,0,none⟩)]) W fun e w'=>e= .returned (.bool (decide (q.1=nm)))/\Below W.heap.size W w':=by
 obtain ⟨s,n⟩:=q
 have hlt:=jl W ⟨B,0,none⟩ hB
 have g0:=fun o=>cellKept ((jo _ W).alloc ze o) hB
 have e0:=strEq s nm
 clear hB
 unfold encEV
 dsimp only at hlt |-
 rw [<-e0]
 clear e0
 go_enter func93,ntmps93
 go_wp2
 go_ret
 exact ⟨rfl,zg W _⟩
end
section
open Go.RowKit Go.Lib Go.Sort Go.Maps
open scoped Classical
def LeadsTo (qs:List Plc) (a:Int) (nm:List UInt8) (b:Int):Prop:=∃es k e,IsEnt qs a es/\es[k]? =some e/\e.1.data.toList=nm/\(∀(j:Nat) y,j<k->es[j]? =some y->y.1.data.toList≠nm)/\e.2=b
def NoLead (qs:List Plc) (a:Int) (nm:List UInt8):Prop:=∃es,IsEnt qs a es/\∀e∈es,e.1.data.toList≠nm
def WalkTo (qs:List Plc):Int->List (List UInt8)->Int->Prop
 | a,[],b=>a=b
 | a,nm::r,b=>∃c,LeadsTo qs a nm c/\WalkTo qs c r b
theorem WalkTo.snoc {qs:List Plc} :∀ {pre:List (List UInt8)} {a b c:Int} {nm:List UInt8},WalkTo qs a pre b->LeadsTo qs b nm c->WalkTo qs a (pre++ [nm]) c
 | [],a,b,c,nm,h,k=>⟨c,by rw [show a=b from h];exact k,rfl⟩
 | x::pre,a,b,c,nm,⟨d,h1,h2⟩,k=>⟨d,h1,h2.snoc k⟩
theorem find_bare (w:World) (br:Nat) (path:ByteArray) (h:Lib.hasPrefix path.data.toList [47]=false):
  Calls prog 33 #[.pointer (some ⟨br,0,none⟩),.string path] w fun e w'=>e= .returned (.tuple #[.int .i64 0,.bool false])/\Below w.heap.size w w':=by
 have hc:=fun u=>Tryz.strings_CutPrefix path ⟨#[47]⟩ u
 have e47:(⟨#[47]⟩:ByteArray).data.toList= [47]:=rfl
 rw [e47,h] at hc
 clear e47 h
 go_enter func33,ntmps33
 go_wp2_with fail
 refine (hc _).mono ?_
 clear hc
 rintro e w1 ⟨rfl,rfl⟩
 go_wp2
 refine bodyPost_ret (v:=.tuple #[.int .i64 0,.bool false]) (by simp [results,f33,go_sem]) rfl ⟨rfl,(zg w _).alloc zm _⟩
theorem find_root (w:World) (br:Nat) (path:ByteArray) (h:path.data.toList= [47]):
  Calls prog 33 #[.pointer (some ⟨br,0,none⟩),.string path] w fun e w'=>e= .returned (.tuple #[.int .i64 0,.bool true])/\Below w.heap.size w w':=by
 have hc:=fun u=>Tryz.strings_CutPrefix path ⟨#[47]⟩ u
 have e47:(⟨#[47]⟩:ByteArray).data.toList= [47]:=rfl
 rw [e47,h,show Lib.hasPrefix [47] [47]=true by decide,show Lib.trimPrefix [47] [47]= [] by decide] at hc
 clear e47 h
 go_enter func33,ntmps33
 go_wp2_with fail
 refine (hc _).mono ?_
 clear hc
 rintro e w1 ⟨rfl,rfl⟩
 go_wp2
 refine bodyPost_ret (v:=.tuple #[.int .i64 0,.bool true]) (by simp [results,f33,go_sem]) rfl ⟨rfl,((zg w _).alloc zm _).alloc zk _⟩
end
section
open Go.RowKit Go.Lib Go.Sort Go.Maps
structure EnvT (B:Nat) (ad:Nat->Addr) (w:World):Prop where
 env:EnvE B ad w
 tab:Lib.TabBelow prog B w "internal/strconv.uint64pow10" .u64 Lib.pow10Tab
theorem EnvT.mono {B:Nat} {ad:Nat->Addr} {w w':World} (h:EnvT B ad w) (hb:Below B w w'):EnvT B ad w':=⟨h.env.mono hb,fun w'' h'=>h.tab w'' (hb.trans h')⟩
theorem EnvT.later (h:EnvT B ad w) (hb:Below w.heap.size w w'):EnvT B ad w':=h.mono (hb.mono h.env.size)
theorem EnvT.up (h:EnvT B ad w) (hB:B<=B') (hs:B'<=w.heap.size):EnvT B' ad w:=
 ⟨⟨h.env.op4,h.env.c5,h.env.c6,h.env.c7,h.env.c8,h.env.c9,jw h.env.low hB,hs⟩,fun w' h'=>h.tab w' (h'.mono hB)⟩
theorem EnvT.is (h:EnvT B ad w):Lib.TabIs prog w "internal/strconv.uint64pow10" .u64 Lib.pow10Tab:=h.tab w (jo _ w)
theorem RepOwn.below {B:Nat} {w w':World} {c c':Nat->Nat} {br:Nat} {by_:Int} {R:Rws} (h:RepOwn B w c br by_ R) (ha:Acts w c w' c') (hB:B<=w.heap.size):Below B w w':=ha.keeps.below hB (fun k hk=>h.low k hk)
theorem RepOwn.down (h:RepOwn B w c br by_ R) (hB:B'<=B):RepOwn B' w c br by_ R:=⟨h.rep,fun k hk=>jw hB (h.low k hk),h.high⟩
theorem RepAt.rows (h:RepAt w c br by_ R):RowsK R:=xN
theorem RepOwn.other {c1 c1':Nat->Nat} (h:RepOwn B w c br by_ R) (ha:Acts w c1 w' c1') (hd:∀k,c1 k=0\/c k=0):RepOwn B w' c br by_ R/\∀k,c1' k=0\/c k=0:=by
 refine ⟨⟨h.rep.kept (fun i hi=>⟨fun k hk e=>ha.keeps.block k hk (fun q=> ?_),fun _ _=>rfl⟩),h.low,fun k hk=>h.high k (jw ha.keeps.size hk)⟩,fun k=> ?_⟩
 ·rcases hd k with e1 | e1
  ·exact q e1
  rw [e1] at e;exact hi e.symm
 by_cases hk:k<w.heap.size
 ·rw [ha.hue k hk];exact hd k
 exact .inr (h.high k zi)
structure Folk (B:Nat) (w:World) (n:Nat) (c:Nat->Nat->Nat) (br:Nat->Nat) (by_:Nat->Int) (R:Nat->Rws):Prop where
 rep:∀r,r<n->RepOwn B w (c r) (br r) (by_ r) (R r)
 apart:∀r,r<n->∀s,s<n->r≠s->∀k,c r k=0\/c s k=0
theorem Folk.none (B:Nat) (w:World) (c:Nat->Nat->Nat) (br:Nat->Nat) (by_:Nat->Int) (R:Nat->Rws):Folk B w 0 c br by_ R:=⟨fun r hr=>absurd hr zi,fun r hr=>absurd hr zi⟩
theorem Folk.later {B:Nat} {w w':World} {n:Nat} {c:Nat->Nat->Nat} {br:Nat->Nat} {by_:Nat->Int} {R:Nat->Rws} (h:Folk B w n c br by_ R) (hb:Below w.heap.size w w'):Folk B w' n c br by_ R:=⟨fun r hr=>(h.rep r hr).later hb,h.apart⟩
def setAt {α:Type} (f:Nat->α) (a:Nat) (x:α):Nat->α:=fun r=>if r=a then x else f r
theorem setAt_is {α:Type} (f:Nat->α) (a:Nat) (x:α):setAt f a x a=x:=if_pos rfl
theorem setAt_ne {α:Type} (f:Nat->α) {r:Nat} (x:α) (h:r≠a):setAt f a x r=f r:=if_neg h
theorem Folk.act {c:Nat->Nat->Nat} {br:Nat->Nat} {by_:Nat->Int} {R:Nat->Rws} (h:Folk B w n c br by_ R) (ha:a<n) (hA:Acts w (c a) w' c') (hR:RepOwn B w' c' (br a) (by_ a) R'):Folk B w' n (setAt c a c') br by_ (setAt R a R'):=by
 refine ⟨fun r hr=> ?_,fun r hr s hs hrs=> ?_⟩
 ·by_cases e:r=a
  ·subst e;rw [setAt_is,setAt_is];exact hR
  rw [setAt_ne _ _ e,setAt_ne _ _ e];exact ((h.rep r hr).other hA (h.apart a ha r hr (fun q=>e q.symm))).1
 by_cases e:r=a
 ·subst e
  have e':s≠r:=fun q=>hrs q.symm
  rw [setAt_is,setAt_ne _ _ e']
  exact ((h.rep s hs).other hA (h.apart r ha s hs hrs)).2
 rw [setAt_ne _ _ e]
 by_cases e':s=a
 ·subst e'
  rw [setAt_is]
  exact fun k=>(((h.rep r hr).other hA (h.apart s hs r hr (fun q=>e q.symm))).2 k).symm
 rw [setAt_ne _ _ e']
 exact h.apart r hr s hs hrs
theorem Folk.add {c:Nat->Nat->Nat} {br:Nat->Nat} {by_:Nat->Int} {R:Nat->Rws} (h:Folk B w n c br by_ R) (hB:B<=w.heap.size) {c0:Nat->Nat} {br0:Nat} {b:Int} {R0:Rws} (h0:RepOwn w.heap.size w' c0 br0 b R0) (hb:Below w.heap.size w w'):Folk B w' (n+1) (setAt c n c0) (setAt br n br0) (setAt by_ n b) (setAt R n R0):=by
 have off:∀r,r<n->∀k,c r k=0\/c0 k=0:=fun r hr k=>by
  by_cases hk:k<w.heap.size
  ·right
   by_cases e:c0 k=0
   ·exact e
   have:=h0.low k e;omega
  exact .inl ((h.rep r hr).high k zi)
 refine ⟨fun r hr=> ?_,fun r hr s hs hrs=> ?_⟩
 ·by_cases e:r=n
  ·subst e;simp only [setAt_is];exact h0.down hB
  rw [setAt_ne _ _ e,setAt_ne _ _ e,setAt_ne _ _ e,setAt_ne _ _ e];exact (h.later hb).rep r zi
 by_cases e:r=n
 ·subst e
  rw [setAt_is,setAt_ne _ _ (fun q=>hrs q.symm)]
  exact fun k=>(off s zi k).symm
 rw [setAt_ne _ _ e]
 by_cases e':s=n
 ·subst e';rw [setAt_is];exact off r zi
 rw [setAt_ne _ _ e'];exact h.apart r zi s zi hrs
theorem RepOwn.wellK (h:RepOwn B w c br by_ R):RowsK R:=h.rep.rows
theorem RepAt.time {w:World} {c:Nat->Nat} {br:Nat} {by_:Int} {R:Rws} (h:RepAt w c br by_ R):∃T kv bt bx bc A,RepMid w c br T by_ kv bt bx bc R A/\A.Perm (allR R)/\timeO (allR R) T:=by
 obtain ⟨T,kv,bt,bx,bc,A,h1,h2,_⟩:=h
 exact ⟨T,kv,bt,bx,bc,A,h1,h2,⟨fun x hx=>h1.time.1 x (h2.mem_iff.2 hx),h1.time.2.1.imp id (fun ⟨x,hx,e⟩=>⟨x,h2.mem_iff.1 hx,e⟩),h1.time.2.2⟩⟩
theorem ops_in {xs:List OpX} (h:OpsAt w v xs):∃ao cap,v= .slice ao xs.length cap/\OpsIn w ao xs:=by
 rcases h with ⟨rfl,rfl⟩ | ⟨b,o,cp,rfl,hc⟩
 ·exact ⟨none,0,rfl,.inl rfl⟩
 exact ⟨some ⟨b,o,none⟩,cp,rfl,.inr ⟨b,o,rfl,hc⟩⟩
end
section
open Go.RowKit Go.Lib Go.Sort Go.Maps
open scoped Classical
theorem sized_ok {l:List OpX} (h:∀x∈l,errO x=0):Sized l:=fun x hx=>by
 have q:=opE_zero (h x hx)
 have l1:x.2.2.2.2.2.2.1.data.toList.length=x.2.2.2.2.2.2.1.size:=zm
 have l2:x.2.2.2.2.2.2.2.data.toList.length=x.2.2.2.2.2.2.2.size:=zm
 omega
def JoinedOut (B:Nat) (w:World) (c:Nat->Nat) (br:Nat) (by_:Int) (R:Rws) (l:List OpX) (e:Ending) (w':World):Prop:=∃(n:Nat) (c':Nat->Nat) (R':Rws),e= .returned (.tuple #[.int .i64 (n:Int),.nilIface])/\Acts w c w' c'/\RepOwn B w' c' br by_ R'/\(∀x,x∈allR R'↔x∈allR R\/x∈l)/\(allR R').length=(allR R).length+n
theorem perm_len {F:List OpX} (hR:RowsK R) (hR':RowsK R') (hF:FreshK (allR R) F) (hm:∀x,x∈allR R'↔x∈allR R++F):(allR R').length=(allR R).length+F.length:=by
 have n1:=hR'.num.nodup
 have n2:(allR R++F).Nodup:=by
  rw [vz]
  refine ⟨hR.num.nodup,hF.one.imp (fun {a b} h e=>h (by rw [e];exact ⟨rfl,rfl⟩)),fun a ha b hb e=> ?_⟩
  subst e
  exact hF.off a hb a ha ⟨rfl,rfl⟩
 have a1:=len_sub n1 (fun x hx=>(hm x).1 hx)
 have a2:=len_sub n2 (fun x hx=>(hm x).2 hx)
 rw [jA] at a1 a2
 omega
theorem joined (w:World) (c:Nat->Nat) (br:Nat) (by_:Int) (R:Rws) (la:Option Addr) (lc:Nat) (T l:List OpX) (h:RepOwn B w c br by_ R) (hE:EnvT B ad w) (hin:OpsIn w la l) (hT:WellK T) (hc:Compat (allR R) T) (hl:∀x,x∈l->x∈T) (hl2:∀x,x∈T->x∈allR R\/x∈l) (hn:(allR R).length+l.length<=140):
  Calls prog 10 #[.pointer (some ⟨br,0,none⟩),.slice la l.length lc] w (JoinedOut B w c br by_ R l):=by
 obtain ⟨fresh,h1,h2,h3,h4⟩:=join_part h.wellK hT hc hl hl2 zi
 refine (join_any w c br by_ R la lc l h hE.env hin (sized_ok (fun x hx=>hT.ok x (hl x hx))) hn).mono ?_
 rintro e w' ⟨a,c',hj,hA,hm⟩
 rw [h1 a hj] at hm
 obtain ⟨he,R',hR',hmem⟩:=hm
 refine ⟨fresh.length,c',R',he,hA,hR',fun x=> ?_,perm_len h.wellK hR'.wellK h2 hmem⟩
 rw [hmem x,h3 x]
 constructor
 ·rintro (q | q)
  ·exact .inl q
  exact hl2 x q
 rintro (q | q)
 ·exact .inl q
 exact .inr (hl x q)
theorem joined_own {B:Nat} {ad:Nat->Addr} (w:World) (c:Nat->Nat) (br:Nat) (i:Nat) (R:Rws) (la:Option Addr) (lc:Nat) (T:Int) (x:OpX) (h:RepOwn B w c br (i:Int) R) (hE:EnvT B ad w) (hi:i<4) (hin:OpsIn w la [x]) (hx:NextOp R i T x) (hT:∀y∈allR R,y.1<=T) (hn:(allR R).length<=130):
  Calls prog 10 #[.pointer (some ⟨br,0,none⟩),.slice la 1 lc] w fun e w'=>∃(c':Nat->Nat) (R':Rws),e= .returned (.tuple #[.int .i64 1,.nilIface])/\Acts w c w' c'/\RepOwn B w' c' br (i:Int) R'/\(∀y,y∈allR R'↔y=x\/y∈allR R)/\(allR R').length=(allR R).length+1:=by
 have hw:=hx.well h.wellK hi hT
 have hxn:x∉allR R:=fun q=>by have:=hw.2 x q rfl;omega
 refine (joined w c br (i:Int) R la lc (x::allR R) [x] h hE hin hw.1 (compat_own hx h.wellK hi hT) (fun y hy=>by simp at hy;rw [hy];exact jM) (fun y hy=>by rcases jn.1 hy with q | q;exact .inr (by simp [q]);exact .inl q) zk).mono ?_
 rintro e w' ⟨n,c',R',he,hA,hR',hm,hlen⟩
 have hm':∀y,y∈allR R'↔y=x\/y∈allR R:=fun y=>by rw [hm y];simp only [jD];exact Or.comm
 have n1:n=1:=by
  have a1:=len_sub hR'.wellK.num.nodup (H:=x::allR R) (fun y hy=>by rcases (hm' y).1 hy with q | q;exact jn.2 (.inl q);exact jv _ q)
  have a2:=len_sub (l:=x::allR R) (H:=allR R') (List.nodup_cons.2 ⟨hxn,h.wellK.num.nodup⟩) (fun y hy=>(hm' y).2 (jn.1 hy))
  rw [jK] at a1 a2
  omega
 subst n1
 exact ⟨c',R',he,hA,hR',hm',hlen⟩
end
section
open Go.RowKit Go.Lib Go.Sort Go.Maps
open scoped Classical
def x0:OpX:=(1,2,1,109,6,0,⟨#[97]⟩,⟨#[]⟩)
