import Derived.Test.YtpdbnnimdkfajaaGreatDoorVS02
import Derived.Test.YtpdbnnimdkfajaaGreatDoorVS03
import Derived.RangeFuncNested
import Derived.OwnWalkIn
import Derived.TacticsInMore
import Derived.LoopNIn
import Derived.LoopIn
import Derived.Shelf.Spec.SlicesInsertGrow
set_option linter.unusedSimpArgs false
set_option linter.unusedVariables false
set_option maxRecDepth 100000
set_option maxHeartbeats 64000000
section
namespace Go.Proofs.YtpdbnnimdkfajaaGreatDoor
open Go.Proofs.Tryz
open Go.RowKit Go.Shelf
variable {L:List Ent} {g h:Nat} {W:World}
attribute [local go_sem] Oper.semAt_some
def encE (x:Ent):List Value:=[.int .i64 x.1.1.1,.int .i64 x.1.1.2,.int .i64 x.1.2.1,.int .i64 x.1.2.2.1,.string x.1.2.2.2,.int .i64 x.2.1,.int .i64 x.2.2.1,.string x.2.2.2]
theorem encE_len (x:Ent):(encE x).length=8:=rfl
theorem encE_one (x:Ent):∀v∈encE x,v.oneCell'=true:=by
 intro v hv
 simp only [encE,jn,ui,or_false] at hv
 rcases hv with rfl | rfl | rfl | rfl | rfl | rfl | rfl | rfl<;>rfl
def zeroE:Ent:=(((0,0),zeroP),zeroP)
def entR (L:List Ent) (r:Nat):Ent:=L.getD (L.length - 1 - r) zeroE
def encR (L:List Ent) (r:Nat):Array Value:= #[.int .i64 ((L.length - 1 - r:Nat):Int),.agg #[.int .i64 (entR L r).1.1.1,.int .i64 (entR L r).1.1.2,.int .i64 (entR L r).1.2.1,.int .i64 (entR L r).1.2.2.1,.string (entR L r).1.2.2.2,.int .i64 (entR L r).2.1,.int .i64 (entR L r).2.2.1,.string (entR L r).2.2.2]]
def KeepTwo (g h:Nat) (W W':World):Prop:=W'.heap[g]? =W.heap[g]? /\W'.heap[h]? =W.heap[h]?
theorem KeepTwo.refl (g h:Nat) (W:World):KeepTwo g h W W:=⟨rfl,rfl⟩
theorem KeepTwo.trans {g h:Nat} {A B C:World} (x:KeepTwo g h A B) (y:KeepTwo g h B C):KeepTwo g h A C:=⟨y.1.trans x.1,y.2.trans x.2⟩
theorem KeepTwo.put {N:Nat} (hg:g<N) (hh:h<N) (W:World) (l:Nat) (o':Obj) (hl:N<=l):KeepTwo g h W (W.putObj l o'):=
 ⟨vL zi,vL zi⟩
def RowAt (W:World) (g off:Nat) (L:List Ent):Prop:=∀j u,(flat encE L)[j]? =some u->W.cell? ⟨g,off+j,none⟩=some u
theorem RowAt.same {W':World} {off:Nat} (h:RowAt W g off L) (e:W'.heap[g]? =W.heap[g]?):RowAt W' g off L:=fun j u hj=>by
 have:=h j u hj
 rw [<-this]
 exact jr (a:=⟨g,off+j,none⟩) e
theorem RowAt.at {off:Nat} (h:RowAt W g off L) {i:Nat} {x:Ent} (hx:L[i]? =some x) (c:Nat) {u:Value} (hu:(encE x)[c]? =some u):W.cell? ⟨g,off+i*8+c,none⟩=some u:=by
 have hc:c<8:=by have:=(jh.1 hu).1;rwa [encE_len] at this
 rw [vG]
 exact h _ u (by rw [flat_get encE_len hx hc];exact hu)
theorem back1_in (F:Fence) (n:Nat) (h7:F.fn 282) (hro:F.round=none) (hn:1<=n) (l Bs g off cap:Nat) (ao:Option Addr) (L:List Ent) (hlen:L.length<=1000) (hao:L= []\/ao=some ⟨g,off,none⟩) (J Jx:List Nat->World->Prop)
  (hY:∀pre x W,J pre W->pre.length<L.length->YieldAt F (n - 1) prog l (encR L x) W fun e W'=>
   (e= .returned (.bool true)/\J (pre++ [x]) W'/\KeepTwo g Bs W W')\/(e= .returned (.bool false)/\Jx (pre++ [x]) W'))
  (W:World) (hBs:W.cell? ⟨Bs,0,none⟩=some (.slice ao L.length cap)) (hc:RowAt W g off L) (h0:J [] W):
  CallsIn F n prog 282 #[.func (.yield l) #[] #[],.pointer (some ⟨Bs,0,none⟩)] W fun e W'=>(∃v,e= .returned v)/\
   ((∃ys,ys=List.range L.length/\J ys W')\/(∃pre,(∃k,k<=L.length/\pre=List.range k)/\Jx pre W')):=by
 refine callsIn_of_wp func282 rfl h7 ?_ hro
 simp only [ntmps282,jN,jK,vy,Nat.reduceAdd,Nat.reduceSub,vd,ve,vr,vj,vn,vp]
 have hw0:IntKind.i64.wrap ((L.length:Int) - 1)=(L.length:Int) - 1:=zq
 gi_wp2
 gi_loopw [3] (fun i wr=>∃k:Nat,k<=L.length/\i= .int .i64 ((L.length:Int) - 1 - k)/\J (List.range k) wr/\KeepTwo g Bs W wr)
  (fun i _=>(intOf i+1).toNat)
 case atStart=>exact ⟨0,js _,zm,h0,KeepTwo.refl _ _ _⟩
 case round=>
  obtain ⟨k,hk,rfl,hJs,hnx⟩:=hrel
  have hBs':wr.cell? ⟨Bs,0,none⟩=some (.slice ao L.length cap):=(jr (a:=⟨Bs,0,none⟩) hnx.2).trans hBs
  by_cases hlt:k<L.length
  ·have hao':ao=some ⟨g,off,none⟩:=hao.resolve_left (fun e=>by rw [e] at hlt;simp at hlt)
   subst hao'
   obtain ⟨fn,tmps,assign,body,hy,hR⟩:=hY _ k wr hJs (by rw [List.length_range];exact hlt)
   have hix:L[L.length - 1 - k]? =some (entR L k):=by
    unfold entR
    rw [vq,ji zi]
    rfl
   have hrow:=hc.same hnx.1
   obtain ⟨x,hx⟩:=za (entR L k)
   rw [<-hx] at hix
   obtain ⟨i,hi⟩:=za (L.length - 1 - k)
   have hil:(L.length:Int) - 1 - k=(i:Int):=zi
   have hilt:i<L.length:=zi
   unfold encR at hy
   rw [<-hx,<-hi] at hy
   rw [<-hi] at hix
   have c0:wr.cell? ⟨g,off+i*8,none⟩=some (.int .i64 x.1.1.1):=hrow.at hix 0 (u:=.int .i64 x.1.1.1) rfl
   have c1:=hrow.at hix 1 (u:=.int .i64 x.1.1.2) rfl
   have c2:=hrow.at hix 2 (u:=.int .i64 x.1.2.1) rfl
   have c3:=hrow.at hix 3 (u:=.int .i64 x.1.2.2.1) rfl
   have c4:=hrow.at hix 4 (u:=.string x.1.2.2.2) rfl
   have c5:=hrow.at hix 5 (u:=.int .i64 x.2.1) rfl
   have c6:=hrow.at hix 6 (u:=.int .i64 x.2.2.1) rfl
   have c7:=hrow.at hix 7 (u:=.string x.2.2.2) rfl
   rw [hil]
   have hw1:IntKind.i64.wrap ((i:Int) - 1)=(i:Int) - 1:=zq
   have hi0:(0:Int)<=(i:Int):=zi
   have hib:(i:Int)<(L.length:Int):=zi
   have HK:Aside (i=L.length - 1 - k/\k<L.length/\KeepTwo g Bs W wr):=⟨hi,hlt,hnx⟩
   have hR':Aside (RoundIn F (n - 1) prog l fn tmps assign body wr fun e W'=>(e= .returned (.bool true)/\J (List.range k++ [k]) W'/\KeepTwo g Bs wr W')\/(e= .returned (.bool false)/\Jx (List.range k++ [k]) W')):=hR
   clear hi hil hlt hk hix hx hR hrow hnx hJs hY h0
   gi_wp2
   refine hR'.o.mono ?_
   rintro e W3 (⟨rfl,hJ3,hk3⟩ | ⟨rfl,hJx3⟩)
   ·gi_wp2
    go_roundw
    case rel=>exact ⟨k+1,by have:=HK.o;omega,by have:=HK.o;congr 1;omega,by rw [uu];exact hJ3,HK.o.2.2.trans hk3⟩
    case measure=>have:=HK.o;simp [intOf]
   gi_wp2
   refine bodyPost_ret (results_none rfl _ _ _) rfl ?_
   exact ⟨⟨_,rfl⟩,.inr ⟨_,⟨k+1,by have:=HK.o;omega,(uu).symm⟩,hJx3⟩⟩
  obtain rfl:k=L.length:=zi
  gi_wp2
  go_end0
  exact ⟨⟨_,rfl⟩,.inl ⟨_,rfl,hJs⟩⟩
end Go.Proofs.YtpdbnnimdkfajaaGreatDoor
end
section
namespace Go.Proofs.YtpdbnnimdkfajaaGreatDoor
open Go
variable {a:Act} {l listed:Array Bool} {fuel i z:Nat} {oi:Oper} {v:Value} {w:World}
section
variable {P:Program} {ops:Array Oper} {Q:Exit→Act→World→Prop} {md:Region.Mode} {S:World→Prop} {z:Nat}
def waitsOn (md:Region.Mode) (ops:Array Oper) (z i:Nat):Bool:=match ops[z]? with
 | some oz=>oz.after.any fun e=>Region.binds md e &&e.on==i
 | none=>false
theorem waitsOn_spec (h:waitsOn md ops z i=true) {oz:Oper} (hz:ops[z]? =some oz):∃e∈oz.after,Region.binds md e=true/\e.on=i:=by
 unfold waitsOn at h
 rw [hz] at h
 obtain ⟨e,he,h2⟩:=Array.any_eq_true'.1 h
 rw [vK] at h2
 exact ⟨e,he,h2.1,by simpa using h2.2⟩
def wpAnyZ (P:Program) (md:Region.Mode) (ops:Array Oper) (Q:Exit->Act->World->Prop) (S:World->Prop) (z:Nat):Nat->Array Bool->Act->World->Prop
 | 0,listed,a,w=>Region.ready md ops listed= []/\Q .normal a w
 | fuel+1,listed,a,w=>
  (Region.ready md ops listed= []->Q .normal a w)/\
  ∀i∈Region.ready md ops listed,wpOp P ops Q i (fun a' w'=>(S w'\/(listed.setIfInBounds i true).getD z false=true)/\wpAnyZ P md ops Q S z fuel (listed.setIfInBounds i true) a' w') a w
theorem wpAny_of_Z:∀(fuel:Nat) (listed:Array Bool) (a:Act) (w:World),wpAnyZ P md ops Q S z fuel listed a w->wpAny P md ops Q fuel listed a w
 | 0,_,_,_,h=>h
 | fuel+1,_,_,_,h=>⟨h.1,fun i hi=>wpOp_mono (fun a' w' h'=>wpAny_of_Z fuel _ a' w' h'.2) (h.2 i hi)⟩
theorem getD_set_other (h:i≠z):(l.setIfInBounds i true).getD z false=l.getD z false:=by
 simp only [Array.getD_eq_getD_getElem?]
 rw [Array.getElem?_setIfInBounds_ne h]
theorem getD_set_some (h:l.getD z false=true):(l.setIfInBounds i true).getD z false=true:=by
 by_cases e:i=z
 ·subst e
  have hl:i<l.size:=by
   rcases vh i l.size with h' | h'
   ·exact h'
   simp [Array.getElem?_eq_none h'] at h
  simp [hl]
 rw [getD_set_other e];exact h
theorem wpAnyZ_first {T:World->Prop} (hiz:i≠z) (hi:ops[i]? =some oi) (hsel:∀(j:Nat) (o:Oper) cs b,ops[j]? =some o->o.op≠ .select cs b)
  (hQ:∀c a w,Q (.panic c) (a.put oi.dst v) w->Q (.panic c) a w) (hT:(∀w,T w)\/((∀w,S w->T w)/\waitsOn md ops z i=true)):
  ∀(fuel:Nat) (listed:Array Bool) (a:Act) (w:World),
   (∀j oj,ops[j]? =some oj->j≠i->listed.getD j true=false->(∀e∈oj.after,Region.binds md e=true->e.on≠i)->oi.apart ops oj=true)->
   i∈Region.ready md ops listed->YieldsIf P ops T oi v a->(S w\/listed.getD z false=true)->((∀w,T w)\/listed.getD z false=false)->
   wpAnyZ P md ops Q S z fuel (listed.setIfInBounds i true) (a.put oi.dst v) w->wpAnyZ P md ops Q S z (fuel+1) listed a w:=by
 have hTw:∀(listed:Array Bool) (w:World),(S w\/listed.getD z false=true)->((∀w,T w)\/listed.getD z false=false)->T w:=fun listed w h1 h2=>by
  rcases hT with hT | hT
  ·exact hT w
  rcases h2 with h2 | h2
  ·exact h2 w
  rcases h1 with h1 | h1
  ·exact hT.1 w h1
  rw [h2] at h1;cases h1
 intro fuel
 induction fuel with
 | zero=>
  intro listed a w _ hr hy hS hz H
  refine ⟨fun h=>(by rw [h] at hr;cases hr),fun j hj=> ?_⟩
  by_cases hji:j=i
  ·subst hji;exact hy.wpOp hi (hTw listed w hS hz) ⟨hS.imp id getD_set_some,H⟩
  have:=ready_mono hj hji
  rw [H.1] at this
  cases this
 | succ fuel ih=>
  intro listed a w hfree hr hy hS hz H
  refine ⟨fun h=>(by rw [h] at hr;cases hr),fun j hj=> ?_⟩
  by_cases hji:j=i
  ·subst hji;exact hy.wpOp hi (hTw listed w hS hz) ⟨hS.imp id getD_set_some,H⟩
  have h1:=H.2 j (ready_mono hj hji)
  obtain ⟨hjun,oj,hoj,hall⟩:=mem_ready.1 hj
  have hnot:∀e∈oj.after,Region.binds md e=true->e.on≠i:=fun e he hb heq=>by
   have h1:=hall e he hb
   have h0:=(mem_ready.1 hr).1
   rw [heq] at h1
   rcases vh i listed.size with h' | h'
   ·simp [h'] at h0 h1;rw [h0] at h1;cases h1
   simp [Array.getElem?_eq_none h'] at h1
  have hz':(∀w,T w)\/(listed.setIfInBounds j true).getD z false=false:=by
   rcases hT with hT | ⟨_,hw⟩
   ·exact .inl hT
   rcases hz with hz | hz
   ·exact .inl hz
   right
   rw [getD_set_other]
   ·exact hz
   intro e
   subst e
   obtain ⟨x,hx,hb,ho⟩:=waitsOn_spec hw hoj
   exact hnot x hx hb ho
  have h2:=wpOp_putIf hoj (hfree j oj hoj hji hjun hnot) (fun cs b=>hsel i oi cs b hi) (fun cs b=>hsel j oj cs b hoj) hQ hy h1
  have hfree':∀k ok,ops[k]? =some ok->k≠i->(listed.setIfInBounds j true).getD k true=false->
    (∀e∈ok.after,Region.binds md e=true->e.on≠i)->oi.apart ops ok=true:=fun k ok hk hki hun hno=>by
   refine hfree k ok hk hki ?_ hno
   by_cases hjk:j=k
   ·subst hjk;exact hjun
   rw [getD_set_ne true hjk] at hun;exact hun
  refine wpOp_mono (fun a' w' h3=> ?_) h2
  have hC:S w'\/(listed.setIfInBounds j true).getD z false=true:=h3.2.1.imp id (fun h=>by
   rw [Array.setIfInBounds_comm _ _ (Ne.symm hji),getD_set_other hiz] at h
   exact h)
  refine ⟨hC,ih (listed.setIfInBounds j true) a' w' hfree' (ready_mono hr (Ne.symm hji)) h3.1 hC hz' ?_⟩
  rw [Array.setIfInBounds_comm _ _ hji]
  exact h3.2.2
theorem wpAnyZ_take (hiz:i≠z) (hzz:waitsOn md ops z i=true) (hi:ops[i]? =some oi)
  (hs:Region.noSelect ops=true) (hf:Region.free md ops listed i=true) (hr:(Region.ready md ops listed).contains i=true) (hzl:listed.getD z false=false)
  (hQ:∀c a w,Q (.panic c) (a.put oi.dst v) w->Q (.panic c) a w) (hy:YieldsIf P ops S oi v a) (hS:S w)
  (h:wpAnyZ P md ops Q S z fuel (listed.setIfInBounds i true) (a.put oi.dst v) w):wpAnyZ P md ops Q S z (fuel+1) listed a w:=
 wpAnyZ_first hiz hi (Region.noSelect_spec hs) hQ (.inr ⟨fun _ h=>h,hzz⟩) fuel listed a w (Region.free_spec hi hf) (by simpa using hr) hy (.inl hS) (.inr hzl) h
theorem wpAnyZ_free (hiz:i≠z) (hi:ops[i]? =some oi)
  (hs:Region.noSelect ops=true) (hf:Region.free md ops listed i=true) (hr:(Region.ready md ops listed).contains i=true)
  (hQ:∀c a w,Q (.panic c) (a.put oi.dst v) w->Q (.panic c) a w) (hy:YieldsIf P ops (fun _=>True) oi v a) (hS:S w)
  (h:wpAnyZ P md ops Q S z fuel (listed.setIfInBounds i true) (a.put oi.dst v) w):wpAnyZ P md ops Q S z (fuel+1) listed a w:=
 wpAnyZ_first hiz hi (Region.noSelect_spec hs) hQ (.inl fun _=>trivial) fuel listed a w (Region.free_spec hi hf) (by simpa using hr) hy (.inl hS) (.inl fun _=>trivial) h
theorem wpAnyZ_one {o:Oper} (hr:Region.ready md ops listed= [i]) (ho:ops[i]? =some o)
  (h:∀K:Act->World->Prop,(∀a' w',(S w'\/i=z/\z<listed.size)->wpAnyZ P md ops Q S z fuel (listed.setIfInBounds i true) a' w'->K a' w')->if Region.wanted o (yielded ops a.tmps)=true then Oper.wp P o a w K Q else K (a.put o.dst undef) w):wpAnyZ P md ops Q S z (fuel+1) listed a w:=by
 refine ⟨fun h0=>yW,fun j hj=> ?_⟩
 rw [hr] at hj
 simp only [jD] at hj
 subst hj
 have:=h (fun a' w'=>(S w'\/(listed.setIfInBounds j true).getD z false=true)/\wpAnyZ P md ops Q S z fuel (listed.setIfInBounds j true) a' w') (fun a' w' h1 h2=>⟨h1.imp id (fun h=>by
  obtain ⟨e,hl⟩:=h
  subst e
  simp [hl]),h2⟩)
 unfold wpOp
 simp only [ho]
 split
 ·rename_i hw
  rw [if_pos hw] at this
  exact .inl this
 rename_i hw
 rw [if_neg hw] at this
 exact this
theorem wpAnyZ_done (hr:Region.ready md ops listed= []) (h:Q .normal a w):
  ∀fuel,wpAnyZ P md ops Q S z fuel listed a w
 | 0=>⟨hr,h⟩
 | _+1=>⟨fun _=>h,by rw [hr];simp⟩
theorem wp_region_Z {id:Nat} (hm:P.follows .mixedOrders=true) (hS:S w.drew)
  (h:S w.drew->wpAnyZ P .any ops Q S z ops.size (Array.replicate ops.size false) a w.drew):(Code.region id ops true).wp P Q a w:=
 wp_region_any hm (wpAny_of_Z _ _ _ _ (h hS))
end
end Go.Proofs.YtpdbnnimdkfajaaGreatDoor
namespace Go.Proofs.YtpdbnnimdkfajaaGreatDoor
open Go
variable {a:Act} {l n:Nat} {o:Oper} {w:World}
section
variable {P:Program} {ops:Array Oper} {Q:Exit→Act→World→Prop} {md:Region.Mode} {S:World→Prop}
theorem oper_in_round (hd:∀c,o.op≠ .defer c) {K:Act->World->Prop} (h:o.wp P a w K Q):o.wpIn (Fence.wide.inRound l) n P a w K Q:=by
 refine ⟨fun _ _=>trivial,?_⟩
 have e:Oper.semAt (Fence.wide.inRound l).round a.eval o=execOp a.eval o:=Oper.semAt_some l a.eval o hd
 rw [e]
 unfold Oper.wp at h
 generalize (execOp a.eval o).run P w=r at*
 cases r with
 | ok x w'=>
  cases x<;>simp only [Oper.upon,Oper.uponIn] at h |-
  case value v=>exact h
  case skip=>exact h
  case defer d=>exact h
  case enter f args=>exact ⟨fun h=>yA,CallsIn.inRound l (callsIn_wide.2 h)⟩
  case row row args=>
   refine ⟨fun h=>yA,fun c cs _=> ?_⟩
   obtain ⟨v,w'',r,s⟩:=h c cs
   exact ⟨v,w'',r,stepsIn_wide.2 s⟩
 | halt x w'=>
  cases x<;>simp only [Oper.upon,Oper.uponIn] at h |-
  case panic u=>exact h
def noDefer (ops:Array Oper):Bool:=ops.all fun o=>match o.op with | .defer _=>false | _=>true
theorem noDefer_spec (h:noDefer ops=true) {i:Nat} (hi:ops[i]? =some o):∀c,o.op≠ .defer c:=by
 intro c e
 obtain ⟨hl,he⟩:=jk.1 hi
 have:=(Array.all_eq_true.1 h) i hl
 rw [he,e] at this
 cases this
theorem any_in_round {l n:Nat} (hd:noDefer ops=true) (hno:¬LetsOut Q):∀(fuel:Nat) (listed:Array Bool) (a:Act) (w:World),wpAny P md ops Q fuel listed a w->wpAnyIn (Fence.wide.inRound l) n P md ops Q fuel listed a w
 | 0,_,_,_,h=>h
 | fuel+1,listed,a,w,h=>by
  refine ⟨h.1,fun i hi=> ?_⟩
  have h1:=h.2 i hi
  unfold wpOp at h1
  unfold wpOpIn
  cases ho:ops[i]? with
  | none=>
   rw [ho] at h1
   exact any_in_round hd hno fuel _ a w h1
  | some o=>
   rw [ho] at h1
   dsimp only at h1 |-
   split
   ·rename_i hw
    rw [if_pos hw] at h1
    rcases h1 with h1 | h1
    ·have h2:=oper_in_round (l:=l) (n:=n) (noDefer_spec hd ho) h1
     have h3:=wpOpIn_mono (F:=Fence.wide.inRound l) (n:=n) (P:=P) (ops:=ops) (Q:=Q) (i:=i) (a:=a) (w:=w) (fun a' w' h'=>any_in_round (l:=l) (n:=n) hd hno fuel (listed.setIfInBounds i true) a' w' h') (K:=wpAny P md ops Q fuel (listed.setIfInBounds i true)) (by unfold wpOpIn;rw [ho];dsimp only;rw [if_pos hw];exact h2)
     unfold wpOpIn at h3
     rw [ho] at h3
     dsimp only at h3
     rw [if_pos hw] at h3
     exact h3
    exact absurd h1.2 hno
   rename_i hw
   rw [if_neg hw] at h1
   exact ⟨fun _ _=>trivial,any_in_round hd hno fuel _ _ w h1⟩
theorem region_in_round {id:Nat} (hm:P.follows .mixedOrders=true) (hd:noDefer ops=true) (hno:¬LetsOut Q) (hS:S w.drew)
  (h:S w.drew->wpAnyH P .any ops Q S ops.size (Array.replicate ops.size false) a w.drew):(Code.region id ops true).wpIn (Fence.wide.inRound l) n P Q a w:=
 wpIn_region_any hm (any_in_round hd hno _ _ _ _ (wpAny_of_held _ _ _ _ (h hS)))
end
end Go.Proofs.YtpdbnnimdkfajaaGreatDoor
end
section
namespace Go.Proofs.YtpdbnnimdkfajaaGreatDoor
open Go.Proofs.Tryz
open Go.RowKit Go.Maps
variable {B:Nat} {p:Plc} {w w':World}
def PlcAt (w:World) (b:Nat) (p:Plc):Prop:=w.heap[b]? =some (.cells #[.int .i64 p.1,.int .i64 p.2.1,.string p.2.2] 106 (0,0))
theorem PlcAt.lt {b:Nat} (h:PlcAt w b p):b<w.heap.size:=(jk.1 h).1
theorem PlcAt.c0 {b:Nat} (h:PlcAt w b p):w.cell? ⟨b,0,none⟩=some (.int .i64 p.1):=yQ
theorem PlcAt.c1 {b:Nat} (h:PlcAt w b p):w.cell? ⟨b,1,none⟩=some (.int .i64 p.2.1):=yQ
theorem PlcAt.c2 {b:Nat} (h:PlcAt w b p):w.cell? ⟨b,2,none⟩=some (.string p.2.2):=yQ
theorem PlcAt.fz {b:Nat} (h:PlcAt w b p) (o:Nat):w.frozen? ⟨b,o,none⟩=false:=by unfold PlcAt at h;simp [World.frozen?,h]
theorem PlcAt.same {b:Nat} (h:PlcAt w b p) (e:w'.heap[b]? =w.heap[b]?):PlcAt w' b p:=e.trans h
theorem PlcAt.stored {b:Nat} (h:PlcAt w b p) (q:Plc):PlcAt (((w.setCell ⟨b,0,none⟩ (.int .i64 q.1)).setCell ⟨b,1,none⟩ (.int .i64 q.2.1)).setCell ⟨b,2,none⟩ (.string q.2.2)) b q:=by
 have h0:=heap_setCell_same w b 0 _ _ (.int .i64 q.1) h
 have h1:=heap_setCell_same _ b 1 _ _ (.int .i64 q.2.1) h0
 exact heap_setCell_same _ b 2 _ _ (.string q.2.2) h1
theorem PlcAt.storedBelow {b:Nat} (q:Plc) (h:Below B w w') (hb:B<=b):Below B w (((w'.setCell ⟨b,0,none⟩ (.int .i64 q.1)).setCell ⟨b,1,none⟩ (.int .i64 q.2.1)).setCell ⟨b,2,none⟩ (.string q.2.2)):=
 ((h.setCell (p:=⟨b,0,none⟩) hb _).setCell (p:=⟨b,1,none⟩) hb _).setCell (p:=⟨b,2,none⟩) hb _
theorem MapAt.below {b n:Nat} {f:Sta} (h:MapAt prog 3 w b n f) (hb:Below B w w') (hB:b<B):MapAt prog 3 w' b n f:=h.same (hb.block b hB)
theorem inside_is (w:World) (bt bm n:Nat) (f:Sta) (node of:Int) (z:Bool) (hz:z=true↔Ins f node of) (ht:w.cell? ⟨bt,0,none⟩=some (.map (some bm))) (hm:MapAt prog 3 w bm n f) (G:Good f) (hk:Wf node):
  Calls prog 96 #[.pointer (some ⟨bt,0,none⟩),.int .i64 node,.int .i64 of] w fun e w'=>e= .returned (.bool z)/\Below w.heap.size w w':=by
 have hbt:bt<w.heap.size:=block_lt_of_cell ht
 obtain ⟨d,hd⟩:=G.rank
 have hl:=hm.looks hk
 unfold encP at hl
 go_enter func96,ntmps96
 go_wp2
 obtain ⟨w0,hw0⟩:=za (w.alloc (.cells #[.int .i64 ((f node).getD zeroP).1,.int .i64 ((f node).getD zeroP).2.1,.string ((f node).getD zeroP).2.2] 106))
 have hp0:PlcAt w0 w.heap.size ((f node).getD zeroP):=by rw [hw0];exact heap_alloc_new w _
 have hb0:Below w.heap.size w w0:=by rw [hw0];exact zg w _
 rw [<-hw0]
 clear hw0 hl
 go_loopg [7,8] (d node+1) (fun kx s7 s8 wr=>∃(b7:Nat) (cur:Int),s7= .pointer (some ⟨b7,0,none⟩)/\s8= .bool (f cur).isSome/\w.heap.size<=b7/\PlcAt wr b7 ((f cur).getD zeroP)/\Wf cur/\(Ins f cur of↔Ins f node of)/\Below w.heap.size w wr/\(∀p,f cur=some p->d cur<kx))
 case atStart=>exact ⟨w.heap.size,node,rfl,rfl,jj _,hp0,hk,Iff.rfl,hb0,fun _ _=>Nat.lt_succ_self _⟩
 case round=>
  obtain ⟨b7,cur,rfl,rfl,hb7,hp,hkc,hi,hb,hkx⟩:=hrel
  clear hp0 hb0 w0
  have ht1:=(hb.cell (p:=⟨bt,0,none⟩) hbt).trans ht
  have hm1:=hm.below hb hm.lt
  cases hf:f cur with
  | none=>
   have hno:z=false:=by
    cases z with
    | false=>rfl
    | true=>exact absurd (hi.2 (hz.1 rfl)) (ins_none hf)
   subst hno
   rw [hf] at hp
   simp only [Option.isSome_none]
   go_wp2
   go_ret
   exact ⟨rfl,hb⟩
  | some p=>
   rw [hf] at hp
   simp only [Option.isSome_some]
   have hc1:wr.cell? ⟨b7,1,none⟩=some (.int .i64 p.2.1):=hp.c1
   by_cases he:p.2.1=of
   ·have hyes:z=true:=hz.2 (hi.1 ((ins_some hf).2 (.inl he)))
    subst hyes
    have q0:decide (p.2.1=of)=true:=decide_eq_true he
    go_wp2
    go_ret
    exact ⟨rfl,hb⟩
   have q0:decide (p.2.1=of)=false:=decide_eq_false he
   have hkn:Wf p.2.1:=(wf_fine (G.fine cur p hf)).2
   have hc0:=hp.c0
   have hc2:=hp.c2
   go_wp2
   obtain ⟨w1,hw1⟩:=za (wr.alloc (.cells #[.int .i64 p.1,.int .i64 p.2.1,.string p.2.2] 106))
   have hp1:PlcAt w1 wr.heap.size p:=by rw [hw1];exact heap_alloc_new wr _
   have hb1:Below w.heap.size w w1:=by rw [hw1];exact hb.alloc hb.size _
   have hs1:w.heap.size<=wr.heap.size:=hb.size
   rw [<-hw1]
   obtain ⟨b8,hb8⟩:=za wr.heap.size
   rw [<-hb8] at hp1 hs1 |-
   have ht2:=(hb1.cell (p:=⟨bt,0,none⟩) hbt).trans ht
   have hm2:=hm.below hb1 hm.lt
   have hl2:=hm2.looks hkn
   have hl3:=(show MapAt prog 3 w1.drew bm n f from hm2).looks hkn
   unfold encP at hl2 hl3
   have d0:=hp1.c0
   have d1:=hp1.c1
   have d2:=hp1.c2
   have z0:=hp1.fz 0
   have z1:=hp1.fz 1
   have z2:=hp1.fz 2
   have F:Aside (PlcAt w1 b8 p/\Below w.heap.size w w1/\w.heap.size<=b8/\Wf p.2.1):=⟨hp1,hb1,hs1,hkn⟩
   clear hp hc0 hc1 hc2 hp1 hb1 hm2 hm1 ht1 hw1 hb8 hs1 hkn
   go_region
   go_wp2
   go_roundg (d cur)
   case measure=>exact hkx p hf
   case rel=>exact ⟨b8,p.2.1,rfl,rfl,F.o.2.2.1,F.o.1.stored _,F.o.2.2.2,(by rw [<-hi,ins_some hf];exact ⟨.inr,fun h=>h.resolve_left he⟩),(PlcAt.storedBelow _ F.o.2.1 F.o.2.2.1).drew,fun _ _=>hd cur p hf⟩
end Go.Proofs.YtpdbnnimdkfajaaGreatDoor
end
section
namespace Go.Proofs.YtpdbnnimdkfajaaGreatDoor
open Go.Proofs.Tryz
open Go.Shelf Go.RowKit Go.Lib
theorem infoEnt:(prog.info? 284).map (fun i=>(i.zero,i.size,i.bytes))=some (some (.agg #[.int .i64 0,.int .i64 0,.int .i64 0,.int .i64 0,.string ⟨#[]⟩,.int .i64 0,.int .i64 0,.string ⟨#[]⟩]),8,80):=zj
def Laid (w:World) (base:Nat) (v:Value) (n:Nat) (ys:List Value) (e:Ending) (w':World):Prop:=
 ∃v',e= .returned v'/\w'.ownsRow base 284 8 v' (n+1) ys/\Keeps (fun k=>some k=v.ownBlock) w w'/\(v'.ownBlock=v.ownBlock\/v'.ownBlock=some w.heap.size)
theorem insert_end (w:World) (base:Nat) (v:Value) (n:Nat) (xs vs:List Value) (hown:w.ownsRow base 284 8 v n xs) (hn:n<=1000) (vb:Nat) (hv:vs.length=8)
  (hvs:∀j u,vs[j]? =some u->w.cell? ⟨vb,j,none⟩=some u) (h1v:∀u∈vs,u.oneCell'=true) (hbase:base<=w.heap.size):
  Calls prog 189 #[v,.int .i64 n,.slice (some ⟨vb,0,none⟩) 1 1] w (Laid w base v n (xs++vs)):=by
 obtain ⟨i0,hi,hz0,hz1,hz2⟩:=info_parts infoEnt
 obtain ⟨v',w',hrun,ho,hg,hb⟩:=append_at (P:=prog) w base 185 185 284 i0 _ 8 80 underlying185 hi hz0 hz1 hz2 rfl zi v n xs hown ⟨vb,0,none⟩ 1 1 zi vs zi
  (fun j u hj=>xw) h1v zD zi hbase
 have hfin:Aside (Laid w base v n (xs++vs) (.returned v') w'):=⟨v',rfl,ho,keeps_of_grown hg,hb⟩
 rcases hown.2 with ⟨rfl,rfl⟩ | ⟨g,cap,cur,rfl,hbg,hgb,hnc,hcm,hcs,htake⟩
 ·clear hown ho hg hb hvs h1v
  go_enter func189,ntmps189
  go_wp2_with (at_builtin;refine Lib.wpList_append_run _ rfl _ _ _ _ rfl _ _ rfl rfl _ _ hrun ?_)
  go_ret
  exact hfin.o
 clear hown ho hg hb hvs h1v htake hcs hgb hbg
 go_enter func189,ntmps189
 go_wp2_with (at_builtin;refine Lib.wpList_append_run _ rfl _ _ _ _ rfl _ _ rfl rfl _ _ hrun ?_)
 all_goals (go_ret;exact hfin.o)
theorem insert_room (w:World) (base g n cap i:Nat) (xs vs:List Value) (hown:w.ownsRow base 284 8 (.slice (some ⟨g,0,none⟩) n cap) n xs) (hn:n<=1000) (vb:Nat) (hv:vs.length=8)
  (hvs:∀j u,vs[j]? =some u->w.cell? ⟨vb,j,none⟩=some u) (h1v:∀u∈vs,u.oneCell'=true) (h1x:∀u∈xs,u.oneCell'=true) (hvb:vb≠g) (hsa:w.shape? vb=some (284,8)) (hfa:∀j,w.frozen? ⟨vb,j,none⟩=false)
  (hi:i<n) (hroom:n+1<=cap):
  Calls prog 189 #[.slice (some ⟨g,0,none⟩) n cap,.int .i64 i,.slice (some ⟨vb,0,none⟩) 1 1] w (Laid w base (.slice (some ⟨g,0,none⟩) n cap) n (xs.take (i*8)++vs++xs.drop (i*8))):=by
 have hL:Aside (∀W:World,W.heap=w.heap->W.os=w.os->W.tape=w.tape->W.output=w.output->Laid w base (.slice (some ⟨g,0,none⟩) n cap) n (xs.take (i*8)++vs++xs.drop (i*8)) (.returned (.slice (some ⟨g,0,none⟩) (n+1) cap)) ((W.setCells g ((i+1)*8) (xs.drop (i*8))).setCells g (i*8) vs)):=by
  intro W h0 h2 h3 h4
  have hownW:W.ownsRow base 284 8 (.slice (some ⟨g,0,none⟩) n cap) n xs:=jf
  have k1:=(setCells_keeps g (xs.drop (i*8)) ((i+1)*8) W).trans (setCells_keeps g vs (i*8) _)
  exact ⟨_,rfl,owns_laidIn hownW hroom zi hv,⟨k1.os.trans h2,k1.tape.trans h3,k1.output.trans h4,by rw [<-h0];exact k1.size,fun k hk hs=>by
   rw [<-h0]
   exact k1.block k (by rw [h0];exact hk) (fun e=>hs qF)⟩,.inl rfl⟩
 obtain ⟨hxl,h2⟩:=hown
 rcases h2 with ⟨hc,_⟩ | ⟨g',cap',cur,hc,hbg,hgb,hnc,hcm,hcs,htake⟩
 ·cases hc
 cases hc
 have hcm':cap<=9223372036854775807:=by simp only [maxLen] at hcm;omega
 have hsp:∀j,j<(n+1)*8->(w.cell? ⟨g,j,none⟩).isSome=true:=fun j hj=>by
  have:j<cur.size:=by rw [hcs];omega
  simp [World.cell?,hgb,this]
 have hfz:∀j,w.frozen? ⟨g,j,none⟩=false:=fun j=>by simp [World.frozen?,hgb]
 have hcell:∀j u,xs[j]? =some u->w.cell? ⟨g,j,none⟩=some u:=fun j u hj=>by
  have hlt:=(jh.1 hj).1
  rw [<-htake,vI,if_pos zi] at hj
  simp [World.cell?,hgb,<-hj]
 have hsb:w.shape? g=some (284,cap*8):=by simp [World.shape?,hgb,hcs]
 have hsz:(prog.info? 284).map (·.size)=some 8:=by
  obtain ⟨i0,hi0,_,h1,_⟩:=info_parts infoEnt
  rw [hi0];simp [h1]
 have hov:∀lb cb,(callFunc 228 #[.slice (some ⟨vb,0,none⟩) 1 1,.slice (some ⟨g,(i+1)*8,none⟩) lb cb]).run prog w= .ok (.value (.bool false)) w:=fun lb cb=>by
  rw [run_callFunc_extern func228 zj zj zj (e:=Extern.SlicesOverlaps.overlaps #[185,185] #[4]) zj,
   Lib.run_overlaps_apart w 185 4 284 underlying185 8 sizeOf284 ⟨vb,0,none⟩ ⟨g,(i+1)*8,none⟩ 1 1 lb cb hvb 284 284 8 (cap*8) hsa hsb zi (hfa 0) (hfa 8)]
  rfl
 have hdl:(xs.drop (i*8)).length=n*8 - i*8:=yR
 have hcp1:∀ty dc sc,(Builtin.copy_ #[185,185] ty #[.slice (some ⟨g,(i+1)*8,none⟩) (n - i) dc,.slice (some ⟨g,i*8,none⟩) (n+1 - i) sc]).run prog w.drew= .ok (goInt ((n - i:Nat):Int)) (w.drew.setCells g ((i+1)*8) (xs.drop (i*8))):=fun ty dc sc=>by
  have hmin:Nat.min (n+1 - i) (n - i)=n - i:=zW
  have:=run_copy_k (P:=prog) w.drew 185 185 ty 284 8 g ((i+1)*8) (n - i) dc ⟨g,i*8,none⟩ (n+1 - i) sc (xs.drop (i*8)) underlying185 hsz qy
   (fun j u hj=>by rw [Addr.add_lit];exact hcell _ u (by rwa [vg] at hj))
   (fun j hj=>hsp _ ql) (fun j _=>hfz _) (fun u hu=>h1x u (ug hu))
  rw [hmin] at this
  exact this
 obtain ⟨W1,hW1⟩:=za (w.drew.setCells g ((i+1)*8) (xs.drop (i*8)))
 have hsp1:∀j,j<(n+1)*8->(W1.cell? ⟨g,j,none⟩).isSome=true:=fun j hj=>by
  rw [hW1]
  exact isSome_setCells g (xs.drop (i*8)) ((i+1)*8) w.drew (fun t ht=>hsp ((i+1)*8+t) (by rw [hdl] at ht;omega)) _ (hsp j hj)
 have hcp2:∀(W:World),(∀x,W.cell? x=W1.cell? x)->(∀x,W.frozen? x=W1.frozen? x)->∀ty dc,(Builtin.copy_ #[185,185] ty #[.slice (some ⟨g,i*8,none⟩) (n+1 - i) dc,.slice (some ⟨vb,0,none⟩) 1 1]).run prog W= .ok (goInt 1) (W.setCells g (i*8) vs):=fun W hWc hWf ty dc=>by
  have hmin:Nat.min 1 (n+1 - i)=1:=zW
  have:=run_copy_k (P:=prog) W 185 185 ty 284 8 g (i*8) (n+1 - i) dc ⟨vb,0,none⟩ 1 1 vs underlying185 hsz xB
   (fun j u hj=>by
    rw [Addr.add_lit,jt,hWc,hW1,vH g _ _ _ _ (fun h _=>absurd h hvb)]
    exact hvs j u hj)
   (fun j hj=>by rw [hWc];exact hsp1 _ zi) (fun j _=>by rw [hWf,hW1,vM];exact hfz _) h1v
  rw [hmin] at this
  exact this
 rw [<-hW1] at hcp1
 have hw1:IntKind.i64.wrap ((i:Int)+1)=(i:Int)+1:=zq
 have hw2:IntKind.i64.wrap ((n:Int)+1)=(n:Int)+1:=zq
 have hb1:(0:Int)<=(i:Int)+1:=zi
 have hz2:¬((i:Int)=(n:Int)):=zi
 have hin:i<=n:=zi
 have htn:((i:Int)+1).toNat=i+1:=zi
 have htn2:((n:Int)+1).toNat=n+1:=zi
 have hb2:¬(cap=i+1):=zi
 have hb3:(i:Int)<=(n:Int)+1:=zi
 have hb4:¬(cap=i):=zi
 have hb5:¬((cap:Int)<(n:Int)+1):=zi
 clear htake hcs hgb hsp hfz hcell hsb hcm hxl hdl hvs h1v h1x hsa hfa hsp1 hbg
 go_enter func189,ntmps189
 go_wp2_with (simp only [hov])
 have mixed:prog.follows .mixedOrders=true:=zj
 go_region_law_o (refine step_copy_runI rfl _ _ 185 185 rfl _ _ zY zY (hcp1 _ _ _) ?_)
 clear mixed
 go_wp2_with (at_builtin;refine wpList_copy_runI _ rfl _ _ 185 185 rfl _ _ rfl rfl (hcp2 _ (fun _=>rfl) (fun _=>rfl) _ _) ?_)
 go_ret
 subst hW1
 exact hL.o w.drew rfl rfl rfl rfl
theorem insert_grow (w:World) (base g n cap i:Nat) (xs vs:List Value) (hown:w.ownsRow base 284 8 (.slice (some ⟨g,0,none⟩) n cap) n xs) (hn:n<=1000) (vb:Nat) (hv:vs.length=8)
  (hvs:∀j u,vs[j]? =some u->w.cell? ⟨vb,j,none⟩=some u) (h1v:∀u∈vs,u.oneCell'=true) (h1x:∀u∈xs,u.oneCell'=true) (hbase:base<=w.heap.size)
  (hi:i<n) (hroom:cap<n+1):
  Calls prog 189 #[.slice (some ⟨g,0,none⟩) n cap,.int .i64 i,.slice (some ⟨vb,0,none⟩) 1 1] w (Laid w base (.slice (some ⟨g,0,none⟩) n cap) n (xs.take (i*8)++vs++xs.drop (i*8))):=by
 obtain ⟨hxl,h2⟩:=hown
 rcases h2 with ⟨hc,_⟩ | ⟨g',cap',cur,hc,hbg,hgb,hnc,hcm,hcs,htake⟩
 ·cases hc
 cases hc
 obtain ⟨i0,hi0,hz0,hzs,hzb⟩:=info_parts infoEnt
 have hcell:∀j u,xs[j]? =some u->w.cell? ⟨g,j,none⟩=some u:=fun j u hj=>by
  have hlt:=(jh.1 hj).1
  rw [<-htake,vI,if_pos zi] at hj
  simp [World.cell?,hgb,<-hj]
 have hgw:g<w.heap.size:=(jk.1 hgb).1
 have hvw:vb<w.heap.size:=block_lt_of_cell (hvs 0 _ (ji zi))
 have hsz:(prog.info? 284).map (·.size)=some 8:=by rw [hi0];simp [hzs]
 have htl:(xs.take (i*8)).length=i*8:=by rw [jz,hxl];omega
 have hdl:(xs.drop (i*8)).length=n*8 - i*8:=yR
 have hold:(Builtin.firstCells i0.size i (.slice (some ⟨g,0,none⟩) i cap)).run prog w.drew= .ok (xs.take (i*8)).toArray w.drew:=by
  rw [hzs]
  exact run_firstCells_some w.drew 8 i ⟨g,0,none⟩ i cap (xs.take (i*8)) htl (fun j u hj=>by
   rw [Addr.add_lit,jt]
   rw [vI] at hj
   split at hj
   ·exact hcell j u hj
   ·cases hj)
 have hik:i+(n+1 - i)=n+1:=zi
 have hkk:(n:Int)+1 - (i:Int)=((n+1 - i:Nat):Int):=zi
 obtain ⟨Z,hZ⟩:=za ((Value.agg #[.int .i64 0,.int .i64 0,.int .i64 0,.int .i64 0,.string ⟨#[]⟩,.int .i64 0,.int .i64 0,.string ⟨#[]⟩]).cells)
 have hZs:Z.size=8:=by rw [hZ];rfl
 obtain ⟨G,hG⟩:=za (grownCap w (n+1) cap 284)
 have hGn:n+1<=G:=by rw [hG];exact grownCap_ge w _ _ _
 have hGm:G<=maxLen:=by rw [hG];exact grownCap_le_maxLen w (n+1) cap 284 (by unfold maxLen;omega)
 obtain ⟨ROW,hROW⟩:∃ROW:Array Value,ROW=(xs.take (i*8)).toArray++Builtin.zeroCells Z (n+1 - i)++Builtin.zeroCells Z (G - (n+1)):=⟨_,rfl⟩
 have hrz:∀ty,(Builtin.append_ #[185,3] ty #[.slice (some ⟨g,0,none⟩) i cap,.int .i64 ((n:Int)+1 - (i:Int))]).run prog w= .ok (.slice (some ⟨w.heap.size,0,none⟩) (n+1) G) (w.drew.alloc (.cells ROW 284)):=fun ty=>by
  have h:=Lib.run_append_grow_zeros w 185 3 ty 284 i0 _ .i64 .i64 underlying185 underlying3 hi0 hz0 (some ⟨g,0,none⟩) i cap (xs.take (i*8)) hold (n+1 - i) zi zi zi zi (by rw [hzb];omega) xd
  rw [hik,<-hG,<-hZ,<-hROW] at h
  rw [hkk]
  exact h
 have hRs:ROW.size=G*8:=by
  rw [hROW]
  simp only [Array.size_append,jN,htl,size_zeroCells,hZs]
  omega
 have hRl:∃Y,ROW.toList=xs.take (i*8)++Y:=⟨(Builtin.zeroCells Z (n+1 - i)++Builtin.zeroCells Z (G - (n+1))).toList,by rw [hROW];simp⟩
 obtain ⟨W1,hW1⟩:=za (w.drew.alloc (.cells ROW 284))
 rw [<-hW1] at hrz
 have hN:∀j,j<(n+1)*8->(W1.cell? ⟨w.heap.size,j,none⟩).isSome=true:=fun j hj=>by
  rw [hW1,World.cell?_alloc_at (w:=w.drew) ROW _ w.heap.size j rfl,uj zi];rfl
 have hNf:∀j,W1.frozen? ⟨w.heap.size,j,none⟩=false:=fun j=>by rw [hW1];exact World.frozen?_alloc_at (w:=w.drew) ROW _ w.heap.size j rfl
 have hOb:∀j u,w.cell? ⟨g,j,none⟩=some u->W1.cell? ⟨g,j,none⟩=some u:=fun j u h=>by rw [hW1,uF (w:=w.drew) _ g j hgw];exact h
 have hOv:∀j u,w.cell? ⟨vb,j,none⟩=some u->W1.cell? ⟨vb,j,none⟩=some u:=fun j u h=>by rw [hW1,uF (w:=w.drew) _ vb j hvw];exact h
 have hcpA:∀(W:World),(∀x,W.cell? x=W1.cell? x)->(∀x,W.frozen? x=W1.frozen? x)->∀ty dc,(Builtin.copy_ #[185,185] ty #[.slice (some ⟨w.heap.size,i*8,none⟩) (n+1 - i) dc,.slice (some ⟨vb,0,none⟩) 1 1]).run prog W= .ok (goInt 1) (W.setCells w.heap.size (i*8) vs):=fun W hWc hWf ty dc=>by
  have hmin:Nat.min 1 (n+1 - i)=1:=zW
  have:=run_copy_k (P:=prog) W 185 185 ty 284 8 w.heap.size (i*8) (n+1 - i) dc ⟨vb,0,none⟩ 1 1 vs underlying185 hsz xB
   (fun j u hj=>qM)
   (fun j hj=>by rw [hWc];exact hN _ zi) (fun j _=>by rw [hWf];exact hNf _) h1v
  rw [hmin] at this
  exact this
 have hgN:g≠w.heap.size:=zi
 have hcpB:∀(W:World),(∀x,W.cell? x=(W1.setCells w.heap.size (i*8) vs).cell? x)->(∀x,W.frozen? x=(W1.setCells w.heap.size (i*8) vs).frozen? x)->∀ty dc sc,(Builtin.copy_ #[185,185] ty #[.slice (some ⟨w.heap.size,(i+1)*8,none⟩) (n - i) dc,.slice (some ⟨g,i*8,none⟩) (n - i) sc]).run prog W= .ok (goInt ((n - i:Nat):Int)) (W.setCells w.heap.size ((i+1)*8) (xs.drop (i*8))):=fun W hWc hWf ty dc sc=>by
  have hmin:Nat.min (n - i) (n - i)=n - i:=by simp [Nat.min_def]
  have:=run_copy_k (P:=prog) W 185 185 ty 284 8 w.heap.size ((i+1)*8) (n - i) dc ⟨g,i*8,none⟩ (n - i) sc (xs.drop (i*8)) underlying185 hsz qy
   (fun j u hj=>by
    rw [Addr.add_lit,hWc,vH _ _ _ _ _ (fun h _=>absurd h hgN)]
    exact hOb _ u (hcell _ u (by rwa [vg] at hj)))
   (fun j hj=>by rw [hWc];exact isSome_setCells w.heap.size vs (i*8) W1 (fun t ht=>hN _ zi) _ (hN _ ql))
   (fun j _=>by rw [hWf,vM];exact hNf _) (fun u hu=>h1x u (ug hu))
  rw [hmin] at this
  exact this
 have hL:Aside (∀W:World,W.heap=W1.heap->W.os=w.os->W.tape=w.tape->W.output=w.output->Laid w base (.slice (some ⟨g,0,none⟩) n cap) n (xs.take (i*8)++vs++xs.drop (i*8)) (.returned (.slice (some ⟨w.heap.size,0,none⟩) (n+1) G)) ((W.setCells w.heap.size (i*8) vs).setCells w.heap.size ((i+1)*8) (xs.drop (i*8)))):=by
  intro W h0 h2 h3 h4
  have hgW:W.heap[w.heap.size]? =some (.cells ROW 284 (0,0)):=xS
  obtain ⟨Y,hY⟩:=hRl
  have k1:=(setCells_keeps w.heap.size vs (i*8) W).trans (setCells_keeps w.heap.size (xs.drop (i*8)) ((i+1)*8) _)
  have hWs:W.heap.size=w.heap.size+1:=by rw [h0,hW1];simp
  exact ⟨_,rfl,owns_newIn hgW hY hRs hbase hGn hGm zi hxl hv,⟨k1.os.trans h2,k1.tape.trans h3,k1.output.trans h4,by have:=k1.size;omega,fun k hk hs=>by
   refine (k1.block k zi zi).trans ?_
   rw [h0,hW1]
   exact jp w.drew _ k hk⟩,.inr rfl⟩
 have hG63:G<=9223372036854775807:=by unfold maxLen at hGm;omega
 have hGi:¬(G=i):=zi
 have hGim:¬(G=i+1):=zi
 have hci:¬(cap=i):=zi
 have hw1:IntKind.i64.wrap ((i:Int)+1)=(i:Int)+1:=zq
 have hw2:IntKind.i64.wrap ((n:Int)+1)=(n:Int)+1:=zq
 have hw3:IntKind.i64.wrap ((n:Int)+1 - (i:Int))=(n:Int)+1 - (i:Int):=zq
 have hb1:(0:Int)<=(i:Int)+1:=zi
 have hz2:¬((i:Int)=(n:Int)):=zi
 have hin:i<=n:=zi
 have hin2:i<=cap:=zi
 have htn:((i:Int)+1).toNat=i+1:=zi
 have hb5:((cap:Int)<(n:Int)+1):=zi
 have hb6:¬((n:Int)+1<=(cap:Int)):=zi
 have hE1:∀x,((w.alloc (.cells ROW 284)).drew).cell? x=(w.drew.alloc (.cells ROW 284)).cell? x:=fun x=>rfl
 have hE2:∀x,((w.alloc (.cells ROW 284)).drew).frozen? x=(w.drew.alloc (.cells ROW 284)).frozen? x:=fun x=>rfl
 subst hW1
 have hF1:∀x,(((w.alloc (.cells ROW 284)).drew.setCells w.heap.size (i*8) vs).drew).cell? x=((w.drew.alloc (.cells ROW 284)).setCells w.heap.size (i*8) vs).cell? x:=fun x=>rfl
 have hF2:∀x,(((w.alloc (.cells ROW 284)).drew.setCells w.heap.size (i*8) vs).drew).frozen? x=((w.drew.alloc (.cells ROW 284)).setCells w.heap.size (i*8) vs).frozen? x:=fun x=>rfl
 clear htake hcs hgb hcell hcm hxl hdl htl hvs h1v h1x hbg hold hROW hG hRs hRl hN hNf hOb hOv hik hkk hGm hZ hZs hgw hvw
 go_enter func189,ntmps189
 go_wp2_with (first
  | (at_builtin;refine Lib.wpList_append_run _ rfl _ _ _ _ rfl _ _ rfl rfl _ _ (hrz _) ?_)
  | (at_builtin;refine wpList_copy_runI _ rfl _ _ 185 185 rfl _ _ rfl rfl (hcpA _ hE1 hE2 _ _) ?_))
 have mixed:prog.follows .mixedOrders=true:=zj
 go_region_law_o (refine step_copy_runI rfl _ _ 185 185 rfl (.slice (some ⟨w.heap.size,(i+1)*8,none⟩) (n - i) (G - (i+1))) (.slice (some ⟨g,i*8,none⟩) (n - i) (cap - i)) zY zY (hcpB _ hF1 hF2 3 (G - (i+1)) (cap - i)) ?_)
 clear mixed
 go_wp2
 go_ret
 rw [drew_setCells]
 exact hL.o ((w.alloc (.cells ROW 284)).drew.drew) rfl rfl rfl rfl
theorem layEnt_any (w:World) (base n i:Nat) (v:Value) (xs vs:List Value) (hown:w.ownsRow base 284 8 v n xs) (hn:n<=1000) (vb:Nat) (hv:vs.length=8)
  (hvs:∀j u,vs[j]? =some u->w.cell? ⟨vb,j,none⟩=some u) (h1v:∀u∈vs,u.oneCell'=true) (h1x:∀u∈xs,u.oneCell'=true) (hvb:some vb≠v.ownBlock) (hsa:w.shape? vb=some (284,8)) (hfa:∀j,w.frozen? ⟨vb,j,none⟩=false) (hbase:base<=w.heap.size) (hi:i<=n):
  Calls prog 189 #[v,.int .i64 i,.slice (some ⟨vb,0,none⟩) 1 1] w (Laid w base v n (xs.take (i*8)++vs++xs.drop (i*8))):=by
 by_cases he:i=n
 ·subst he
  have e1:xs.take (i*8)=xs:=jJ qN
  have e2:xs.drop (i*8)= []:=vR qN
  rw [e1,e2,vf]
  exact insert_end w base v i xs vs hown hn vb hv hvs h1v hbase
 have hown':=hown
 rcases hown.2 with ⟨rfl,rfl⟩ | ⟨g,cap,cur,rfl,-⟩
 ·omega
 by_cases hroom:n+1<=cap
 ·exact insert_room w base g n cap i xs vs hown hn vb hv hvs h1v h1x (fun e=>hvb qF) hsa hfa zi hroom
 exact insert_grow w base g n cap i xs vs hown hn vb hv hvs h1v h1x hbase zi zi
