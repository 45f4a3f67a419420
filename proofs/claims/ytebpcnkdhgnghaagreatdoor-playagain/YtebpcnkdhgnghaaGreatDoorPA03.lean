import Derived.Test.YtebpcnkdhgnghaaGreatDoorMacB
import Derived.Test.YtebpcnkdhgnghaaGreatDoorProg
import Derived.WalkSpells
import Derived.OrdersHeld
import Derived.OrdersIn
import Derived.RangeFuncCalls
import Derived.Sort.LotA
import Derived.LaidEql
import Derived.Shelf.SlLaysF0
import Derived.Test.YtebpcnkdhgnghaaGreatDoorCards
set_option linter.unusedSimpArgs false
set_option linter.unusedVariables false
set_option maxRecDepth 100000
set_option maxHeartbeats 64000000
section
namespace Go.Proofs.YtebpcnkdhgnghaaGreatDoor
open Go.RowKit
def oZ (a b:Int):Int:=if a<b then -1 else if b<a then 1 else 0
theorem PJ (a:Int) (w:World):Calls Tryz.prog 171 #[.int .i64 a] w fun e w'=>e= .returned (.bool false)/\w'=w:=by
 have d0:(a !=a)=false:=zq
 go_enter Tryz.func171,Tryz.ntmps171
 exact ka9
theorem oY (a b:Int) (w:World):Calls Tryz.prog 99 #[.int .i64 a,.int .i64 b] w fun e w'=>e= .returned (.int .i64 (oZ a b))/\w'=w:=by
 unfold oZ
 by_cases h1:a<b
 ·have d1:decide (a<b)=true:=decide_eq_true h1
  rw [if_pos h1]
  exact ke4
 have d1:decide (a<b)=false:=decide_eq_false h1
 rw [if_neg h1]
 by_cases h2:b<a
 ·have d2:decide (b<a)=true:=decide_eq_true h2
  rw [if_pos h2]
  exact ke4
 have d2:decide (b<a)=false:=decide_eq_false h2
 rw [if_neg h2]
 exact ke4
end Go.Proofs.YtebpcnkdhgnghaaGreatDoor
end
section
namespace Go.Proofs.YtebpcnkdhgnghaaGreatDoor
open Go
variable {a:Act} {w:World}
section
variable {P:Program} {ops:Array Oper} {Q:Exit→Act→World→Prop} {md:Region.Mode} {S:World→Prop}
theorem aZ {i:Nat} {o:Oper} {fuel:Nat} {listed:Array Bool} (hr:Region.ready md ops listed= [i]) (ho:ops[i]? =some o)
  (h:∀K:Act->World->Prop,(∀a' w',S w'->wpAnyH P md ops Q S fuel (listed.setIfInBounds i true) a' w'->K a' w')->if Region.wanted o (yielded ops a.tmps)=true then Oper.wp P o a w K Q else K (a.put o.dst undef) w):wpAnyH P md ops Q S (fuel+1) listed a w:=by
 refine ⟨fun h0=>yK,fun j hj=> ?_⟩
 rw [hr] at hj
 simp only [jS] at hj
 subst hj
 have:=h (fun a' w'=>S w'/\wpAnyH P md ops Q S fuel (listed.setIfInBounds j true) a' w') (fun a' w' h1 h2=>⟨h1,h2⟩)
 unfold wpOp
 simp only [ho]
 split
 ·rename_i hw
  exact kg1
 rename_i hw
 exact kh6
end
theorem aM {P:Program} {ops:Array Oper} {Q:Exit->Act->World->Prop} {S:World->Prop} {id:Nat} (hm:P.follows .mixedOrders=true) (hS:S w.drew)
  (h:S w.drew->wpAnyH P .any ops Q S ops.size (Array.replicate ops.size false) a w.drew):(Code.region id ops true).wp P Q a w:=
 wp_region_any hm (wpAny_of_held _ _ _ _ (h hS))
end Go.Proofs.YtebpcnkdhgnghaaGreatDoor
end
section
namespace Go.Proofs.YtebpcnkdhgnghaaGreatDoor
open Go
variable {a:Act} {l listed:Array Bool} {fuel i z:Nat} {oi:Oper} {v:Value} {w:World}
section
variable {P:Program} {ops:Array Oper} {Q:Exit→Act→World→Prop} {md:Region.Mode} {S:World→Prop} {z:Nat}
def pR (md:Region.Mode) (ops:Array Oper) (z i:Nat):Bool:=match ops[z]? with
 | some oz=>oz.after.any fun e=>Region.binds md e &&e.on==i
 | none=>false
theorem pA (h:pR md ops z i=true) {oz:Oper} (hz:ops[z]? =some oz):∃e∈oz.after,Region.binds md e=true/\e.on=i:=by
 unfold pR at h
 rw [hz] at h
 obtain ⟨e,he,h2⟩:=Array.any_eq_true'.1 h
 rw [uk] at h2
 exact ⟨e,he,h2.1,by simpa using h2.2⟩
def cW (P:Program) (md:Region.Mode) (ops:Array Oper) (Q:Exit->Act->World->Prop) (S:World->Prop) (z:Nat):Nat->Array Bool->Act->World->Prop
 | 0,listed,a,w=>Region.ready md ops listed= []/\Q .normal a w
 | fuel+1,listed,a,w=>
  (Region.ready md ops listed= []->Q .normal a w)/\
  ∀i∈Region.ready md ops listed,wpOp P ops Q i (fun a' w'=>(S w'\/(listed.setIfInBounds i true).getD z false=true)/\cW P md ops Q S z fuel (listed.setIfInBounds i true) a' w') a w
theorem nF:∀(fuel:Nat) (listed:Array Bool) (a:Act) (w:World),cW P md ops Q S z fuel listed a w->wpAny P md ops Q fuel listed a w
 | 0,_,_,_,h=>h
 | fuel+1,_,_,_,h=>⟨h.1,fun i hi=>wpOp_mono (fun a' w' h'=>nF fuel _ a' w' h'.2) (h.2 i hi)⟩
theorem eW (h:i≠z):(l.setIfInBounds i true).getD z false=l.getD z false:=by
 simp only [Array.getD_eq_getD_getElem?]
 rw [Array.getElem?_setIfInBounds_ne h]
theorem iM (h:l.getD z false=true):(l.setIfInBounds i true).getD z false=true:=by
 by_cases e:i=z
 ·subst e
  have hl:i<l.size:=by
   rcases ue i l.size with h' | h'
   ·exact h'
   simp [uK h'] at h
  simp [hl]
 rw [eW e];exact h
theorem kR {T:World->Prop} (hiz:i≠z) (hi:ops[i]? =some oi) (hsel:∀(j:Nat) (o:Oper) cs b,ops[j]? =some o->o.op≠ .select cs b)
  (hQ:∀c a w,Q (.panic c) (a.put oi.dst v) w->Q (.panic c) a w) (hT:(∀w,T w)\/((∀w,S w->T w)/\pR md ops z i=true)):
  ∀(fuel:Nat) (listed:Array Bool) (a:Act) (w:World),
   (∀j oj,ops[j]? =some oj->j≠i->listed.getD j true=false->(∀e∈oj.after,Region.binds md e=true->e.on≠i)->oi.apart ops oj=true)->
   i∈Region.ready md ops listed->YieldsIf P ops T oi v a->(S w\/listed.getD z false=true)->((∀w,T w)\/listed.getD z false=false)->
   cW P md ops Q S z fuel (listed.setIfInBounds i true) (a.put oi.dst v) w->cW P md ops Q S z (fuel+1) listed a w:=by
 have hTw:∀(listed:Array Bool) (w:World),(S w\/listed.getD z false=true)->((∀w,T w)\/listed.getD z false=false)->T w:=fun listed w h1 h2=>by
  rcases hT with hT | hT
  ·exact hT w
  rcases h2 with h2 | h2
  ·exact h2 w
  rcases h1 with h1 | h1
  ·exact hT.1 w h1
  rw [h2] at h1;cases h1
 intro fuel
 induction fuel with
 | zero=>
  intro listed a w _ hr hy hS hz H
  refine ⟨fun h=>(by rw [h] at hr;cases hr),fun j hj=> ?_⟩
  by_cases hji:j=i
  ·exact kn4
  have:=ready_mono hj hji
  rw [H.1] at this
  cases this
 | succ fuel ih=>
  intro listed a w hfree hr hy hS hz H
  refine ⟨fun h=>(by rw [h] at hr;cases hr),fun j hj=> ?_⟩
  by_cases hji:j=i
  ·exact kn4
  have h1:=H.2 j (ready_mono hj hji)
  obtain ⟨hjun,oj,hoj,hall⟩:=mem_ready.1 hj
  have hnot:∀e∈oj.after,Region.binds md e=true->e.on≠i:=fun e he hb heq=>by
   have h1:=hall e he hb
   have h0:=(mem_ready.1 hr).1
   rw [heq] at h1
   rcases ue i listed.size with h' | h'
   ·simp [h'] at h0 h1;rw [h0] at h1;cases h1
   simp [uK h'] at h1
  have hz':(∀w,T w)\/(listed.setIfInBounds j true).getD z false=false:=by
   rcases hT with hT | ⟨_,hw⟩
   ·exact .inl hT
   rcases hz with hz | hz
   ·exact .inl hz
   right
   rw [eW]
   ·exact hz
   intro e
   subst e
   obtain ⟨x,hx,hb,ho⟩:=pA hw hoj
   exact hnot x hx hb ho
  have h2:=wpOp_putIf hoj (hfree j oj hoj hji hjun hnot) (fun cs b=>hsel i oi cs b hi) (fun cs b=>hsel j oj cs b hoj) hQ hy h1
  have hfree':∀k ok,ops[k]? =some ok->k≠i->(listed.setIfInBounds j true).getD k true=false->
    (∀e∈ok.after,Region.binds md e=true->e.on≠i)->oi.apart ops ok=true:=fun k ok hk hki hun hno=>by
   refine hfree k ok hk hki ?_ hno
   by_cases hjk:j=k
   ·subst hjk;exact hjun
   rw [getD_set_ne true hjk] at hun;exact hun
  refine wpOp_mono (fun a' w' h3=> ?_) h2
  have hC:S w'\/(listed.setIfInBounds j true).getD z false=true:=h3.2.1.imp id (fun h=>by
   rw [Array.setIfInBounds_comm _ _ (Ne.symm hji),eW hiz] at h
   exact h)
  refine ⟨hC,ih (listed.setIfInBounds j true) a' w' hfree' (ready_mono hr (Ne.symm hji)) h3.1 hC hz' ?_⟩
  rw [Array.setIfInBounds_comm _ _ hji]
  exact h3.2.2
theorem ay (hiz:i≠z) (hzz:pR md ops z i=true) (hi:ops[i]? =some oi)
  (hs:Region.noSelect ops=true) (hf:Region.free md ops listed i=true) (hr:(Region.ready md ops listed).contains i=true) (hzl:listed.getD z false=false)
  (hQ:∀c a w,Q (.panic c) (a.put oi.dst v) w->Q (.panic c) a w) (hy:YieldsIf P ops S oi v a) (hS:S w)
  (h:cW P md ops Q S z fuel (listed.setIfInBounds i true) (a.put oi.dst v) w):cW P md ops Q S z (fuel+1) listed a w:=
 kR hiz hi (Region.noSelect_spec hs) hQ (.inr ⟨fun _ h=>h,hzz⟩) fuel listed a w (Region.free_spec hi hf) (by simpa using hr) hy (.inl hS) (.inr hzl) h
theorem aW (hiz:i≠z) (hi:ops[i]? =some oi)
  (hs:Region.noSelect ops=true) (hf:Region.free md ops listed i=true) (hr:(Region.ready md ops listed).contains i=true)
  (hQ:∀c a w,Q (.panic c) (a.put oi.dst v) w->Q (.panic c) a w) (hy:YieldsIf P ops (fun _=>True) oi v a) (hS:S w)
  (h:cW P md ops Q S z fuel (listed.setIfInBounds i true) (a.put oi.dst v) w):cW P md ops Q S z (fuel+1) listed a w:=
 kR hiz hi (Region.noSelect_spec hs) hQ (.inl fun _=>trivial) fuel listed a w (Region.free_spec hi hf) (by simpa using hr) hy (.inl hS) (.inl fun _=>trivial) h
theorem aI {o:Oper} (hr:Region.ready md ops listed= [i]) (ho:ops[i]? =some o)
  (h:∀K:Act->World->Prop,(∀a' w',(S w'\/i=z/\z<listed.size)->cW P md ops Q S z fuel (listed.setIfInBounds i true) a' w'->K a' w')->if Region.wanted o (yielded ops a.tmps)=true then Oper.wp P o a w K Q else K (a.put o.dst undef) w):cW P md ops Q S z (fuel+1) listed a w:=by
 refine ⟨fun h0=>yK,fun j hj=> ?_⟩
 rw [hr] at hj
 simp only [jS] at hj
 subst hj
 have:=h (fun a' w'=>(S w'\/(listed.setIfInBounds j true).getD z false=true)/\cW P md ops Q S z fuel (listed.setIfInBounds j true) a' w') (fun a' w' h1 h2=>⟨h1.imp id (fun h=>by
  obtain ⟨e,hl⟩:=h
  subst e
  simp [hl]),h2⟩)
 unfold wpOp
 simp only [ho]
 split
 ·rename_i hw
  exact kg1
 rename_i hw
 exact kh6
theorem bI (hr:Region.ready md ops listed= []) (h:Q .normal a w):
  ∀fuel,cW P md ops Q S z fuel listed a w
 | 0=>⟨hr,h⟩
 | _+1=>⟨fun _=>h,by rw [hr];simp⟩
theorem bJ {id:Nat} (hm:P.follows .mixedOrders=true) (hS:S w.drew)
  (h:S w.drew->cW P .any ops Q S z ops.size (Array.replicate ops.size false) a w.drew):(Code.region id ops true).wp P Q a w:=
 wp_region_any hm (nF _ _ _ _ (h hS))
end
end Go.Proofs.YtebpcnkdhgnghaaGreatDoor
namespace Go.Proofs.YtebpcnkdhgnghaaGreatDoor
open Go
variable {a:Act} {l n:Nat} {o:Oper} {w:World}
section
variable {P:Program} {ops:Array Oper} {Q:Exit→Act→World→Prop} {md:Region.Mode} {S:World→Prop}
theorem pY (hd:∀c,o.op≠ .defer c) {K:Act->World->Prop} (h:o.wp P a w K Q):o.wpIn (Fence.wide.inRound l) n P a w K Q:=by
 refine ⟨fun _ _=>trivial,?_⟩
 have e:Oper.semAt (Fence.wide.inRound l).round a.eval o=execOp a.eval o:=Oper.semAt_some l a.eval o hd
 rw [e]
 unfold Oper.wp at h
 generalize (execOp a.eval o).run P w=r at*
 cases r with
 | ok x w'=>
  cases x<;>simp only [Oper.upon,Oper.uponIn] at h |-
  case value v=>exact h
  case skip=>exact h
  case defer d=>exact h
  case enter f args=>exact ⟨fun h=>qS,CallsIn.inRound l (callsIn_wide.2 h)⟩
  case row row args=>
   refine ⟨fun h=>qS,fun c cs _=> ?_⟩
   obtain ⟨v,w'',r,s⟩:=h c cs
   exact ⟨v,w'',r,stepsIn_wide.2 s⟩
 | halt x w'=>
  cases x<;>simp only [Oper.upon,Oper.uponIn] at h |-
  case panic u=>exact h
def sL (ops:Array Oper):Bool:=ops.all fun o=>match o.op with | .defer _=>false | _=>true
theorem sV (h:sL ops=true) {i:Nat} (hi:ops[i]? =some o):∀c,o.op≠ .defer c:=by
 intro c e
 obtain ⟨hl,he⟩:=jJ.1 hi
 have:=(Array.all_eq_true.1 h) i hl
 rw [he,e] at this
 cases this
theorem de {l n:Nat} (hd:sL ops=true) (hno:¬LetsOut Q):∀(fuel:Nat) (listed:Array Bool) (a:Act) (w:World),wpAny P md ops Q fuel listed a w->wpAnyIn (Fence.wide.inRound l) n P md ops Q fuel listed a w
 | 0,_,_,_,h=>h
 | fuel+1,listed,a,w,h=>by
  refine ⟨h.1,fun i hi=> ?_⟩
  have h1:=h.2 i hi
  unfold wpOp at h1
  unfold wpOpIn
  cases ho:ops[i]? with
  | none=>
   rw [ho] at h1
   exact de hd hno fuel _ a w h1
  | some o=>
   rw [ho] at h1
   dsimp only at h1 |-
   split
   ·rename_i hw
    rw [if_pos hw] at h1
    rcases h1 with h1 | h1
    ·have h2:=pY (l:=l) (n:=n) (sV hd ho) h1
     have h3:=wpOpIn_mono (F:=Fence.wide.inRound l) (n:=n) (P:=P) (ops:=ops) (Q:=Q) (i:=i) (a:=a) (w:=w) (fun a' w' h'=>de (l:=l) (n:=n) hd hno fuel (listed.setIfInBounds i true) a' w' h') (K:=wpAny P md ops Q fuel (listed.setIfInBounds i true)) (by unfold wpOpIn;rw [ho];dsimp only;rw [if_pos hw];exact h2)
     unfold wpOpIn at h3
     rw [ho] at h3
     dsimp only at h3
     rw [if_pos hw] at h3
     exact h3
    exact absurd h1.2 hno
   rename_i hw
   rw [if_neg hw] at h1
   exact ⟨fun _ _=>trivial,de hd hno fuel _ _ w h1⟩
theorem fL {id:Nat} (hm:P.follows .mixedOrders=true) (hd:sL ops=true) (hno:¬LetsOut Q) (hS:S w.drew)
  (h:S w.drew->wpAnyH P .any ops Q S ops.size (Array.replicate ops.size false) a w.drew):(Code.region id ops true).wpIn (Fence.wide.inRound l) n P Q a w:=
 wpIn_region_any hm (de hd hno _ _ _ _ (wpAny_of_held _ _ _ _ (h hS)))
end
end Go.Proofs.YtebpcnkdhgnghaaGreatDoor
end
section
namespace Go.Proofs.YtebpcnkdhgnghaaGreatDoor
open Go.Sort
variable {B a b i j k m n:Nat}
section
variable {β:Type} (lt:β→β→Bool)
def slt (x y:β×Nat):Bool:=lt x.1 y.1 ||(!lt y.1 x.1 &&decide (x.2<y.2))
def tlt (x y:β×Nat):Bool:=lt x.1 y.1
end
section
variable {β:Type} {lt:β→β→Bool}
theorem slt_false {x y:β×Nat} :slt lt x y=false↔lt x.1 y.1=false/\(lt y.1 x.1=true\/y.2<=x.2):=by
 unfold slt
 cases h1:lt x.1 y.1<;>cases h2:lt y.1 x.1<;>simp
theorem fy (h:SWO lt):SWO (slt lt) where
 irrefl x:=by rw [slt_false];exact ⟨h.irrefl _,.inr zg⟩
 trans x y z h1 h2:=by
  have a1:¬slt lt x y=false:=by rw [h1];simp
  have a2:¬slt lt y z=false:=by rw [h2];simp
  rw [<-Bool.not_eq_false,slt_false]
  rw [slt_false] at a1 a2
  rintro ⟨b1,b2⟩
  cases xy:lt x.1 y.1 with
  | true=>
   cases yz:lt y.1 z.1 with
   | true=>rw [h.trans _ _ _ xy yz] at b1;cases b1
   | false=>
    cases zy:lt z.1 y.1 with
    | true=>exact a2 ⟨yz,.inl zy⟩
    | false=>rw [h.ntrans _ _ _ b1 zy] at xy;cases xy
  | false=>
   cases yx:lt y.1 x.1 with
   | true=>exact a1 ⟨xy,.inl yx⟩
   | false=>
    have n1:¬y.2<=x.2:=fun e=>a1 ⟨xy,.inr e⟩
    cases yz:lt y.1 z.1 with
    | true=>rw [h.ntrans _ _ _ yx b1] at yz;cases yz
    | false=>
     cases zy:lt z.1 y.1 with
     | true=>exact a2 ⟨yz,.inl zy⟩
     | false=>
      have n2:¬z.2<=y.2:=fun e=>a2 ⟨yz,.inr e⟩
      rcases b2 with b2 | b2
      ·rw [h.ntrans _ _ _ zy yx] at b2;cases b2
      omega
 ntrans x y z h1 h2:=by
  rw [slt_false] at*
  obtain ⟨xy,a1⟩:=h1
  obtain ⟨yz,a2⟩:=h2
  refine ⟨h.ntrans _ _ _ xy yz,?_⟩
  cases zx:lt z.1 x.1 with
  | true=>exact .inl rfl
  | false=>
   refine .inr ?_
   rcases a1 with yx | e1
   ·rw [h.ntrans _ _ _ yz zx] at yx;cases yx
   rcases a2 with zy | e2
   ·rw [h.ntrans _ _ _ zx xy] at zy;cases zy
   omega
theorem ee {x y:β×Nat} (h:y.2<x.2):slt lt x y=tlt lt x y:=by
 unfold slt tlt
 have:decide (x.2<y.2)=false:=zl
 simp [this]
theorem mH (h:SWO lt) {x y:β×Nat} (hx:slt lt x y=true):slt lt y x=false:=(fy h).asymmA hx
end
section
variable {β:Type} [Inhabited β] {lt:β→β→Bool}
theorem iQ (a:Nat):∀(j:Nat) (d:Array (β×Nat)),j<d.size->(∀p,a<=p->p<j->d[p]!.2<d[j]!.2)->insInner (tlt lt) a j d=insInner (slt lt) a j d
 | 0,d,_,_=>rfl
 | j+1,d,hj,h=>by
  unfold insInner
  by_cases ha:a<j+1
  ·have e:slt lt d[j+1]! d[j]! =tlt lt d[j+1]! d[j]! :=ee (h j zj zj)
   rw [e]
   split
   ·refine iQ a j _ (by rw [swp_size];omega) ?_
    intro p hp hpj
    rw [swp_get d hj zj,swp_get d hj zj]
    rw [if_neg zj,if_neg zj,if_pos rfl]
    exact h p hp zj
   rfl
  have e:decide (j+1>a)=false:=zl
  simp [e]
theorem lL {α:Type} [Inhabited α] (lt:α->α->Bool) (a b i:Nat) (d:Array α) (h:i<b):insOuter lt a b i d=insOuter lt a b (i+1) (insInner lt a i d):=by
 rw [insOuter,if_pos h]
theorem iX (hS:SWO lt) (a b:Nat):∀(n i:Nat) (d:Array (β×Nat)),b - i=n->a<i->i<=b->b<=d.size->SortedIn (slt lt) a i d->(∀p q,a<=p->p<q->i<=q->q<b->d[p]!.2<d[q]!.2)->insOuter (tlt lt) a b i d=insOuter (slt lt) a b i d
 | 0,i,d,hn,_,hib,_,_,_=>by
  obtain rfl:i=b:=zj
  rw [insOuter,if_neg zj,insOuter,if_neg zj]
 | n+1,i,d,hn,hai,hib,hb,hs,ht=>by
  have hlt:i<b:=zj
  rw [lL _ _ _ _ _ hlt,lL _ _ _ _ _ hlt,iQ a i d zj (fun p hp hpi=>ht p i hp hpi zg hlt)]
  have h1:=insInner_spec (fy hS) swp_permIn permIn_refl permIn_trans a (i+1) i (Nat.lt_succ_self _) i d zj zg zj ⟨fun p q hap hpq hqi _ hq=>hs p q hap hpq zj,fun q h1 h2=>zj⟩
  refine iX hS a b n (i+1) _ zj zj zj (by rw [h1.1.1];exact hb) h1.2 ?_
  intro p q hap hpq hiq hqb
  rw [h1.1.2.1 q (.inr zj)]
  by_cases hp:p<i+1
  ·exact permIn_all d _ a (i+1) (fun x=>x.2<d[q]!.2) zj h1.1 (fun r h1 h2=>ht r q h1 zj zj hqb) p hap hp
  rw [h1.1.2.1 p (.inr zj)]
  exact ht p q hap hpq zj hqb
theorem BI (hS:SWO lt) (d:Array (β×Nat)) (a b:Nat) (hab:a<=b) (hb:b<=d.size) (ht:∀p q,a<=p->p<q->q<b->d[p]!.2<d[q]!.2):
  PermIn a b d (insertionSort (tlt lt) d a b)/\SortedIn (slt lt) a b (insertionSort (tlt lt) d a b):=by
 have h:=insertionSort_holds (fy hS) d a b hab hb
 have e:insertionSort (tlt lt) d a b=insertionSort (slt lt) d a b:=by
  unfold insertionSort
  by_cases h1:a=b
  ·subst h1
   rw [insOuter,if_neg zj,insOuter,if_neg zj]
  exact iX hS a b _ (a+1) d rfl zj zj hb (fun i j h1 h2 h3=>zj) (fun p q h1 h2 _ h3=>ht p q h1 h2 h3)
 rw [e];exact h
end
def cE (s m e k:Nat):Nat:=if s<=k/\k<s+(e - m) then k+(m - s) else if s+(e - m)<=k/\k<e then k - (e - m) else k
section
variable {α:Type} [Inhabited α]
structure Rot (d d':Array α) (s m e:Nat):Prop where
 perm:PermIn s e d d'
 at_:∀k,d'[k]! =d[cE s m e k]!
structure Exch (d d':Array α) (a b n:Nat):Prop where
 size:d'.size=d.size
 at_:∀k,d'[k]! =d[if a<=k/\k<a+n then k+b - a else if b<=k/\k<b+n then k+a - b else k]!
 perm:∀lo hi,lo<=a->a+n<=hi->lo<=b->b+n<=hi->hi<=d.size->PermIn lo hi d d'
theorem Exch.zero (d:Array α) (a b:Nat):Exch d d a b 0:=
 ⟨rfl,fun k=>by rw [if_neg zj,if_neg zj],fun lo hi _ _ _ _ _=>permIn_refl d lo hi⟩
theorem Exch.next {d d':Array α} (h:Exch d d' a b n) (hab:a+n<b) (hb:b+n<d.size):Exch d (swp d' (a+n) (b+n)) a b (n+1):=by
 refine ⟨by rw [swp_size,h.size],fun k=> ?_,fun lo hi h1 h2 h3 h4 h5=> ?_⟩
 ·rw [swp_get d' jk jk]
  rw [h.at_,h.at_,h.at_]
  by_cases k1:k=b+n
  ·subst k1
   rw [if_pos rfl]
   congr 1
   repeat' split
   all_goals omega
  rw [if_neg k1]
  by_cases k2:k=a+n
  ·subst k2
   rw [if_pos rfl]
   congr 1
   repeat' split
   all_goals omega
  rw [if_neg k2]
  congr 1
  repeat' split
  all_goals omega
 have p1:=h.perm lo hi h1 zj h3 zj h5
 exact permIn_trans _ _ _ lo hi p1 (swp_permIn d' lo hi (a+n) (b+n) zj zj zj zj jk)
theorem Rot.left {d d1 d2:Array α} (him:i<=m) (hij:j<i) (hsz:m+j<=d.size) (h1:Exch d d1 (m - i) m j) (h2:Rot d1 d2 (m - (i - j)) m (m+j)):Rot d d2 (m - i) m (m+j):=by
 refine ⟨?_,fun k=> ?_⟩
 ·have p1:=h1.perm (m - i) (m+j) zj zj zj zj hsz
  exact permIn_trans _ _ _ _ _ p1 (permIn_mono d1 d2 _ _ _ _ zj zg (by rw [h1.size];exact hsz) h2.perm)
 rw [h2.at_,h1.at_]
 congr 1
 unfold cE
 repeat' split
 all_goals omega
theorem Rot.right {d d1 d2:Array α} (him:i<=m) (hij:i<j) (hsz:m+j<=d.size) (h1:Exch d d1 (m - i) (m+j - i) i) (h2:Rot d1 d2 (m - i) m (m+(j - i))):Rot d d2 (m - i) m (m+j):=by
 refine ⟨?_,fun k=> ?_⟩
 ·have p1:=h1.perm (m - i) (m+j) zj zj zj zj hsz
  exact permIn_trans _ _ _ _ _ p1 (permIn_mono d1 d2 _ _ _ _ zg zj (by rw [h1.size];exact hsz) h2.perm)
 rw [h2.at_,h1.at_]
 congr 1
 unfold cE
 repeat' split
 all_goals omega
theorem Rot.both {d d1:Array α} (him:i<=m) (hsz:m+i<=d.size) (h1:Exch d d1 (m - i) m i):Rot d d1 (m - i) m (m+i):=by
 refine ⟨h1.perm (m - i) (m+i) zj zj zj zj hsz,fun k=> ?_⟩
 rw [h1.at_]
 congr 1
 unfold cE
 repeat' split
 all_goals omega
theorem Rot.none (d:Array α) (s m e:Nat) (hs:s<=m) (he:m<=e) (h:s=m\/m=e):Rot d d s m e:=by
 refine ⟨permIn_refl d s e,fun k=> ?_⟩
 congr 1
 unfold cE
 repeat' split
 all_goals omega
theorem Rot.up {d d':Array α} (h:Rot d d' a (a+1) (k+1)) (hak:a<=k) (hk:k+1<d.size):Rot d (swp d' k (k+1)) a (a+1) (k+2):=by
 have hs:d'.size=d.size:=h.perm.1
 refine ⟨permIn_trans _ _ _ _ _ (permIn_mono d d' _ _ _ _ zg zj zj h.perm) (swp_permIn d' a (k+2) k (k+1) hak zj zj zj zj),fun x=> ?_⟩
 rw [swp_get d' zj zj,h.at_,h.at_,h.at_]
 by_cases x1:x=k+1
 ·subst x1
  rw [if_pos rfl]
  congr 1
  unfold cE
  repeat' split
  all_goals omega
 rw [if_neg x1]
 by_cases x2:x=k
 ·subst x2
  rw [if_pos rfl]
  congr 1
  unfold cE
  repeat' split
  all_goals omega
 rw [if_neg x2]
 congr 1
 unfold cE
 repeat' split
 all_goals omega
theorem Rot.down {d d':Array α} (h:Rot d d' (k+1) m (m+1)) (hkm:k+1<=m) (hm:m<d.size):Rot d (swp d' (k+1) k) k m (m+1):=by
 have hs:d'.size=d.size:=h.perm.1
 refine ⟨permIn_trans _ _ _ _ _ (permIn_mono d d' _ _ _ _ zj zg zj h.perm) (swp_permIn d' k (m+1) (k+1) k zj zj zj zj zj),fun x=> ?_⟩
 rw [swp_get d' zj zj,h.at_,h.at_,h.at_]
 by_cases x1:x=k
 ·subst x1
  rw [if_pos rfl]
  congr 1
  unfold cE
  repeat' split
  all_goals omega
 rw [if_neg x1]
 by_cases x2:x=k+1
 ·subst x2
  rw [if_pos rfl]
  congr 1
  unfold cE
  repeat' split
  all_goals omega
 rw [if_neg x2]
 congr 1
 unfold cE
 repeat' split
 all_goals omega
end
section
variable {β:Type} [Inhabited β] {lt:β→β→Bool}
structure Runs (lt:β->β->Bool) (a m b:Nat) (d:Array (β×Nat)):Prop where
 one:SortedIn (slt lt) a m d
 two:SortedIn (slt lt) m b d
 tag:∀p q,a<=p->p<m->m<=q->q<b->d[p]!.2<d[q]!.2
theorem Runs.le_one {d:Array (β×Nat)} (hS:SWO lt) (h:Runs lt a m b d) (hi:a<=i) (hij:i<=j) (hj:j<m):slt lt d[j]! d[i]! =false:=by
 by_cases e:i=j
 ·subst e;exact (fy hS).irrefl _
 exact h.one i j hi zj hj
theorem Runs.le_two {d:Array (β×Nat)} (hS:SWO lt) (h:Runs lt a m b d) (hi:m<=i) (hij:i<=j) (hj:j<b):slt lt d[j]! d[i]! =false:=by
 by_cases e:i=j
 ·subst e;exact (fy hS).irrefl _
 exact h.two i j hi zj hj
theorem Runs.cut (hS:SWO lt) {s e:Nat} {d d':Array (β×Nat)} (h:Runs lt a m b d) (h1:a<=s) (h2:s<=m) (h3:m<=e) (h4:e<=b)
  (hlo:a<s->e<b->tlt lt d[e]! d[s - 1]! =false) (hhi:s<m->m<e->tlt lt d[e - 1]! d[s]! =true) (hR:Rot d d' s m e):
  Runs lt a s (s+(e - m)) d'/\Runs lt (s+(e - m)) e b d'/\∀p q,a<=p->p<s+(e - m)->s+(e - m)<=q->q<b->slt lt d'[q]! d'[p]! =false:=by
 have W:=fy hS
 have lo:a<s->e<b->slt lt d[e]! d[s - 1]! =false:=fun x y=>by rw [ee (h.tag (s - 1) e zj zj h3 y)];exact hlo x y
 have hi:s<m->m<e->slt lt d[s]! d[e - 1]! =false:=fun x y=>mH hS (by rw [ee (h.tag s (e - 1) h1 x zj zj)];exact hhi x y)
 have g:=hR.at_
 refine ⟨⟨?_,?_,?_⟩,⟨?_,?_,?_⟩,?_⟩
 ·intro i j hi hij hj
  rw [g,g,cE,if_neg zj,if_neg zj,cE,if_neg zj,if_neg zj]
  exact h.one i j hi hij zj
 ·intro i j hi hij hj
  rw [g,g,cE,if_pos zj,cE,if_pos zj]
  exact kh4
 ·intro p q hp hps hq hqb
  rw [g,g,cE,if_neg zj,if_neg zj,cE,if_pos zj]
  exact h.tag _ _ hp zj zj zj
 ·intro i j hi hij hj
  rw [g,g,cE,if_neg zj,if_pos zj,cE,if_neg zj,if_pos zj]
  exact ki9
 ·intro i j hi hij hj
  rw [g,g,cE,if_neg zj,if_neg zj,cE,if_neg zj,if_neg zj]
  exact kh4
 ·intro p q hp hps hq hqb
  rw [g,g,cE,if_neg zj,if_pos zj,cE,if_neg zj,if_neg zj]
  exact h.tag _ _ zj zj zj zj
 intro p q hp hpm hq hqb
 rw [g,g]
 by_cases c1:p<s
 ·rw [show cE s m e p=p by rw [cE,if_neg zj,if_neg zj]]
  by_cases c2:q<e
  ·rw [show cE s m e q=q - (e - m) by rw [cE,if_neg zj,if_pos zj]]
   exact h.one _ _ hp zj zj
  rw [show cE s m e q=q by rw [cE,if_neg zj,if_neg zj]]
  have x1:=h.le_two hS (i:=e) (j:=q) zj zj hqb
  have x2:=lo zj zj
  have x3:=h.le_one hS (i:=p) (j:=s - 1) hp zj zj
  exact W.ntrans _ _ _ x1 (W.ntrans _ _ _ x2 x3)
 rw [show cE s m e p=p+(m - s) by rw [cE,if_pos zj]]
 by_cases c2:q<e
 ·rw [show cE s m e q=q - (e - m) by rw [cE,if_neg zj,if_pos zj]]
  have x1:=h.le_one hS (i:=s) (j:=q - (e - m)) zj zj zj
  have x2:=hi zj zj
  have x3:=h.le_two hS (i:=p+(m - s)) (j:=e - 1) zj zj zj
  exact W.ntrans _ _ _ x1 (W.ntrans _ _ _ x2 x3)
 rw [show cE s m e q=q by rw [cE,if_neg zj,if_neg zj]]
 exact h.two _ _ zj zj hqb
theorem Runs.sorted {d:Array (β×Nat)} (h:Runs lt a m b d) (he:a=m\/m=b):SortedIn (slt lt) a b d:=by
 rcases he with rfl | rfl
 ·exact h.two
 exact h.one
theorem df {c:Nat} {d d1 d2:Array (β×Nat)} (hac:a<=c) (hcb:c<=b) (hb:b<=d.size) (hx:∀p q,a<=p->p<c->c<=q->q<b->slt lt d[q]! d[p]! =false)
  (p1:PermIn a c d d1) (s1:SortedIn (slt lt) a c d1) (p2:PermIn c b d1 d2) (s2:SortedIn (slt lt) c b d2):PermIn a b d d2/\SortedIn (slt lt) a b d2:=by
 refine ⟨permIn_trans _ _ _ _ _ (permIn_mono d d1 _ _ _ _ zg hcb hb p1) (permIn_mono d1 d2 _ _ _ _ hac zg (by rw [p1.1];exact hb) p2),fun i j hi hij hj=> ?_⟩
 by_cases h1:j<c
 ·rw [p2.2.1 i (.inl zj),p2.2.1 j (.inl h1)]
  exact s1 i j hi hij h1
 by_cases h2:c<=i
 ·exact s2 i j h2 hij hj
 rw [p2.2.1 i (.inl zj)]
 have q1:∀q,c<=q->q<b->slt lt d2[q]! d1[i]! =false:=by
  refine permIn_all d1 d2 c b (fun x=>slt lt x d1[i]! =false) (by rw [p1.1];exact hb) p2 ?_
  intro q hq hqb
  rw [p1.2.1 q (.inr hq)]
  exact permIn_all d d1 a c (fun x=>slt lt d[q]! x=false) zj p1 (fun r hr hrc=>hx r q hr hrc hq hqb) i hi zj
 exact q1 j zj hj
theorem Runs.first (hS:SWO lt) {d d':Array (β×Nat)} (h:Runs lt a (a+1) b d) (h1:a+1<=i) (h2:i<=b)
  (hlo:a+1<i->tlt lt d[i - 1]! d[a]! =true) (hhi:i<b->tlt lt d[i]! d[a]! =false) (hR:Rot d d' a (a+1) i):SortedIn (slt lt) a b d':=by
 have W:=fy hS
 have lo:a+1<i->slt lt d[a]! d[i - 1]! =false:=fun x=>mH hS (by rw [ee (h.tag a (i - 1) zj zj zj zj)];exact hlo x)
 have hi:i<b->slt lt d[i]! d[a]! =false:=fun x=>by rw [ee (h.tag a i zj zj h1 x)];exact hhi x
 have g:=hR.at_
 intro p q hp hpq hq
 rw [g,g]
 by_cases c1:q<i - 1
 ·rw [cE,if_pos zj,cE,if_pos zj]
  exact kh4
 by_cases c2:q=i - 1
 ·rw [show cE a (a+1) i q=a by rw [cE,if_neg zj,if_pos zj];omega,cE,if_pos zj]
  have x1:=lo zj
  have x2:=h.le_two hS (i:=p+(a+1 - a)) (j:=i - 1) zj zj zj
  exact W.ntrans _ _ _ x1 x2
 rw [show cE a (a+1) i q=q by rw [cE,if_neg zj,if_neg zj]]
 by_cases c3:p<i - 1
 ·rw [cE,if_pos zj]
  exact kh4
 by_cases c4:p=i - 1
 ·rw [show cE a (a+1) i p=a by rw [cE,if_neg zj,if_pos zj];omega]
  have x1:=h.le_two hS (i:=i) (j:=q) zj zj zj
  exact W.ntrans _ _ _ x1 (hi zj)
 rw [show cE a (a+1) i p=p by rw [cE,if_neg zj,if_neg zj]]
 exact kh4
theorem Runs.last (hS:SWO lt) {d d':Array (β×Nat)} (h:Runs lt a m (m+1) d) (h1:a<=i) (h2:i<=m)
  (hlo:a<i->tlt lt d[m]! d[i - 1]! =false) (hhi:i<m->tlt lt d[m]! d[i]! =true) (hR:Rot d d' i m (m+1)):SortedIn (slt lt) a (m+1) d':=by
 have W:=fy hS
 have lo:a<i->slt lt d[m]! d[i - 1]! =false:=fun x=>by rw [ee (h.tag (i - 1) m zj zj zj zj)];exact hlo x
 have hi:i<m->slt lt d[i]! d[m]! =false:=fun x=>mH hS (by rw [ee (h.tag i m h1 x zj zj)];exact hhi x)
 have g:=hR.at_
 intro p q hp hpq hq
 rw [g,g]
 by_cases c1:q<i
 ·rw [cE,if_neg zj,if_neg zj,cE,if_neg zj,if_neg zj]
  exact ki9
 by_cases c2:q=i
 ·rw [show cE i m (m+1) q=m by rw [cE,if_pos zj];omega,show cE i m (m+1) p=p by rw [cE,if_neg zj,if_neg zj]]
  have x2:=h.le_one hS (i:=p) (j:=i - 1) zj zj zj
  exact W.ntrans _ _ _ (lo zj) x2
 rw [show cE i m (m+1) q=q - 1 by rw [cE,if_neg zj,if_pos zj];omega]
 by_cases c3:p<i
 ·rw [show cE i m (m+1) p=p by rw [cE,if_neg zj,if_neg zj]]
  exact ki9
 by_cases c4:p=i
 ·rw [show cE i m (m+1) p=m by rw [cE,if_pos zj];omega]
  have x1:=h.le_one hS (i:=i) (j:=q - 1) zj zj zj
  exact W.ntrans _ _ _ x1 (hi zj)
 rw [show cE i m (m+1) p=p - 1 by rw [cE,if_neg zj,if_pos zj];omega]
 exact ki9
end
section
variable {β:Type} [Inhabited β] {lt:β→β→Bool}
def OA (B i j:Nat):Prop:=∀c,c*B<=j->c*B<=i
structure Blocks (lt:β->β->Bool) (B a n:Nat) (d:Array (β×Nat)):Prop where
 tag:∀p,p<n->∀c,c*B<=p↔c*B<=d[p]!.2
 done:∀i j,i<j->j<a->OA B i j->slt lt d[j]! d[i]! =false
structure Half (lt:β->β->Bool) (B a n:Nat) (d:Array (β×Nat)):Prop where
 tag:∀p,p<n->∀c,c*(2*B)<=p↔c*(2*B)<=d[p]!.2
 tag1:∀p,a<=p->p<n->∀c,c*B<=p↔c*B<=d[p]!.2
 done:∀i j,i<j->j<a->OA (2*B) i j->slt lt d[j]! d[i]! =false
 rest:∀i j,a<=i->i<j->j<n->OA B i j->slt lt d[j]! d[i]! =false
theorem Blocks.half {d:Array (β×Nat)} (h:Blocks lt B n n d):Half lt B 0 n d:=by
 refine ⟨fun p hp c=> ?_,fun p _ hp c=>h.tag p hp c,fun i j _ hj=>zj,fun i j _ hij hj hs=>h.done i j hij hj hs⟩
 have e:c*(2*B)=(c*2)*B:=by rw [Nat.mul_assoc]
 rw [e];exact h.tag p hp _
theorem Half.runs {c:Nat} {d:Array (β×Nat)} (h:Half lt B a n d) (ha:a=c*(2*B)) (hm:m=a+B) (hmb:m<=b) (hb:b<=a+2*B) (hbn:b<=n):Runs lt a m b d:=by
 have e1:(2*c)*B=a:=by rw [ha,uY 2 c,Nat.mul_assoc]
 have e2:(2*c+1)*B=m:=by rw [uA,e1,hm];omega
 have e3:(2*c+2)*B=a+2*B:=by rw [uA,e1]
 have up:∀x y,x<=y->x*B<=y*B:=fun x y hxy=>vK B hxy
 refine ⟨fun i j hi hij hj=>h.rest i j hi hij zj (fun x hx=> ?_),fun i j hi hij hj=>h.rest i j zj hij zj (fun x hx=> ?_),fun p q hp hpm hq hqb=> ?_⟩
 ·by_cases hx1:x<=2*c
  ·have:=up _ _ hx1;omega
  have:=up (2*c+1) x zj;omega
 ·by_cases hx1:x<=2*c+1
  ·have:=up _ _ hx1;omega
  have:=up (2*c+2) x zj;omega
 have h1:¬(2*c+1)*B<=d[p]!.2:=fun hx=>by have:=(h.tag1 p hp zj (2*c+1)).2 hx;omega
 have h2:=(h.tag1 q zj zj (2*c+1)).1 zj
 omega
theorem Half.step {c:Nat} {d d':Array (β×Nat)} (h:Half lt B a n d) (hn:n=d.size) (ha:a=c*(2*B)) (hab:a<=b) (hbn:b<=n) (hb:b=a+2*B\/b=n/\n<=a+2*B) (hp:PermIn a b d d') (hs:SortedIn (slt lt) a b d'):Half lt B b n d':=by
 have e3:(c+1)*(2*B)=a+2*B:=by rw [uA,ha];omega
 have up:∀x y,x<=y->x*(2*B)<=y*(2*B):=fun x y hxy=>vK _ hxy
 refine ⟨fun p hpn x=> ?_,fun p hbp hpn x=> ?_,fun i j hij hj hsm=> ?_,fun i j hi hij hj hsm=> ?_⟩
 ·by_cases h1:a<=p/\p<b
  ·have key:∀q,a<=q->q<b->(x*(2*B)<=d'[q]!.2↔x<=c):=by
    refine permIn_all d d' a b (fun y=>x*(2*B)<=y.2↔x<=c) zj hp ?_
    intro q hq hqb
    rw [<-h.tag q zj x]
    constructor
    ·intro hx
     rcases ue c x with hc | hc
     ·have:=up (c+1) x hc;omega
     exact hc
    exact ko5
   rw [key p h1.1 h1.2]
   constructor
   ·intro hx
    rcases ue c x with hc | hc
    ·have:=up (c+1) x hc;omega
    exact hc
   exact ko5
  rw [hp.2.1 p zj];exact h.tag p hpn x
 ·rw [hp.2.1 p (.inr hbp)];exact h.tag1 p zj hpn x
 ·by_cases h1:j<a
  ·exact kn6
  have:=hsm c zj
  exact hs i j zj hij hj
 rw [hp.2.1 i (.inr zj),hp.2.1 j (.inr zj)];exact h.rest i j zj hij hj hsm
theorem Half.end_ {c:Nat} {d:Array (β×Nat)} (h:Half lt B a n d) (ha:a=c*(2*B)) (hB:n<=a+B):Blocks lt (2*B) n n d:=by
 refine ⟨h.tag,fun i j hij hj hsm=> ?_⟩
 by_cases h1:j<a
 ·exact h.done i j hij h1 hsm
 have:=hsm c zj
 refine h.rest i j zj hij hj (fun x hx=> ?_)
 have e1:(2*c)*B=a:=by rw [ha,uY 2 c,Nat.mul_assoc]
 have e2:(2*c+1)*B=a+B:=by rw [uA,e1];omega
 by_cases hx1:x<=2*c
 ·have:x*B<=(2*c)*B:=vK B hx1;omega
 have:(2*c+1)*B<=x*B:=vK B zj;omega
theorem Half.end_all {d:Array (β×Nat)} (h:Half lt B n n d):Blocks lt (2*B) n n d:=⟨h.tag,h.done⟩
theorem Blocks.step {c:Nat} {d d':Array (β×Nat)} (h:Blocks lt B a n d) (hn:n=d.size) (ha:a=c*B) (hbn:b<=n) (hb:b=a+B\/b=n/\n<=a+B) (hp:PermIn a b d d') (hs:SortedIn (slt lt) a b d'):Blocks lt B b n d':=by
 have e3:(c+1)*B=a+B:=by rw [uA,ha];omega
 have up:∀x y,x<=y->x*B<=y*B:=fun x y hxy=>vK _ hxy
 refine ⟨fun p hpn x=> ?_,fun i j hij hj hsm=> ?_⟩
 ·by_cases h1:a<=p/\p<b
  ·have key:∀q,a<=q->q<b->(x*B<=d'[q]!.2↔x<=c):=by
    refine permIn_all d d' a b (fun y=>x*B<=y.2↔x<=c) zj hp ?_
    intro q hq hqb
    rw [<-h.tag q zj x]
    constructor
    ·intro hx
     rcases ue c x with hc | hc
     ·have:=up (c+1) x hc;omega
     exact hc
    exact ko5
   rw [key p h1.1 h1.2]
   constructor
   ·intro hx
    rcases ue c x with hc | hc
    ·have:=up (c+1) x hc;omega
    exact hc
   exact ko5
  rw [hp.2.1 p zj];exact h.tag p hpn x
 by_cases h1:j<a
 ·exact kn6
 have:=hsm c zj
 exact hs i j zj hij hj
theorem Blocks.all {d:Array (β×Nat)} (h:Blocks lt B n n d) (hn:n<=B):SortedIn (slt lt) 0 n d:=fun i j _ hij hj=>h.done i j hij hj fun c hc=>by
 cases c with
 | zero=>simp
 | succ c=>
  have:1*B<=(c+1)*B:=vK B zj
  omega
end
section
variable {β:Type} {lt:β→β→Bool}
theorem wL {β:Type} [Inhabited β] {lt:β->β->Bool} (d:Array (β×Nat)) (h:SortedIn (slt lt) 0 d.size d):d.toList.Pairwise (fun u v=>slt lt v u=false):=by
 rw [vO]
 intro i j hi hj hij
 have:=h i j (jX _) hij yj
 rw [getElem!_pos d i qQ,getElem!_pos d j yj] at this
 exact kn3
end
end Go.Proofs.YtebpcnkdhgnghaaGreatDoor
end
section
namespace Go.Proofs.YtebpcnkdhgnghaaGreatDoor
open Go.RowKit
def eqB (t b n:Int) (k:Nat) (node other:Int) (name value:ByteArray) (t' b' n':Int) (k':Nat) (node' other':Int) (name' value':ByteArray):Bool:=decide (t=t'/\b=b'/\n=n'/\k=k'/\node=node'/\other=other'/\name=name'/\value=value')
theorem Of (t b n:Int) (k:Nat) (node other:Int) (name value:ByteArray) (t' b' n':Int) (k':Nat) (node' other':Int) (name' value':ByteArray) (w:World):(Op.equalIn 10000 61 (.agg #[.int .i64 t,.int .i64 b,.int .i64 n,.int .u8 (k:Int),.int .i64 node,.int .i64 other,.string name,.string value]) (.agg #[.int .i64 t',.int .i64 b',.int .i64 n',.int .u8 (k':Int),.int .i64 node',.int .i64 other',.string name',.string value'])).run Tryz.prog w= .ok (eqB t b n k node other name value t' b' n' k' node' other' name' value') w:=by
 have hs:∀x y:ByteArray,x.toList=y.toList↔x=y:=fun x y=>⟨fun h=>by rw [vH,vH] at h;exact WideShapes.bytes_inj h,fun h=>by rw [h]⟩
 unfold eqB
 go_simp
 simp only [Int.natCast_inj]
 by_cases h1:t=t'<;>by_cases h2:b=b'<;>by_cases h3:n=n'<;>by_cases h4:k=k'<;>by_cases h5:node=node'<;>by_cases h6:other=other'<;>by_cases h7:name=name'<;>by_cases h8:value=value'<;>simp [h1,h2,h3,h4,h5,h6,h7,h8]
theorem As (t b n:Int) (k:Nat) (node other:Int) (name value:ByteArray):eqB t b n k node other name value t b n k node other name value=true:=by simp [eqB]
end Go.Proofs.YtebpcnkdhgnghaaGreatDoor
end
section
namespace Go.Proofs.YtebpcnkdhgnghaaGreatDoor
open Go.Proofs.Tryz
open Go.Shelf
set_option maxRecDepth 100000
def rC:Ren:=⟨fun | 6=>169 | 14=>225 | 15=>174 | 20=>277 | 21=>278 | 22=>279 | 23=>280 | 24=>281 | 25=>282 | 26=>283 | 27=>284 | 28=>235 | 29=>236 | 46=>326 | 47=>286 | 48=>287 | 49=>327 | 50=>328 | 57=>348 | n=>n,fun | 0=>0 | 3=>3 | 4=>4 | 5=>5 | 9=>9 | 22=>105 | 24=>119 | 25=>198 | 39=>277 | 45=>335 | 46=>336 | 50=>296 | 53=>342 | 55=>325 | 66=>375 | 70=>379 | 76=>403 | 77=>76 | n=>n,fun n=>n⟩
theorem Ar:SlLaysF0.n6 prog rC where
 mixed:=zk
 f6:=⟨ "slices.SortFunc[[]concordat/tree.Place,concordat/tree.Place]",zk,func169.trans (congrArg some zk)⟩
 f14:=⟨ "slices.pdqsortCmpFunc[concordat/tree.Place]",zk,func225.trans (congrArg some zk)⟩
 f15:=func174.trans (congrArg some zk)
 f20:=⟨ "slices.insertionSortCmpFunc[concordat/tree.Place]",zk,func277.trans (congrArg some zk)⟩
 f21:=⟨ "slices.heapSortCmpFunc[concordat/tree.Place]",zk,func278.trans (congrArg some zk)⟩
 f22:=⟨ "slices.breakPatternsCmpFunc[concordat/tree.Place]",zk,func279.trans (congrArg some zk)⟩
 f23:=⟨ "slices.choosePivotCmpFunc[concordat/tree.Place]",zk,func280.trans (congrArg some zk)⟩
 f24:=⟨ "slices.reverseRangeCmpFunc[concordat/tree.Place]",zk,func281.trans (congrArg some zk)⟩
 f25:=⟨ "slices.partialInsertionSortCmpFunc[concordat/tree.Place]",zk,func282.trans (congrArg some zk)⟩
 f26:=⟨ "slices.partitionEqualCmpFunc[concordat/tree.Place]",zk,func283.trans (congrArg some zk)⟩
 f27:=⟨ "slices.partitionCmpFunc[concordat/tree.Place]",zk,func284.trans (congrArg some zk)⟩
 f28:=func235.trans (congrArg some zk)
 f29:=func236.trans (congrArg some zk)
 f46:=⟨ "slices.siftDownCmpFunc[concordat/tree.Place]",zk,func326.trans (congrArg some zk)⟩
 f47:=func286.trans (congrArg some zk)
 f48:=func287.trans (congrArg some zk)
 f49:=⟨ "slices.medianAdjacentCmpFunc[concordat/tree.Place]",zk,func327.trans (congrArg some zk)⟩
 f50:=⟨ "slices.medianCmpFunc[concordat/tree.Place]",zk,func328.trans (congrArg some zk)⟩
 f57:=⟨ "slices.order2CmpFunc[concordat/tree.Place]",zk,func348.trans (congrArg some zk)⟩
 t0:=underlying0
 a0:=isAgg0
 z0:=sizeOf0
 v0:=zeroValue0
 t3:=underlying3
 a3:=isAgg3
 z3:=sizeOf3
 v3:=zeroValue3
 t4:=underlying4
 a4:=isAgg4
 z4:=sizeOf4
 v4:=zeroValue4
 t5:=underlying5
 a5:=isAgg5
 z5:=sizeOf5
 v5:=zeroValue5
 t9:=underlying9
 a9:=isAgg9
 z9:=sizeOf9
 v9:=zeroValue9
 t22:=underlying105
 a22:=isAgg105
 z22:=sizeOf105
 v22:=zeroValue105
 t25:=underlying198
 a25:=isAgg198
 z25:=sizeOf198
 v25:=zeroValue198
 t39:=underlying277
 a39:=isAgg277
 z39:=sizeOf277
 v39:=zeroValue277
 t45:=underlying335
 a45:=isAgg335
 z45:=sizeOf335
 v45:=zeroValue335
 t46:=underlying336
 a46:=isAgg336
 z46:=sizeOf336
 v46:=zeroValue336
 t50:=underlying296
 a50:=isAgg296
 z50:=sizeOf296
 v50:=zeroValue296
 t53:=underlying342
 a53:=isAgg342
 z53:=sizeOf342
 v53:=zeroValue342
 t55:=underlying325
 a55:=isAgg325
 z55:=sizeOf325
 v55:=zeroValue325
 t66:=underlying375
 a66:=isAgg375
 z66:=sizeOf375
 v66:=zeroValue375
 t70:=underlying379
 a70:=isAgg379
 z70:=sizeOf379
 v70:=zeroValue379
 t76:=underlying403
 a76:=isAgg403
 z76:=sizeOf403
 v76:=zeroValue403
 t77:=underlying76
 a77:=isAgg76
 z77:=sizeOf76
 v77:=zeroValue76
end Go.Proofs.YtebpcnkdhgnghaaGreatDoor
end
section
namespace Go.Proofs.YtebpcnkdhgnghaaGreatDoor
open Go.Proofs.Tryz
open Go.Shelf
set_option maxRecDepth 100000
def oD:Ren:=⟨fun | 6=>105 | 14=>175 | 15=>174 | 20=>237 | 21=>238 | 22=>239 | 23=>240 | 24=>241 | 25=>242 | 26=>243 | 27=>244 | 28=>235 | 29=>236 | 46=>290 | 47=>286 | 48=>287 | 49=>291 | 50=>292 | 57=>330 | n=>n,fun | 0=>0 | 3=>3 | 4=>4 | 5=>5 | 9=>9 | 22=>125 | 24=>128 | 25=>210 | 39=>277 | 45=>335 | 46=>336 | 50=>296 | 53=>342 | 55=>325 | 66=>375 | 70=>379 | 76=>403 | 77=>76 | n=>n,fun n=>n⟩
theorem ri:SlLaysF0.n6 prog oD where
 mixed:=zk
 f6:=⟨ "slices.SortFunc[[]concordat/cells.Mark,concordat/cells.Mark]",zk,func105.trans (congrArg some zk)⟩
 f14:=⟨ "slices.pdqsortCmpFunc[concordat/cells.Mark]",zk,func175.trans (congrArg some zk)⟩
 f15:=func174.trans (congrArg some zk)
 f20:=⟨ "slices.insertionSortCmpFunc[concordat/cells.Mark]",zk,func237.trans (congrArg some zk)⟩
 f21:=⟨ "slices.heapSortCmpFunc[concordat/cells.Mark]",zk,func238.trans (congrArg some zk)⟩
 f22:=⟨ "slices.breakPatternsCmpFunc[concordat/cells.Mark]",zk,func239.trans (congrArg some zk)⟩
 f23:=⟨ "slices.choosePivotCmpFunc[concordat/cells.Mark]",zk,func240.trans (congrArg some zk)⟩
 f24:=⟨ "slices.reverseRangeCmpFunc[concordat/cells.Mark]",zk,func241.trans (congrArg some zk)⟩
 f25:=⟨ "slices.partialInsertionSortCmpFunc[concordat/cells.Mark]",zk,func242.trans (congrArg some zk)⟩
 f26:=⟨ "slices.partitionEqualCmpFunc[concordat/cells.Mark]",zk,func243.trans (congrArg some zk)⟩
 f27:=⟨ "slices.partitionCmpFunc[concordat/cells.Mark]",zk,func244.trans (congrArg some zk)⟩
 f28:=func235.trans (congrArg some zk)
 f29:=func236.trans (congrArg some zk)
 f46:=⟨ "slices.siftDownCmpFunc[concordat/cells.Mark]",zk,func290.trans (congrArg some zk)⟩
 f47:=func286.trans (congrArg some zk)
 f48:=func287.trans (congrArg some zk)
 f49:=⟨ "slices.medianAdjacentCmpFunc[concordat/cells.Mark]",zk,func291.trans (congrArg some zk)⟩
 f50:=⟨ "slices.medianCmpFunc[concordat/cells.Mark]",zk,func292.trans (congrArg some zk)⟩
 f57:=⟨ "slices.order2CmpFunc[concordat/cells.Mark]",zk,func330.trans (congrArg some zk)⟩
 t0:=underlying0
 a0:=isAgg0
 z0:=sizeOf0
 v0:=zeroValue0
 t3:=underlying3
 a3:=isAgg3
 z3:=sizeOf3
 v3:=zeroValue3
 t4:=underlying4
 a4:=isAgg4
 z4:=sizeOf4
 v4:=zeroValue4
 t5:=underlying5
 a5:=isAgg5
 z5:=sizeOf5
 v5:=zeroValue5
 t9:=underlying9
 a9:=isAgg9
 z9:=sizeOf9
 v9:=zeroValue9
 t22:=underlying125
 a22:=isAgg125
 z22:=sizeOf125
 v22:=zeroValue125
 t25:=underlying210
 a25:=isAgg210
 z25:=sizeOf210
 v25:=zeroValue210
 t39:=underlying277
 a39:=isAgg277
 z39:=sizeOf277
 v39:=zeroValue277
 t45:=underlying335
 a45:=isAgg335
 z45:=sizeOf335
 v45:=zeroValue335
 t46:=underlying336
 a46:=isAgg336
 z46:=sizeOf336
 v46:=zeroValue336
 t50:=underlying296
 a50:=isAgg296
 z50:=sizeOf296
 v50:=zeroValue296
 t53:=underlying342
 a53:=isAgg342
 z53:=sizeOf342
 v53:=zeroValue342
 t55:=underlying325
 a55:=isAgg325
 z55:=sizeOf325
 v55:=zeroValue325
 t66:=underlying375
 a66:=isAgg375
 z66:=sizeOf375
 v66:=zeroValue375
 t70:=underlying379
 a70:=isAgg379
 z70:=sizeOf379
 v70:=zeroValue379
 t76:=underlying403
 a76:=isAgg403
 z76:=sizeOf403
 v76:=zeroValue403
 t77:=underlying76
 a77:=isAgg76
 z77:=sizeOf76
 v77:=zeroValue76
end Go.Proofs.YtebpcnkdhgnghaaGreatDoor
end
section
namespace Go.Proofs.YtebpcnkdhgnghaaGreatDoor
open Go.Proofs.Tryz
open Go.Shelf
set_option maxRecDepth 100000
def sY:Ren:=⟨fun | 6=>191 | 14=>254 | 15=>174 | 20=>256 | 21=>298 | 22=>299 | 23=>300 | 24=>301 | 25=>302 | 26=>303 | 27=>304 | 28=>235 | 29=>236 | 46=>334 | 47=>286 | 48=>287 | 49=>335 | 50=>336 | 57=>349 | n=>n,fun | 0=>0 | 3=>3 | 4=>4 | 5=>5 | 9=>9 | 22=>25 | 24=>61 | 25=>228 | 39=>277 | 45=>335 | 46=>336 | 50=>296 | 53=>342 | 55=>325 | 66=>375 | 70=>379 | 76=>403 | 77=>76 | n=>n,fun n=>n⟩
theorem AO:SlLaysF0.n6 prog sY where
 mixed:=zk
 f6:=⟨ "slices.SortFunc[[]concordat/api.Op,concordat/api.Op]",zk,func191.trans (congrArg some zk)⟩
 f14:=⟨ "slices.pdqsortCmpFunc[concordat/api.Op]",zk,func254.trans (congrArg some zk)⟩
 f15:=func174.trans (congrArg some zk)
 f20:=⟨ "slices.insertionSortCmpFunc[concordat/api.Op]",zk,func256.trans (congrArg some zk)⟩
 f21:=⟨ "slices.heapSortCmpFunc[concordat/api.Op]",zk,func298.trans (congrArg some zk)⟩
 f22:=⟨ "slices.breakPatternsCmpFunc[concordat/api.Op]",zk,func299.trans (congrArg some zk)⟩
 f23:=⟨ "slices.choosePivotCmpFunc[concordat/api.Op]",zk,func300.trans (congrArg some zk)⟩
 f24:=⟨ "slices.reverseRangeCmpFunc[concordat/api.Op]",zk,func301.trans (congrArg some zk)⟩
 f25:=⟨ "slices.partialInsertionSortCmpFunc[concordat/api.Op]",zk,func302.trans (congrArg some zk)⟩
 f26:=⟨ "slices.partitionEqualCmpFunc[concordat/api.Op]",zk,func303.trans (congrArg some zk)⟩
 f27:=⟨ "slices.partitionCmpFunc[concordat/api.Op]",zk,func304.trans (congrArg some zk)⟩
 f28:=func235.trans (congrArg some zk)
 f29:=func236.trans (congrArg some zk)
 f46:=⟨ "slices.siftDownCmpFunc[concordat/api.Op]",zk,func334.trans (congrArg some zk)⟩
 f47:=func286.trans (congrArg some zk)
 f48:=func287.trans (congrArg some zk)
 f49:=⟨ "slices.medianAdjacentCmpFunc[concordat/api.Op]",zk,func335.trans (congrArg some zk)⟩
 f50:=⟨ "slices.medianCmpFunc[concordat/api.Op]",zk,func336.trans (congrArg some zk)⟩
 f57:=⟨ "slices.order2CmpFunc[concordat/api.Op]",zk,func349.trans (congrArg some zk)⟩
 t0:=underlying0
 a0:=isAgg0
 z0:=sizeOf0
 v0:=zeroValue0
 t3:=underlying3
 a3:=isAgg3
 z3:=sizeOf3
 v3:=zeroValue3
 t4:=underlying4
 a4:=isAgg4
 z4:=sizeOf4
 v4:=zeroValue4
 t5:=underlying5
 a5:=isAgg5
 z5:=sizeOf5
 v5:=zeroValue5
 t9:=underlying9
 a9:=isAgg9
 z9:=sizeOf9
 v9:=zeroValue9
 t22:=underlying25
 a22:=isAgg25
 z22:=sizeOf25
 v22:=zeroValue25
 t25:=underlying228
 a25:=isAgg228
 z25:=sizeOf228
 v25:=zeroValue228
 t39:=underlying277
 a39:=isAgg277
 z39:=sizeOf277
 v39:=zeroValue277
 t45:=underlying335
 a45:=isAgg335
 z45:=sizeOf335
 v45:=zeroValue335
 t46:=underlying336
 a46:=isAgg336
 z46:=sizeOf336
 v46:=zeroValue336
 t50:=underlying296
 a50:=isAgg296
 z50:=sizeOf296
 v50:=zeroValue296
 t53:=underlying342
 a53:=isAgg342
 z53:=sizeOf342
 v53:=zeroValue342
 t55:=underlying325
 a55:=isAgg325
 z55:=sizeOf325
 v55:=zeroValue325
 t66:=underlying375
 a66:=isAgg375
 z66:=sizeOf375
 v66:=zeroValue375
 t70:=underlying379
 a70:=isAgg379
 z70:=sizeOf379
 v70:=zeroValue379
 t76:=underlying403
 a76:=isAgg403
 z76:=sizeOf403
 v76:=zeroValue403
 t77:=underlying76
 a77:=isAgg76
 z77:=sizeOf76
 v77:=zeroValue76
end Go.Proofs.YtebpcnkdhgnghaaGreatDoor
end
section
namespace Go.Proofs.YtebpcnkdhgnghaaGreatDoor.PAgain
theorem goes:false=Rows.playAgainRow.goesBy Tryz.pinned.checked.prog:=zk
