import Derived.Test.YtfkekfibjnjcnaaGreatDoorMacA
import Derived.Test.YtfkekfibjnjcnaaGreatDoorProg
import Derived.WalkSpells
import Derived.OrdersHeld
import Derived.RangeFuncCalls
import Derived.LaidEql
import Derived.Shelf.SlLaysF0
import Derived.Lib.Hide
import Derived.Shelf.LaysM
import Derived.Shelf.Sort.Plain
import Derived.Shelf.Slices.In.SortNone
set_option linter.unusedSimpArgs false
set_option linter.unusedVariables false
set_option maxRecDepth 100000
set_option maxHeartbeats 64000000
section
namespace Go.Proofs.YtfkekfibjnjcnaaGreatDoor
open Go.Proofs.Tryz
open Go.RowKit
def cmpZ (a b:Int):Int:=if a<b then -1 else if b<a then 1 else 0
theorem nanI (a:Int) (w:World):Calls prog 110 #[.int .i64 a] w fun e w'=>e= .returned (.bool false)/\w'=w:=by
 have d0:(a !=a)=false:=zm
 go_enter func110,ntmps110
 go_wp2
 go_ret
 exact ⟨rfl,rfl⟩
theorem cmpZ_any (a b:Int) (w:World):Calls prog 68 #[.int .i64 a,.int .i64 b] w fun e w'=>e= .returned (.int .i64 (cmpZ a b))/\w'=w:=by
 unfold cmpZ
 by_cases h1:a<b
 ·have d1:decide (a<b)=true:=decide_eq_true h1
  rw [if_pos h1]
  go_enter func68,ntmps68
  go_wp2_with (go_at_call 110;refine (nanI _ _).mono ?_;rintro e w' ⟨rfl,rfl⟩)
  go_ret
  exact ⟨rfl,rfl⟩
 have d1:decide (a<b)=false:=decide_eq_false h1
 rw [if_neg h1]
 by_cases h2:b<a
 ·have d2:decide (b<a)=true:=decide_eq_true h2
  rw [if_pos h2]
  go_enter func68,ntmps68
  go_wp2_with (go_at_call 110;refine (nanI _ _).mono ?_;rintro e w' ⟨rfl,rfl⟩)
  go_ret
  exact ⟨rfl,rfl⟩
 have d2:decide (b<a)=false:=decide_eq_false h2
 rw [if_neg h2]
 go_enter func68,ntmps68
 go_wp2_with (go_at_call 110;refine (nanI _ _).mono ?_;rintro e w' ⟨rfl,rfl⟩)
 go_ret
 exact ⟨rfl,rfl⟩
end Go.Proofs.YtfkekfibjnjcnaaGreatDoor
end
section
namespace Go.Proofs.YtfkekfibjnjcnaaGreatDoor
open Go
variable {a:Act} {w:World}
section
variable {P:Program} {ops:Array Oper} {Q:Exit→Act→World→Prop} {md:Region.Mode} {S:World→Prop}
theorem wpAnyH_one {i:Nat} {o:Oper} {fuel:Nat} {listed:Array Bool} (hr:Region.ready md ops listed= [i]) (ho:ops[i]? =some o)
  (h:∀K:Act->World->Prop,(∀a' w',S w'->wpAnyH P md ops Q S fuel (listed.setIfInBounds i true) a' w'->K a' w')->if Region.wanted o (yielded ops a.tmps)=true then Oper.wp P o a w K Q else K (a.put o.dst undef) w):wpAnyH P md ops Q S (fuel+1) listed a w:=by
 refine ⟨fun h0=>qx,fun j hj=> ?_⟩
 rw [hr] at hj
 simp only [vA] at hj
 subst hj
 have:=h (fun a' w'=>S w'/\wpAnyH P md ops Q S fuel (listed.setIfInBounds j true) a' w') (fun a' w' h1 h2=>⟨h1,h2⟩)
 unfold wpOp
 simp only [ho]
 split
 ·rename_i hw
  rw [if_pos hw] at this
  exact .inl this
 rename_i hw
 rw [if_neg hw] at this
 exact this
end
theorem wp_region_H {P:Program} {ops:Array Oper} {Q:Exit->Act->World->Prop} {S:World->Prop} {id:Nat} (hm:P.follows .mixedOrders=true) (hS:S w.drew)
  (h:S w.drew->wpAnyH P .any ops Q S ops.size (Array.replicate ops.size false) a w.drew):(Code.region id ops true).wp P Q a w:=
 wp_region_any hm (wpAny_of_held _ _ _ _ (h hS))
end Go.Proofs.YtfkekfibjnjcnaaGreatDoor
end
section
namespace Go.Proofs.YtfkekfibjnjcnaaGreatDoor
open Go
variable {a:Act} {l listed:Array Bool} {fuel i z:Nat} {oi:Oper} {v:Value} {w:World}
section
variable {P:Program} {ops:Array Oper} {Q:Exit→Act→World→Prop} {md:Region.Mode} {S:World→Prop} {z:Nat}
def waitsOn (md:Region.Mode) (ops:Array Oper) (z i:Nat):Bool:=match ops[z]? with
 | some oz=>oz.after.any fun e=>Region.binds md e &&e.on==i
 | none=>false
theorem waitsOn_spec (h:waitsOn md ops z i=true) {oz:Oper} (hz:ops[z]? =some oz):∃e∈oz.after,Region.binds md e=true/\e.on=i:=by
 unfold waitsOn at h
 rw [hz] at h
 obtain ⟨e,he,h2⟩:=Array.any_eq_true'.1 h
 rw [uQ] at h2
 exact ⟨e,he,h2.1,by simpa using h2.2⟩
def wpAnyZ (P:Program) (md:Region.Mode) (ops:Array Oper) (Q:Exit->Act->World->Prop) (S:World->Prop) (z:Nat):Nat->Array Bool->Act->World->Prop
 | 0,listed,a,w=>Region.ready md ops listed= []/\Q .normal a w
 | fuel+1,listed,a,w=>
  (Region.ready md ops listed= []->Q .normal a w)/\
  ∀i∈Region.ready md ops listed,wpOp P ops Q i (fun a' w'=>(S w'\/(listed.setIfInBounds i true).getD z false=true)/\wpAnyZ P md ops Q S z fuel (listed.setIfInBounds i true) a' w') a w
theorem wpAny_of_Z:∀(fuel:Nat) (listed:Array Bool) (a:Act) (w:World),wpAnyZ P md ops Q S z fuel listed a w->wpAny P md ops Q fuel listed a w
 | 0,_,_,_,h=>h
 | fuel+1,_,_,_,h=>⟨h.1,fun i hi=>wpOp_mono (fun a' w' h'=>wpAny_of_Z fuel _ a' w' h'.2) (h.2 i hi)⟩
theorem getD_set_other (h:i≠z):(l.setIfInBounds i true).getD z false=l.getD z false:=by
 simp only [Array.getD_eq_getD_getElem?]
 rw [Array.getElem?_setIfInBounds_ne h]
theorem getD_set_some (h:l.getD z false=true):(l.setIfInBounds i true).getD z false=true:=by
 by_cases e:i=z
 ·subst e
  have hl:i<l.size:=by
   rcases uK i l.size with h' | h'
   ·exact h'
   simp [Array.getElem?_eq_none h'] at h
  simp [hl]
 rw [getD_set_other e];exact h
theorem wpAnyZ_first {T:World->Prop} (hiz:i≠z) (hi:ops[i]? =some oi) (hsel:∀(j:Nat) (o:Oper) cs b,ops[j]? =some o->o.op≠ .select cs b)
  (hQ:∀c a w,Q (.panic c) (a.put oi.dst v) w->Q (.panic c) a w) (hT:(∀w,T w)\/((∀w,S w->T w)/\waitsOn md ops z i=true)):
  ∀(fuel:Nat) (listed:Array Bool) (a:Act) (w:World),
   (∀j oj,ops[j]? =some oj->j≠i->listed.getD j true=false->(∀e∈oj.after,Region.binds md e=true->e.on≠i)->oi.apart ops oj=true)->
   i∈Region.ready md ops listed->YieldsIf P ops T oi v a->(S w\/listed.getD z false=true)->((∀w,T w)\/listed.getD z false=false)->
   wpAnyZ P md ops Q S z fuel (listed.setIfInBounds i true) (a.put oi.dst v) w->wpAnyZ P md ops Q S z (fuel+1) listed a w:=by
 have hTw:∀(listed:Array Bool) (w:World),(S w\/listed.getD z false=true)->((∀w,T w)\/listed.getD z false=false)->T w:=fun listed w h1 h2=>by
  rcases hT with hT | hT
  ·exact hT w
  rcases h2 with h2 | h2
  ·exact h2 w
  rcases h1 with h1 | h1
  ·exact hT.1 w h1
  rw [h2] at h1;cases h1
 intro fuel
 induction fuel with
 | zero=>
  intro listed a w _ hr hy hS hz H
  refine ⟨fun h=>(by rw [h] at hr;cases hr),fun j hj=> ?_⟩
  by_cases hji:j=i
  ·subst hji;exact hy.wpOp hi (hTw listed w hS hz) ⟨hS.imp id getD_set_some,H⟩
  have:=ready_mono hj hji
  rw [H.1] at this
  cases this
 | succ fuel ih=>
  intro listed a w hfree hr hy hS hz H
  refine ⟨fun h=>(by rw [h] at hr;cases hr),fun j hj=> ?_⟩
  by_cases hji:j=i
  ·subst hji;exact hy.wpOp hi (hTw listed w hS hz) ⟨hS.imp id getD_set_some,H⟩
  have h1:=H.2 j (ready_mono hj hji)
  obtain ⟨hjun,oj,hoj,hall⟩:=mem_ready.1 hj
  have hnot:∀e∈oj.after,Region.binds md e=true->e.on≠i:=fun e he hb heq=>by
   have h1:=hall e he hb
   have h0:=(mem_ready.1 hr).1
   rw [heq] at h1
   rcases uK i listed.size with h' | h'
   ·simp [h'] at h0 h1;rw [h0] at h1;cases h1
   simp [Array.getElem?_eq_none h'] at h1
  have hz':(∀w,T w)\/(listed.setIfInBounds j true).getD z false=false:=by
   rcases hT with hT | ⟨_,hw⟩
   ·exact .inl hT
   rcases hz with hz | hz
   ·exact .inl hz
   right
   rw [getD_set_other]
   ·exact hz
   intro e
   subst e
   obtain ⟨x,hx,hb,ho⟩:=waitsOn_spec hw hoj
   exact hnot x hx hb ho
  have h2:=wpOp_putIf hoj (hfree j oj hoj hji hjun hnot) (fun cs b=>hsel i oi cs b hi) (fun cs b=>hsel j oj cs b hoj) hQ hy h1
  have hfree':∀k ok,ops[k]? =some ok->k≠i->(listed.setIfInBounds j true).getD k true=false->
    (∀e∈ok.after,Region.binds md e=true->e.on≠i)->oi.apart ops ok=true:=fun k ok hk hki hun hno=>by
   refine hfree k ok hk hki ?_ hno
   by_cases hjk:j=k
   ·subst hjk;exact hjun
   rw [getD_set_ne true hjk] at hun;exact hun
  refine wpOp_mono (fun a' w' h3=> ?_) h2
  have hC:S w'\/(listed.setIfInBounds j true).getD z false=true:=h3.2.1.imp id (fun h=>by
   rw [Array.setIfInBounds_comm _ _ (Ne.symm hji),getD_set_other hiz] at h
   exact h)
  refine ⟨hC,ih (listed.setIfInBounds j true) a' w' hfree' (ready_mono hr (Ne.symm hji)) h3.1 hC hz' ?_⟩
  rw [Array.setIfInBounds_comm _ _ hji]
  exact h3.2.2
theorem wpAnyZ_take (hiz:i≠z) (hzz:waitsOn md ops z i=true) (hi:ops[i]? =some oi)
  (hs:Region.noSelect ops=true) (hf:Region.free md ops listed i=true) (hr:(Region.ready md ops listed).contains i=true) (hzl:listed.getD z false=false)
  (hQ:∀c a w,Q (.panic c) (a.put oi.dst v) w->Q (.panic c) a w) (hy:YieldsIf P ops S oi v a) (hS:S w)
  (h:wpAnyZ P md ops Q S z fuel (listed.setIfInBounds i true) (a.put oi.dst v) w):wpAnyZ P md ops Q S z (fuel+1) listed a w:=
 wpAnyZ_first hiz hi (Region.noSelect_spec hs) hQ (.inr ⟨fun _ h=>h,hzz⟩) fuel listed a w (Region.free_spec hi hf) (by simpa using hr) hy (.inl hS) (.inr hzl) h
theorem wpAnyZ_free (hiz:i≠z) (hi:ops[i]? =some oi)
  (hs:Region.noSelect ops=true) (hf:Region.free md ops listed i=true) (hr:(Region.ready md ops listed).contains i=true)
  (hQ:∀c a w,Q (.panic c) (a.put oi.dst v) w->Q (.panic c) a w) (hy:YieldsIf P ops (fun _=>True) oi v a) (hS:S w)
  (h:wpAnyZ P md ops Q S z fuel (listed.setIfInBounds i true) (a.put oi.dst v) w):wpAnyZ P md ops Q S z (fuel+1) listed a w:=
 wpAnyZ_first hiz hi (Region.noSelect_spec hs) hQ (.inl fun _=>trivial) fuel listed a w (Region.free_spec hi hf) (by simpa using hr) hy (.inl hS) (.inl fun _=>trivial) h
theorem wpAnyZ_one {o:Oper} (hr:Region.ready md ops listed= [i]) (ho:ops[i]? =some o)
  (h:∀K:Act->World->Prop,(∀a' w',(S w'\/i=z/\z<listed.size)->wpAnyZ P md ops Q S z fuel (listed.setIfInBounds i true) a' w'->K a' w')->if Region.wanted o (yielded ops a.tmps)=true then Oper.wp P o a w K Q else K (a.put o.dst undef) w):wpAnyZ P md ops Q S z (fuel+1) listed a w:=by
 refine ⟨fun h0=>qx,fun j hj=> ?_⟩
 rw [hr] at hj
 simp only [vA] at hj
 subst hj
 have:=h (fun a' w'=>(S w'\/(listed.setIfInBounds j true).getD z false=true)/\wpAnyZ P md ops Q S z fuel (listed.setIfInBounds j true) a' w') (fun a' w' h1 h2=>⟨h1.imp id (fun h=>by
  obtain ⟨e,hl⟩:=h
  subst e
  simp [hl]),h2⟩)
 unfold wpOp
 simp only [ho]
 split
 ·rename_i hw
  rw [if_pos hw] at this
  exact .inl this
 rename_i hw
 rw [if_neg hw] at this
 exact this
theorem wpAnyZ_done (hr:Region.ready md ops listed= []) (h:Q .normal a w):
  ∀fuel,wpAnyZ P md ops Q S z fuel listed a w
 | 0=>⟨hr,h⟩
 | _+1=>⟨fun _=>h,by rw [hr];simp⟩
theorem wp_region_Z {id:Nat} (hm:P.follows .mixedOrders=true) (hS:S w.drew)
  (h:S w.drew->wpAnyZ P .any ops Q S z ops.size (Array.replicate ops.size false) a w.drew):(Code.region id ops true).wp P Q a w:=
 wp_region_any hm (wpAny_of_Z _ _ _ _ (h hS))
end
end Go.Proofs.YtfkekfibjnjcnaaGreatDoor
namespace Go.Proofs.YtfkekfibjnjcnaaGreatDoor
open Go
variable {a:Act} {l n:Nat} {o:Oper} {w:World}
section
variable {P:Program} {ops:Array Oper} {Q:Exit→Act→World→Prop} {md:Region.Mode} {S:World→Prop}
theorem oper_in_round (hd:∀c,o.op≠ .defer c) {K:Act->World->Prop} (h:o.wp P a w K Q):o.wpIn (Fence.wide.inRound l) n P a w K Q:=by
 refine ⟨fun _ _=>trivial,?_⟩
 have e:Oper.semAt (Fence.wide.inRound l).round a.eval o=execOp a.eval o:=Oper.semAt_some l a.eval o hd
 rw [e]
 unfold Oper.wp at h
 generalize (execOp a.eval o).run P w=r at*
 cases r with
 | ok x w'=>
  cases x<;>simp only [Oper.upon,Oper.uponIn] at h |-
  case value v=>exact h
  case skip=>exact h
  case defer d=>exact h
  case enter f args=>exact ⟨fun h=>yR,CallsIn.inRound l (callsIn_wide.2 h)⟩
  case row row args=>
   refine ⟨fun h=>yR,fun c cs _=> ?_⟩
   obtain ⟨v,w'',r,s⟩:=h c cs
   exact ⟨v,w'',r,stepsIn_wide.2 s⟩
 | halt x w'=>
  cases x<;>simp only [Oper.upon,Oper.uponIn] at h |-
  case panic u=>exact h
def noDefer (ops:Array Oper):Bool:=ops.all fun o=>match o.op with | .defer _=>false | _=>true
theorem noDefer_spec (h:noDefer ops=true) {i:Nat} (hi:ops[i]? =some o):∀c,o.op≠ .defer c:=by
 intro c e
 obtain ⟨hl,he⟩:=vn.1 hi
 have:=(Array.all_eq_true.1 h) i hl
 rw [he,e] at this
 cases this
theorem any_in_round {l n:Nat} (hd:noDefer ops=true) (hno:¬LetsOut Q):∀(fuel:Nat) (listed:Array Bool) (a:Act) (w:World),wpAny P md ops Q fuel listed a w->wpAnyIn (Fence.wide.inRound l) n P md ops Q fuel listed a w
 | 0,_,_,_,h=>h
 | fuel+1,listed,a,w,h=>by
  refine ⟨h.1,fun i hi=> ?_⟩
  have h1:=h.2 i hi
  unfold wpOp at h1
  unfold wpOpIn
  cases ho:ops[i]? with
  | none=>
   rw [ho] at h1
   exact any_in_round hd hno fuel _ a w h1
  | some o=>
   rw [ho] at h1
   dsimp only at h1 |-
   split
   ·rename_i hw
    rw [if_pos hw] at h1
    rcases h1 with h1 | h1
    ·have h2:=oper_in_round (l:=l) (n:=n) (noDefer_spec hd ho) h1
     have h3:=wpOpIn_mono (F:=Fence.wide.inRound l) (n:=n) (P:=P) (ops:=ops) (Q:=Q) (i:=i) (a:=a) (w:=w) (fun a' w' h'=>any_in_round (l:=l) (n:=n) hd hno fuel (listed.setIfInBounds i true) a' w' h') (K:=wpAny P md ops Q fuel (listed.setIfInBounds i true)) (by unfold wpOpIn;rw [ho];dsimp only;rw [if_pos hw];exact h2)
     unfold wpOpIn at h3
     rw [ho] at h3
     dsimp only at h3
     rw [if_pos hw] at h3
     exact h3
    exact absurd h1.2 hno
   rename_i hw
   rw [if_neg hw] at h1
   exact ⟨fun _ _=>trivial,any_in_round hd hno fuel _ _ w h1⟩
theorem region_in_round {id:Nat} (hm:P.follows .mixedOrders=true) (hd:noDefer ops=true) (hno:¬LetsOut Q) (hS:S w.drew)
  (h:S w.drew->wpAnyH P .any ops Q S ops.size (Array.replicate ops.size false) a w.drew):(Code.region id ops true).wpIn (Fence.wide.inRound l) n P Q a w:=
 wpIn_region_any hm (any_in_round hd hno _ _ _ _ (wpAny_of_held _ _ _ _ (h hS)))
end
end Go.Proofs.YtfkekfibjnjcnaaGreatDoor
end
section
namespace Go.Proofs.YtfkekfibjnjcnaaGreatDoor
open Go.Sort
variable {B a b i j k m n:Nat}
section
variable {β:Type} (lt:β→β→Bool)
def slt (x y:β×Nat):Bool:=lt x.1 y.1 ||(!lt y.1 x.1 &&decide (x.2<y.2))
def tlt (x y:β×Nat):Bool:=lt x.1 y.1
end
section
variable {β:Type} {lt:β→β→Bool}
theorem slt_false {x y:β×Nat} :slt lt x y=false↔lt x.1 y.1=false/\(lt y.1 x.1=true\/y.2<=x.2):=by
 unfold slt
 cases h1:lt x.1 y.1<;>cases h2:lt y.1 x.1<;>simp
theorem slt_swo (h:SWO lt):SWO (slt lt) where
 irrefl x:=by rw [slt_false];exact ⟨h.irrefl _,.inr zg⟩
 trans x y z h1 h2:=by
  have a1:¬slt lt x y=false:=by rw [h1];simp
  have a2:¬slt lt y z=false:=by rw [h2];simp
  rw [<-Bool.not_eq_false,slt_false]
  rw [slt_false] at a1 a2
  rintro ⟨b1,b2⟩
  cases xy:lt x.1 y.1 with
  | true=>
   cases yz:lt y.1 z.1 with
   | true=>rw [h.trans _ _ _ xy yz] at b1;cases b1
   | false=>
    cases zy:lt z.1 y.1 with
    | true=>exact a2 ⟨yz,.inl zy⟩
    | false=>rw [h.ntrans _ _ _ b1 zy] at xy;cases xy
  | false=>
   cases yx:lt y.1 x.1 with
   | true=>exact a1 ⟨xy,.inl yx⟩
   | false=>
    have n1:¬y.2<=x.2:=fun e=>a1 ⟨xy,.inr e⟩
    cases yz:lt y.1 z.1 with
    | true=>rw [h.ntrans _ _ _ yx b1] at yz;cases yz
    | false=>
     cases zy:lt z.1 y.1 with
     | true=>exact a2 ⟨yz,.inl zy⟩
     | false=>
      have n2:¬z.2<=y.2:=fun e=>a2 ⟨yz,.inr e⟩
      rcases b2 with b2 | b2
      ·rw [h.ntrans _ _ _ zy yx] at b2;cases b2
      omega
 ntrans x y z h1 h2:=by
  rw [slt_false] at*
  obtain ⟨xy,a1⟩:=h1
  obtain ⟨yz,a2⟩:=h2
  refine ⟨h.ntrans _ _ _ xy yz,?_⟩
  cases zx:lt z.1 x.1 with
  | true=>exact .inl rfl
  | false=>
   refine .inr ?_
   rcases a1 with yx | e1
   ·rw [h.ntrans _ _ _ yz zx] at yx;cases yx
   rcases a2 with zy | e2
   ·rw [h.ntrans _ _ _ zx xy] at zy;cases zy
   omega
theorem slt_late {x y:β×Nat} (h:y.2<x.2):slt lt x y=tlt lt x y:=by
 unfold slt tlt
 have:decide (x.2<y.2)=false:=zl
 simp [this]
theorem slt_asymm (h:SWO lt) {x y:β×Nat} (hx:slt lt x y=true):slt lt y x=false:=(slt_swo h).asymmA hx
end
section
variable {β:Type} [Inhabited β] {lt:β→β→Bool}
theorem insInner_same (a:Nat):∀(j:Nat) (d:Array (β×Nat)),j<d.size->(∀p,a<=p->p<j->d[p]!.2<d[j]!.2)->insInner (tlt lt) a j d=insInner (slt lt) a j d
 | 0,d,_,_=>rfl
 | j+1,d,hj,h=>by
  unfold insInner
  by_cases ha:a<j+1
  ·have e:slt lt d[j+1]! d[j]! =tlt lt d[j+1]! d[j]! :=slt_late (h j zj zj)
   rw [e]
   split
   ·refine insInner_same a j _ (by rw [swp_size];omega) ?_
    intro p hp hpj
    rw [swp_get d hj zj,swp_get d hj zj]
    rw [if_neg zj,if_neg zj,if_pos rfl]
    exact h p hp zj
   rfl
  have e:decide (j+1>a)=false:=zl
  simp [e]
theorem insOuter_go {α:Type} [Inhabited α] (lt:α->α->Bool) (a b i:Nat) (d:Array α) (h:i<b):insOuter lt a b i d=insOuter lt a b (i+1) (insInner lt a i d):=by
 rw [insOuter,if_pos h]
theorem insOuter_same (hS:SWO lt) (a b:Nat):∀(n i:Nat) (d:Array (β×Nat)),b - i=n->a<i->i<=b->b<=d.size->SortedIn (slt lt) a i d->(∀p q,a<=p->p<q->i<=q->q<b->d[p]!.2<d[q]!.2)->insOuter (tlt lt) a b i d=insOuter (slt lt) a b i d
 | 0,i,d,hn,_,hib,_,_,_=>by
  obtain rfl:i=b:=zj
  rw [insOuter,if_neg zj,insOuter,if_neg zj]
 | n+1,i,d,hn,hai,hib,hb,hs,ht=>by
  have hlt:i<b:=zj
  rw [insOuter_go _ _ _ _ _ hlt,insOuter_go _ _ _ _ _ hlt,insInner_same a i d zj (fun p hp hpi=>ht p i hp hpi zg hlt)]
  have h1:=insInner_spec (slt_swo hS) swp_permIn permIn_refl permIn_trans a (i+1) i (Nat.lt_succ_self _) i d zj zg zj ⟨fun p q hap hpq hqi _ hq=>hs p q hap hpq zj,fun q h1 h2=>zj⟩
  refine insOuter_same hS a b n (i+1) _ zj zj zj (by rw [h1.1.1];exact hb) h1.2 ?_
  intro p q hap hpq hiq hqb
  rw [h1.1.2.1 q (.inr zj)]
  by_cases hp:p<i+1
  ·exact permIn_all d _ a (i+1) (fun x=>x.2<d[q]!.2) zj h1.1 (fun r h1 h2=>ht r q h1 zj zj hqb) p hap hp
  rw [h1.1.2.1 p (.inr zj)]
  exact ht p q hap hpq zj hqb
theorem ins_stable (hS:SWO lt) (d:Array (β×Nat)) (a b:Nat) (hab:a<=b) (hb:b<=d.size) (ht:∀p q,a<=p->p<q->q<b->d[p]!.2<d[q]!.2):
  PermIn a b d (insertionSort (tlt lt) d a b)/\SortedIn (slt lt) a b (insertionSort (tlt lt) d a b):=by
 have h:=insertionSort_holds (slt_swo hS) d a b hab hb
 have e:insertionSort (tlt lt) d a b=insertionSort (slt lt) d a b:=by
  unfold insertionSort
  by_cases h1:a=b
  ·subst h1
   rw [insOuter,if_neg zj,insOuter,if_neg zj]
  exact insOuter_same hS a b _ (a+1) d rfl zj zj hb (fun i j h1 h2 h3=>zj) (fun p q h1 h2 _ h3=>ht p q h1 h2 h3)
 rw [e];exact h
end
def rotI (s m e k:Nat):Nat:=if s<=k/\k<s+(e - m) then k+(m - s) else if s+(e - m)<=k/\k<e then k - (e - m) else k
section
variable {α:Type} [Inhabited α]
structure Rot (d d':Array α) (s m e:Nat):Prop where
 perm:PermIn s e d d'
 at_:∀k,d'[k]! =d[rotI s m e k]!
structure Exch (d d':Array α) (a b n:Nat):Prop where
 size:d'.size=d.size
 at_:∀k,d'[k]! =d[if a<=k/\k<a+n then k+b - a else if b<=k/\k<b+n then k+a - b else k]!
 perm:∀lo hi,lo<=a->a+n<=hi->lo<=b->b+n<=hi->hi<=d.size->PermIn lo hi d d'
theorem Exch.zero (d:Array α) (a b:Nat):Exch d d a b 0:=
 ⟨rfl,fun k=>by rw [if_neg zj,if_neg zj],fun lo hi _ _ _ _ _=>permIn_refl d lo hi⟩
theorem Exch.next {d d':Array α} (h:Exch d d' a b n) (hab:a+n<b) (hb:b+n<d.size):Exch d (swp d' (a+n) (b+n)) a b (n+1):=by
 refine ⟨by rw [swp_size,h.size],fun k=> ?_,fun lo hi h1 h2 h3 h4 h5=> ?_⟩
 ·rw [swp_get d' jX jX]
  rw [h.at_,h.at_,h.at_]
  by_cases k1:k=b+n
  ·subst k1
   rw [if_pos rfl]
   congr 1
   repeat' split
   all_goals omega
  rw [if_neg k1]
  by_cases k2:k=a+n
  ·subst k2
   rw [if_pos rfl]
   congr 1
   repeat' split
   all_goals omega
  rw [if_neg k2]
  congr 1
  repeat' split
  all_goals omega
 have p1:=h.perm lo hi h1 zj h3 zj h5
 exact permIn_trans _ _ _ lo hi p1 (swp_permIn d' lo hi (a+n) (b+n) zj zj zj zj jX)
theorem Rot.left {d d1 d2:Array α} (him:i<=m) (hij:j<i) (hsz:m+j<=d.size) (h1:Exch d d1 (m - i) m j) (h2:Rot d1 d2 (m - (i - j)) m (m+j)):Rot d d2 (m - i) m (m+j):=by
 refine ⟨?_,fun k=> ?_⟩
 ·have p1:=h1.perm (m - i) (m+j) zj zj zj zj hsz
  exact permIn_trans _ _ _ _ _ p1 (permIn_mono d1 d2 _ _ _ _ zj zg (by rw [h1.size];exact hsz) h2.perm)
 rw [h2.at_,h1.at_]
 congr 1
 unfold rotI
 repeat' split
 all_goals omega
theorem Rot.right {d d1 d2:Array α} (him:i<=m) (hij:i<j) (hsz:m+j<=d.size) (h1:Exch d d1 (m - i) (m+j - i) i) (h2:Rot d1 d2 (m - i) m (m+(j - i))):Rot d d2 (m - i) m (m+j):=by
 refine ⟨?_,fun k=> ?_⟩
 ·have p1:=h1.perm (m - i) (m+j) zj zj zj zj hsz
  exact permIn_trans _ _ _ _ _ p1 (permIn_mono d1 d2 _ _ _ _ zg zj (by rw [h1.size];exact hsz) h2.perm)
 rw [h2.at_,h1.at_]
 congr 1
 unfold rotI
 repeat' split
 all_goals omega
theorem Rot.both {d d1:Array α} (him:i<=m) (hsz:m+i<=d.size) (h1:Exch d d1 (m - i) m i):Rot d d1 (m - i) m (m+i):=by
 refine ⟨h1.perm (m - i) (m+i) zj zj zj zj hsz,fun k=> ?_⟩
 rw [h1.at_]
 congr 1
 unfold rotI
 repeat' split
 all_goals omega
theorem Rot.none (d:Array α) (s m e:Nat) (hs:s<=m) (he:m<=e) (h:s=m\/m=e):Rot d d s m e:=by
 refine ⟨permIn_refl d s e,fun k=> ?_⟩
 congr 1
 unfold rotI
 repeat' split
 all_goals omega
theorem Rot.up {d d':Array α} (h:Rot d d' a (a+1) (k+1)) (hak:a<=k) (hk:k+1<d.size):Rot d (swp d' k (k+1)) a (a+1) (k+2):=by
 have hs:d'.size=d.size:=h.perm.1
 refine ⟨permIn_trans _ _ _ _ _ (permIn_mono d d' _ _ _ _ zg zj zj h.perm) (swp_permIn d' a (k+2) k (k+1) hak zj zj zj zj),fun x=> ?_⟩
 rw [swp_get d' zj zj,h.at_,h.at_,h.at_]
 by_cases x1:x=k+1
 ·subst x1
  rw [if_pos rfl]
  congr 1
  unfold rotI
  repeat' split
  all_goals omega
 rw [if_neg x1]
 by_cases x2:x=k
 ·subst x2
  rw [if_pos rfl]
  congr 1
  unfold rotI
  repeat' split
  all_goals omega
 rw [if_neg x2]
 congr 1
 unfold rotI
 repeat' split
 all_goals omega
theorem Rot.down {d d':Array α} (h:Rot d d' (k+1) m (m+1)) (hkm:k+1<=m) (hm:m<d.size):Rot d (swp d' (k+1) k) k m (m+1):=by
 have hs:d'.size=d.size:=h.perm.1
 refine ⟨permIn_trans _ _ _ _ _ (permIn_mono d d' _ _ _ _ zj zg zj h.perm) (swp_permIn d' k (m+1) (k+1) k zj zj zj zj zj),fun x=> ?_⟩
 rw [swp_get d' zj zj,h.at_,h.at_,h.at_]
 by_cases x1:x=k
 ·subst x1
  rw [if_pos rfl]
  congr 1
  unfold rotI
  repeat' split
  all_goals omega
 rw [if_neg x1]
 by_cases x2:x=k+1
 ·subst x2
  rw [if_pos rfl]
  congr 1
  unfold rotI
  repeat' split
  all_goals omega
 rw [if_neg x2]
 congr 1
 unfold rotI
 repeat' split
 all_goals omega
end
section
variable {β:Type} [Inhabited β] {lt:β→β→Bool}
structure Runs (lt:β->β->Bool) (a m b:Nat) (d:Array (β×Nat)):Prop where
 one:SortedIn (slt lt) a m d
 two:SortedIn (slt lt) m b d
 tag:∀p q,a<=p->p<m->m<=q->q<b->d[p]!.2<d[q]!.2
theorem Runs.le_one {d:Array (β×Nat)} (hS:SWO lt) (h:Runs lt a m b d) (hi:a<=i) (hij:i<=j) (hj:j<m):slt lt d[j]! d[i]! =false:=by
 by_cases e:i=j
 ·subst e;exact (slt_swo hS).irrefl _
 exact h.one i j hi zj hj
theorem Runs.le_two {d:Array (β×Nat)} (hS:SWO lt) (h:Runs lt a m b d) (hi:m<=i) (hij:i<=j) (hj:j<b):slt lt d[j]! d[i]! =false:=by
 by_cases e:i=j
 ·subst e;exact (slt_swo hS).irrefl _
 exact h.two i j hi zj hj
theorem Runs.cut (hS:SWO lt) {s e:Nat} {d d':Array (β×Nat)} (h:Runs lt a m b d) (h1:a<=s) (h2:s<=m) (h3:m<=e) (h4:e<=b)
  (hlo:a<s->e<b->tlt lt d[e]! d[s - 1]! =false) (hhi:s<m->m<e->tlt lt d[e - 1]! d[s]! =true) (hR:Rot d d' s m e):
  Runs lt a s (s+(e - m)) d'/\Runs lt (s+(e - m)) e b d'/\∀p q,a<=p->p<s+(e - m)->s+(e - m)<=q->q<b->slt lt d'[q]! d'[p]! =false:=by
 have W:=slt_swo hS
 have lo:a<s->e<b->slt lt d[e]! d[s - 1]! =false:=fun x y=>by rw [slt_late (h.tag (s - 1) e zj zj h3 y)];exact hlo x y
 have hi:s<m->m<e->slt lt d[s]! d[e - 1]! =false:=fun x y=>slt_asymm hS (by rw [slt_late (h.tag s (e - 1) h1 x zj zj)];exact hhi x y)
 have g:=hR.at_
 refine ⟨⟨?_,?_,?_⟩,⟨?_,?_,?_⟩,?_⟩
 ·intro i j hi hij hj
  rw [g,g,rotI,if_neg zj,if_neg zj,rotI,if_neg zj,if_neg zj]
  exact h.one i j hi hij zj
 ·intro i j hi hij hj
  rw [g,g,rotI,if_pos zj,rotI,if_pos zj]
  exact h.two _ _ zj zj zj
 ·intro p q hp hps hq hqb
  rw [g,g,rotI,if_neg zj,if_neg zj,rotI,if_pos zj]
  exact h.tag _ _ hp zj zj zj
 ·intro i j hi hij hj
  rw [g,g,rotI,if_neg zj,if_pos zj,rotI,if_neg zj,if_pos zj]
  exact h.one _ _ zj zj zj
 ·intro i j hi hij hj
  rw [g,g,rotI,if_neg zj,if_neg zj,rotI,if_neg zj,if_neg zj]
  exact h.two _ _ zj zj zj
 ·intro p q hp hps hq hqb
  rw [g,g,rotI,if_neg zj,if_pos zj,rotI,if_neg zj,if_neg zj]
  exact h.tag _ _ zj zj zj zj
 intro p q hp hpm hq hqb
 rw [g,g]
 by_cases c1:p<s
 ·rw [show rotI s m e p=p by rw [rotI,if_neg zj,if_neg zj]]
  by_cases c2:q<e
  ·rw [show rotI s m e q=q - (e - m) by rw [rotI,if_neg zj,if_pos zj]]
   exact h.one _ _ hp zj zj
  rw [show rotI s m e q=q by rw [rotI,if_neg zj,if_neg zj]]
  have x1:=h.le_two hS (i:=e) (j:=q) zj zj hqb
  have x2:=lo zj zj
  have x3:=h.le_one hS (i:=p) (j:=s - 1) hp zj zj
  exact W.ntrans _ _ _ x1 (W.ntrans _ _ _ x2 x3)
 rw [show rotI s m e p=p+(m - s) by rw [rotI,if_pos zj]]
 by_cases c2:q<e
 ·rw [show rotI s m e q=q - (e - m) by rw [rotI,if_neg zj,if_pos zj]]
  have x1:=h.le_one hS (i:=s) (j:=q - (e - m)) zj zj zj
  have x2:=hi zj zj
  have x3:=h.le_two hS (i:=p+(m - s)) (j:=e - 1) zj zj zj
  exact W.ntrans _ _ _ x1 (W.ntrans _ _ _ x2 x3)
 rw [show rotI s m e q=q by rw [rotI,if_neg zj,if_neg zj]]
 exact h.two _ _ zj zj hqb
theorem Runs.sorted {d:Array (β×Nat)} (h:Runs lt a m b d) (he:a=m\/m=b):SortedIn (slt lt) a b d:=by
 rcases he with rfl | rfl
 ·exact h.two
 exact h.one
theorem sorted_parts {c:Nat} {d d1 d2:Array (β×Nat)} (hac:a<=c) (hcb:c<=b) (hb:b<=d.size) (hx:∀p q,a<=p->p<c->c<=q->q<b->slt lt d[q]! d[p]! =false)
  (p1:PermIn a c d d1) (s1:SortedIn (slt lt) a c d1) (p2:PermIn c b d1 d2) (s2:SortedIn (slt lt) c b d2):PermIn a b d d2/\SortedIn (slt lt) a b d2:=by
 refine ⟨permIn_trans _ _ _ _ _ (permIn_mono d d1 _ _ _ _ zg hcb hb p1) (permIn_mono d1 d2 _ _ _ _ hac zg (by rw [p1.1];exact hb) p2),fun i j hi hij hj=> ?_⟩
 by_cases h1:j<c
 ·rw [p2.2.1 i (.inl zj),p2.2.1 j (.inl h1)]
  exact s1 i j hi hij h1
 by_cases h2:c<=i
 ·exact s2 i j h2 hij hj
 rw [p2.2.1 i (.inl zj)]
 have q1:∀q,c<=q->q<b->slt lt d2[q]! d1[i]! =false:=by
  refine permIn_all d1 d2 c b (fun x=>slt lt x d1[i]! =false) (by rw [p1.1];exact hb) p2 ?_
  intro q hq hqb
  rw [p1.2.1 q (.inr hq)]
  exact permIn_all d d1 a c (fun x=>slt lt d[q]! x=false) zj p1 (fun r hr hrc=>hx r q hr hrc hq hqb) i hi zj
 exact q1 j zj hj
theorem Runs.first (hS:SWO lt) {d d':Array (β×Nat)} (h:Runs lt a (a+1) b d) (h1:a+1<=i) (h2:i<=b)
  (hlo:a+1<i->tlt lt d[i - 1]! d[a]! =true) (hhi:i<b->tlt lt d[i]! d[a]! =false) (hR:Rot d d' a (a+1) i):SortedIn (slt lt) a b d':=by
 have W:=slt_swo hS
 have lo:a+1<i->slt lt d[a]! d[i - 1]! =false:=fun x=>slt_asymm hS (by rw [slt_late (h.tag a (i - 1) zj zj zj zj)];exact hlo x)
 have hi:i<b->slt lt d[i]! d[a]! =false:=fun x=>by rw [slt_late (h.tag a i zj zj h1 x)];exact hhi x
 have g:=hR.at_
 intro p q hp hpq hq
 rw [g,g]
 by_cases c1:q<i - 1
 ·rw [rotI,if_pos zj,rotI,if_pos zj]
  exact h.two _ _ zj zj zj
 by_cases c2:q=i - 1
 ·rw [show rotI a (a+1) i q=a by rw [rotI,if_neg zj,if_pos zj];omega,rotI,if_pos zj]
  have x1:=lo zj
  have x2:=h.le_two hS (i:=p+(a+1 - a)) (j:=i - 1) zj zj zj
  exact W.ntrans _ _ _ x1 x2
 rw [show rotI a (a+1) i q=q by rw [rotI,if_neg zj,if_neg zj]]
 by_cases c3:p<i - 1
 ·rw [rotI,if_pos zj]
  exact h.two _ _ zj zj zj
 by_cases c4:p=i - 1
 ·rw [show rotI a (a+1) i p=a by rw [rotI,if_neg zj,if_pos zj];omega]
  have x1:=h.le_two hS (i:=i) (j:=q) zj zj zj
  exact W.ntrans _ _ _ x1 (hi zj)
 rw [show rotI a (a+1) i p=p by rw [rotI,if_neg zj,if_neg zj]]
 exact h.two _ _ zj zj zj
theorem Runs.last (hS:SWO lt) {d d':Array (β×Nat)} (h:Runs lt a m (m+1) d) (h1:a<=i) (h2:i<=m)
  (hlo:a<i->tlt lt d[m]! d[i - 1]! =false) (hhi:i<m->tlt lt d[m]! d[i]! =true) (hR:Rot d d' i m (m+1)):SortedIn (slt lt) a (m+1) d':=by
 have W:=slt_swo hS
 have lo:a<i->slt lt d[m]! d[i - 1]! =false:=fun x=>by rw [slt_late (h.tag (i - 1) m zj zj zj zj)];exact hlo x
 have hi:i<m->slt lt d[i]! d[m]! =false:=fun x=>slt_asymm hS (by rw [slt_late (h.tag i m h1 x zj zj)];exact hhi x)
 have g:=hR.at_
 intro p q hp hpq hq
 rw [g,g]
 by_cases c1:q<i
 ·rw [rotI,if_neg zj,if_neg zj,rotI,if_neg zj,if_neg zj]
  exact h.one _ _ zj zj zj
 by_cases c2:q=i
 ·rw [show rotI i m (m+1) q=m by rw [rotI,if_pos zj];omega,show rotI i m (m+1) p=p by rw [rotI,if_neg zj,if_neg zj]]
  have x2:=h.le_one hS (i:=p) (j:=i - 1) zj zj zj
  exact W.ntrans _ _ _ (lo zj) x2
 rw [show rotI i m (m+1) q=q - 1 by rw [rotI,if_neg zj,if_pos zj];omega]
 by_cases c3:p<i
 ·rw [show rotI i m (m+1) p=p by rw [rotI,if_neg zj,if_neg zj]]
  exact h.one _ _ zj zj zj
 by_cases c4:p=i
 ·rw [show rotI i m (m+1) p=m by rw [rotI,if_pos zj];omega]
  have x1:=h.le_one hS (i:=i) (j:=q - 1) zj zj zj
  exact W.ntrans _ _ _ x1 (hi zj)
 rw [show rotI i m (m+1) p=p - 1 by rw [rotI,if_neg zj,if_pos zj];omega]
 exact h.one _ _ zj zj zj
end
section
variable {β:Type} [Inhabited β] {lt:β→β→Bool}
def Same (B i j:Nat):Prop:=∀c,c*B<=j->c*B<=i
structure Blocks (lt:β->β->Bool) (B a n:Nat) (d:Array (β×Nat)):Prop where
 tag:∀p,p<n->∀c,c*B<=p↔c*B<=d[p]!.2
 done:∀i j,i<j->j<a->Same B i j->slt lt d[j]! d[i]! =false
structure Half (lt:β->β->Bool) (B a n:Nat) (d:Array (β×Nat)):Prop where
 tag:∀p,p<n->∀c,c*(2*B)<=p↔c*(2*B)<=d[p]!.2
 tag1:∀p,a<=p->p<n->∀c,c*B<=p↔c*B<=d[p]!.2
 done:∀i j,i<j->j<a->Same (2*B) i j->slt lt d[j]! d[i]! =false
 rest:∀i j,a<=i->i<j->j<n->Same B i j->slt lt d[j]! d[i]! =false
theorem Blocks.half {d:Array (β×Nat)} (h:Blocks lt B n n d):Half lt B 0 n d:=by
 refine ⟨fun p hp c=> ?_,fun p _ hp c=>h.tag p hp c,fun i j _ hj=>zj,fun i j _ hij hj hs=>h.done i j hij hj hs⟩
 have e:c*(2*B)=(c*2)*B:=by rw [Nat.mul_assoc]
 rw [e];exact h.tag p hp _
theorem Half.runs {c:Nat} {d:Array (β×Nat)} (h:Half lt B a n d) (ha:a=c*(2*B)) (hm:m=a+B) (hmb:m<=b) (hb:b<=a+2*B) (hbn:b<=n):Runs lt a m b d:=by
 have e1:(2*c)*B=a:=by rw [ha,ZA 2 c,Nat.mul_assoc]
 have e2:(2*c+1)*B=m:=by rw [Zb,e1,hm];omega
 have e3:(2*c+2)*B=a+2*B:=by rw [Zb,e1]
 have up:∀x y,x<=y->x*B<=y*B:=fun x y hxy=>uj B hxy
 refine ⟨fun i j hi hij hj=>h.rest i j hi hij zj (fun x hx=> ?_),fun i j hi hij hj=>h.rest i j zj hij zj (fun x hx=> ?_),fun p q hp hpm hq hqb=> ?_⟩
 ·by_cases hx1:x<=2*c
  ·have:=up _ _ hx1;omega
  have:=up (2*c+1) x zj;omega
 ·by_cases hx1:x<=2*c+1
  ·have:=up _ _ hx1;omega
  have:=up (2*c+2) x zj;omega
 have h1:¬(2*c+1)*B<=d[p]!.2:=fun hx=>by have:=(h.tag1 p hp zj (2*c+1)).2 hx;omega
 have h2:=(h.tag1 q zj zj (2*c+1)).1 zj
 omega
theorem Half.step {c:Nat} {d d':Array (β×Nat)} (h:Half lt B a n d) (hn:n=d.size) (ha:a=c*(2*B)) (hab:a<=b) (hbn:b<=n) (hb:b=a+2*B\/b=n/\n<=a+2*B) (hp:PermIn a b d d') (hs:SortedIn (slt lt) a b d'):Half lt B b n d':=by
 have e3:(c+1)*(2*B)=a+2*B:=by rw [Zb,ha];omega
 have up:∀x y,x<=y->x*(2*B)<=y*(2*B):=fun x y hxy=>uj _ hxy
 refine ⟨fun p hpn x=> ?_,fun p hbp hpn x=> ?_,fun i j hij hj hsm=> ?_,fun i j hi hij hj hsm=> ?_⟩
 ·by_cases h1:a<=p/\p<b
  ·have key:∀q,a<=q->q<b->(x*(2*B)<=d'[q]!.2↔x<=c):=by
    refine permIn_all d d' a b (fun y=>x*(2*B)<=y.2↔x<=c) zj hp ?_
    intro q hq hqb
    rw [<-h.tag q zj x]
    constructor
    ·intro hx
     rcases uK c x with hc | hc
     ·have:=up (c+1) x hc;omega
     exact hc
    intro hx;have:=up _ _ hx;omega
   rw [key p h1.1 h1.2]
   constructor
   ·intro hx
    rcases uK c x with hc | hc
    ·have:=up (c+1) x hc;omega
    exact hc
   intro hx;have:=up _ _ hx;omega
  rw [hp.2.1 p zj];exact h.tag p hpn x
 ·rw [hp.2.1 p (.inr hbp)];exact h.tag1 p zj hpn x
 ·by_cases h1:j<a
  ·rw [hp.2.1 i (.inl zj),hp.2.1 j (.inl h1)];exact h.done i j hij h1 hsm
  have:=hsm c zj
  exact hs i j zj hij hj
 rw [hp.2.1 i (.inr zj),hp.2.1 j (.inr zj)];exact h.rest i j zj hij hj hsm
theorem Half.end_ {c:Nat} {d:Array (β×Nat)} (h:Half lt B a n d) (ha:a=c*(2*B)) (hB:n<=a+B):Blocks lt (2*B) n n d:=by
 refine ⟨h.tag,fun i j hij hj hsm=> ?_⟩
 by_cases h1:j<a
 ·exact h.done i j hij h1 hsm
 have:=hsm c zj
 refine h.rest i j zj hij hj (fun x hx=> ?_)
 have e1:(2*c)*B=a:=by rw [ha,ZA 2 c,Nat.mul_assoc]
 have e2:(2*c+1)*B=a+B:=by rw [Zb,e1];omega
 by_cases hx1:x<=2*c
 ·have:x*B<=(2*c)*B:=uj B hx1;omega
 have:(2*c+1)*B<=x*B:=uj B zj;omega
theorem Half.end_all {d:Array (β×Nat)} (h:Half lt B n n d):Blocks lt (2*B) n n d:=⟨h.tag,h.done⟩
theorem Blocks.step {c:Nat} {d d':Array (β×Nat)} (h:Blocks lt B a n d) (hn:n=d.size) (ha:a=c*B) (hbn:b<=n) (hb:b=a+B\/b=n/\n<=a+B) (hp:PermIn a b d d') (hs:SortedIn (slt lt) a b d'):Blocks lt B b n d':=by
 have e3:(c+1)*B=a+B:=by rw [Zb,ha];omega
 have up:∀x y,x<=y->x*B<=y*B:=fun x y hxy=>uj _ hxy
 refine ⟨fun p hpn x=> ?_,fun i j hij hj hsm=> ?_⟩
 ·by_cases h1:a<=p/\p<b
  ·have key:∀q,a<=q->q<b->(x*B<=d'[q]!.2↔x<=c):=by
    refine permIn_all d d' a b (fun y=>x*B<=y.2↔x<=c) zj hp ?_
    intro q hq hqb
    rw [<-h.tag q zj x]
    constructor
    ·intro hx
     rcases uK c x with hc | hc
     ·have:=up (c+1) x hc;omega
     exact hc
    intro hx;have:=up _ _ hx;omega
   rw [key p h1.1 h1.2]
   constructor
   ·intro hx
    rcases uK c x with hc | hc
    ·have:=up (c+1) x hc;omega
    exact hc
   intro hx;have:=up _ _ hx;omega
  rw [hp.2.1 p zj];exact h.tag p hpn x
 by_cases h1:j<a
 ·rw [hp.2.1 i (.inl zj),hp.2.1 j (.inl h1)];exact h.done i j hij h1 hsm
 have:=hsm c zj
 exact hs i j zj hij hj
theorem Blocks.all {d:Array (β×Nat)} (h:Blocks lt B n n d) (hn:n<=B):SortedIn (slt lt) 0 n d:=fun i j _ hij hj=>h.done i j hij hj fun c hc=>by
 cases c with
 | zero=>simp
 | succ c=>
  have:1*B<=(c+1)*B:=uj B zj
  omega
end
section
variable {β:Type} {lt:β→β→Bool}
theorem sorted_list {β:Type} [Inhabited β] {lt:β->β->Bool} (d:Array (β×Nat)) (h:SortedIn (slt lt) 0 d.size d):d.toList.Pairwise (fun u v=>slt lt v u=false):=by
 rw [uh]
 intro i j hi hj hij
 have:=h i j (vD _) hij yB
 rw [getElem!_pos d i xg,getElem!_pos d j yB] at this
 simpa using this
end
end Go.Proofs.YtfkekfibjnjcnaaGreatDoor
end
section
namespace Go.Proofs.YtfkekfibjnjcnaaGreatDoor
open Go.RowKit
def eqB (t b n:Int) (k:Nat) (node other:Int) (name value:ByteArray) (t' b' n':Int) (k':Nat) (node' other':Int) (name' value':ByteArray):Bool:=decide (t=t'/\b=b'/\n=n'/\k=k'/\node=node'/\other=other'/\name=name'/\value=value')
theorem eqOp (t b n:Int) (k:Nat) (node other:Int) (name value:ByteArray) (t' b' n':Int) (k':Nat) (node' other':Int) (name' value':ByteArray) (w:World):(Op.equalIn 10000 41 (.agg #[.int .i64 t,.int .i64 b,.int .i64 n,.int .u8 (k:Int),.int .i64 node,.int .i64 other,.string name,.string value]) (.agg #[.int .i64 t',.int .i64 b',.int .i64 n',.int .u8 (k':Int),.int .i64 node',.int .i64 other',.string name',.string value'])).run Tryz.prog w= .ok (eqB t b n k node other name value t' b' n' k' node' other' name' value') w:=by
 have hs:∀x y:ByteArray,x.toList=y.toList↔x=y:=fun x y=>⟨fun h=>by rw [vE,vE] at h;exact WideShapes.bytes_inj h,fun h=>by rw [h]⟩
 unfold eqB
 go_simp
 simp only [Int.natCast_inj]
 by_cases h1:t=t'<;>by_cases h2:b=b'<;>by_cases h3:n=n'<;>by_cases h4:k=k'<;>by_cases h5:node=node'<;>by_cases h6:other=other'<;>by_cases h7:name=name'<;>by_cases h8:value=value'<;>simp [h1,h2,h3,h4,h5,h6,h7,h8]
theorem eqB_self (t b n:Int) (k:Nat) (node other:Int) (name value:ByteArray):eqB t b n k node other name value t b n k node other name value=true:=by simp [eqB]
end Go.Proofs.YtfkekfibjnjcnaaGreatDoor
end
section
namespace Go.Proofs.YtfkekfibjnjcnaaGreatDoor
open Go.Proofs.Tryz
open Go.Shelf
set_option maxRecDepth 100000
def sortLays_ren:Ren:=⟨fun | 6=>108 | 14=>151 | 15=>113 | 20=>203 | 21=>204 | 22=>205 | 23=>206 | 24=>207 | 25=>208 | 26=>209 | 27=>210 | 28=>161 | 29=>162 | 46=>246 | 47=>212 | 48=>213 | 49=>247 | 50=>248 | 57=>268 | n=>n,fun | 0=>0 | 3=>3 | 4=>4 | 5=>5 | 9=>9 | 22=>95 | 24=>98 | 25=>137 | 39=>189 | 45=>237 | 46=>238 | 50=>223 | 53=>244 | 55=>226 | 66=>282 | 70=>286 | 76=>312 | 77=>313 | n=>n,fun n=>n⟩
theorem sortLays:SlLaysF0.n6 prog sortLays_ren where
 mixed:=zk
 f6:=⟨ "slices.SortFunc[[]concordat/tree.Place,concordat/tree.Place]",zk,func108.trans (congrArg some zk)⟩
 f14:=⟨ "slices.pdqsortCmpFunc[concordat/tree.Place]",zk,func151.trans (congrArg some zk)⟩
 f15:=func113.trans (congrArg some zk)
 f20:=⟨ "slices.insertionSortCmpFunc[concordat/tree.Place]",zk,func203.trans (congrArg some zk)⟩
 f21:=⟨ "slices.heapSortCmpFunc[concordat/tree.Place]",zk,func204.trans (congrArg some zk)⟩
 f22:=⟨ "slices.breakPatternsCmpFunc[concordat/tree.Place]",zk,func205.trans (congrArg some zk)⟩
 f23:=⟨ "slices.choosePivotCmpFunc[concordat/tree.Place]",zk,func206.trans (congrArg some zk)⟩
 f24:=⟨ "slices.reverseRangeCmpFunc[concordat/tree.Place]",zk,func207.trans (congrArg some zk)⟩
 f25:=⟨ "slices.partialInsertionSortCmpFunc[concordat/tree.Place]",zk,func208.trans (congrArg some zk)⟩
 f26:=⟨ "slices.partitionEqualCmpFunc[concordat/tree.Place]",zk,func209.trans (congrArg some zk)⟩
 f27:=⟨ "slices.partitionCmpFunc[concordat/tree.Place]",zk,func210.trans (congrArg some zk)⟩
 f28:=func161.trans (congrArg some zk)
 f29:=func162.trans (congrArg some zk)
 f46:=⟨ "slices.siftDownCmpFunc[concordat/tree.Place]",zk,func246.trans (congrArg some zk)⟩
 f47:=func212.trans (congrArg some zk)
 f48:=func213.trans (congrArg some zk)
 f49:=⟨ "slices.medianAdjacentCmpFunc[concordat/tree.Place]",zk,func247.trans (congrArg some zk)⟩
 f50:=⟨ "slices.medianCmpFunc[concordat/tree.Place]",zk,func248.trans (congrArg some zk)⟩
 f57:=⟨ "slices.order2CmpFunc[concordat/tree.Place]",zk,func268.trans (congrArg some zk)⟩
 t0:=underlying0
 a0:=isAgg0
 z0:=sizeOf0
 v0:=zeroValue0
 t3:=underlying3
 a3:=isAgg3
 z3:=sizeOf3
 v3:=zeroValue3
 t4:=underlying4
 a4:=isAgg4
 z4:=sizeOf4
 v4:=zeroValue4
 t5:=underlying5
 a5:=isAgg5
 z5:=sizeOf5
 v5:=zeroValue5
 t9:=underlying9
 a9:=isAgg9
 z9:=sizeOf9
 v9:=zeroValue9
 t22:=underlying95
 a22:=isAgg95
 z22:=sizeOf95
 v22:=zeroValue95
 t25:=underlying137
 a25:=isAgg137
 z25:=sizeOf137
 v25:=zeroValue137
 t39:=underlying189
 a39:=isAgg189
 z39:=sizeOf189
 v39:=zeroValue189
 t45:=underlying237
 a45:=isAgg237
 z45:=sizeOf237
 v45:=zeroValue237
 t46:=underlying238
 a46:=isAgg238
 z46:=sizeOf238
 v46:=zeroValue238
 t50:=underlying223
 a50:=isAgg223
 z50:=sizeOf223
 v50:=zeroValue223
 t53:=underlying244
 a53:=isAgg244
 z53:=sizeOf244
 v53:=zeroValue244
 t55:=underlying226
 a55:=isAgg226
 z55:=sizeOf226
 v55:=zeroValue226
 t66:=underlying282
 a66:=isAgg282
 z66:=sizeOf282
 v66:=zeroValue282
 t70:=underlying286
 a70:=isAgg286
 z70:=sizeOf286
 v70:=zeroValue286
 t76:=underlying312
 a76:=isAgg312
 z76:=sizeOf312
 v76:=zeroValue312
 t77:=underlying313
 a77:=isAgg313
 z77:=sizeOf313
 v77:=zeroValue313
end Go.Proofs.YtfkekfibjnjcnaaGreatDoor
end
section
namespace Go.Proofs.YtfkekfibjnjcnaaGreatDoor
open Go.Proofs.Tryz
open Go.Shelf
set_option maxRecDepth 100000
def sortMarks_ren:Ren:=⟨fun | 6=>74 | 14=>114 | 15=>113 | 20=>163 | 21=>164 | 22=>165 | 23=>166 | 24=>167 | 25=>168 | 26=>169 | 27=>170 | 28=>161 | 29=>162 | 46=>216 | 47=>212 | 48=>213 | 49=>217 | 50=>218 | 57=>250 | n=>n,fun | 0=>0 | 3=>3 | 4=>4 | 5=>5 | 9=>9 | 22=>104 | 24=>107 | 25=>149 | 39=>189 | 45=>237 | 46=>238 | 50=>223 | 53=>244 | 55=>226 | 66=>282 | 70=>286 | 76=>312 | 77=>313 | n=>n,fun n=>n⟩
theorem sortMarks:SlLaysF0.n6 prog sortMarks_ren where
 mixed:=zk
 f6:=⟨ "slices.SortFunc[[]concordat/cells.Mark,concordat/cells.Mark]",zk,func74.trans (congrArg some zk)⟩
 f14:=⟨ "slices.pdqsortCmpFunc[concordat/cells.Mark]",zk,func114.trans (congrArg some zk)⟩
 f15:=func113.trans (congrArg some zk)
 f20:=⟨ "slices.insertionSortCmpFunc[concordat/cells.Mark]",zk,func163.trans (congrArg some zk)⟩
 f21:=⟨ "slices.heapSortCmpFunc[concordat/cells.Mark]",zk,func164.trans (congrArg some zk)⟩
 f22:=⟨ "slices.breakPatternsCmpFunc[concordat/cells.Mark]",zk,func165.trans (congrArg some zk)⟩
 f23:=⟨ "slices.choosePivotCmpFunc[concordat/cells.Mark]",zk,func166.trans (congrArg some zk)⟩
 f24:=⟨ "slices.reverseRangeCmpFunc[concordat/cells.Mark]",zk,func167.trans (congrArg some zk)⟩
 f25:=⟨ "slices.partialInsertionSortCmpFunc[concordat/cells.Mark]",zk,func168.trans (congrArg some zk)⟩
 f26:=⟨ "slices.partitionEqualCmpFunc[concordat/cells.Mark]",zk,func169.trans (congrArg some zk)⟩
 f27:=⟨ "slices.partitionCmpFunc[concordat/cells.Mark]",zk,func170.trans (congrArg some zk)⟩
 f28:=func161.trans (congrArg some zk)
 f29:=func162.trans (congrArg some zk)
 f46:=⟨ "slices.siftDownCmpFunc[concordat/cells.Mark]",zk,func216.trans (congrArg some zk)⟩
 f47:=func212.trans (congrArg some zk)
 f48:=func213.trans (congrArg some zk)
 f49:=⟨ "slices.medianAdjacentCmpFunc[concordat/cells.Mark]",zk,func217.trans (congrArg some zk)⟩
 f50:=⟨ "slices.medianCmpFunc[concordat/cells.Mark]",zk,func218.trans (congrArg some zk)⟩
 f57:=⟨ "slices.order2CmpFunc[concordat/cells.Mark]",zk,func250.trans (congrArg some zk)⟩
 t0:=underlying0
 a0:=isAgg0
 z0:=sizeOf0
 v0:=zeroValue0
 t3:=underlying3
 a3:=isAgg3
 z3:=sizeOf3
 v3:=zeroValue3
 t4:=underlying4
 a4:=isAgg4
 z4:=sizeOf4
 v4:=zeroValue4
 t5:=underlying5
 a5:=isAgg5
 z5:=sizeOf5
 v5:=zeroValue5
 t9:=underlying9
 a9:=isAgg9
 z9:=sizeOf9
 v9:=zeroValue9
 t22:=underlying104
 a22:=isAgg104
 z22:=sizeOf104
 v22:=zeroValue104
 t25:=underlying149
 a25:=isAgg149
 z25:=sizeOf149
 v25:=zeroValue149
 t39:=underlying189
 a39:=isAgg189
 z39:=sizeOf189
 v39:=zeroValue189
 t45:=underlying237
 a45:=isAgg237
 z45:=sizeOf237
 v45:=zeroValue237
 t46:=underlying238
 a46:=isAgg238
 z46:=sizeOf238
 v46:=zeroValue238
 t50:=underlying223
 a50:=isAgg223
 z50:=sizeOf223
 v50:=zeroValue223
 t53:=underlying244
 a53:=isAgg244
 z53:=sizeOf244
 v53:=zeroValue244
 t55:=underlying226
 a55:=isAgg226
 z55:=sizeOf226
 v55:=zeroValue226
 t66:=underlying282
 a66:=isAgg282
 z66:=sizeOf282
 v66:=zeroValue282
 t70:=underlying286
 a70:=isAgg286
 z70:=sizeOf286
 v70:=zeroValue286
 t76:=underlying312
 a76:=isAgg312
 z76:=sizeOf312
 v76:=zeroValue312
 t77:=underlying313
 a77:=isAgg313
 z77:=sizeOf313
 v77:=zeroValue313
end Go.Proofs.YtfkekfibjnjcnaaGreatDoor
end
section
namespace Go.Proofs.YtfkekfibjnjcnaaGreatDoor
open Go.Proofs.Tryz
open Go.Shelf
set_option maxRecDepth 100000
def sortNums_ren:Ren:=⟨fun | 6=>180 | 14=>228 | 15=>113 | 20=>172 | 21=>256 | 22=>257 | 23=>258 | 24=>259 | 25=>260 | 26=>261 | 27=>262 | 28=>161 | 29=>162 | 46=>273 | 47=>212 | 48=>213 | 49=>274 | 50=>275 | 57=>284 | n=>n,fun | 0=>0 | 3=>3 | 4=>4 | 5=>5 | 9=>9 | 22=>48 | 24=>41 | 25=>163 | 39=>189 | 45=>237 | 46=>238 | 50=>223 | 53=>244 | 55=>226 | 66=>282 | 70=>286 | 76=>312 | 77=>313 | n=>n,fun n=>n⟩
theorem sortNums:SlLaysF0.n6 prog sortNums_ren where
 mixed:=zk
 f6:=⟨ "slices.SortFunc[[]concordat/api.Op,concordat/api.Op]",zk,func180.trans (congrArg some zk)⟩
 f14:=⟨ "slices.pdqsortCmpFunc[concordat/api.Op]",zk,func228.trans (congrArg some zk)⟩
 f15:=func113.trans (congrArg some zk)
 f20:=⟨ "slices.insertionSortCmpFunc[concordat/api.Op]",zk,func172.trans (congrArg some zk)⟩
 f21:=⟨ "slices.heapSortCmpFunc[concordat/api.Op]",zk,func256.trans (congrArg some zk)⟩
 f22:=⟨ "slices.breakPatternsCmpFunc[concordat/api.Op]",zk,func257.trans (congrArg some zk)⟩
 f23:=⟨ "slices.choosePivotCmpFunc[concordat/api.Op]",zk,func258.trans (congrArg some zk)⟩
 f24:=⟨ "slices.reverseRangeCmpFunc[concordat/api.Op]",zk,func259.trans (congrArg some zk)⟩
 f25:=⟨ "slices.partialInsertionSortCmpFunc[concordat/api.Op]",zk,func260.trans (congrArg some zk)⟩
 f26:=⟨ "slices.partitionEqualCmpFunc[concordat/api.Op]",zk,func261.trans (congrArg some zk)⟩
 f27:=⟨ "slices.partitionCmpFunc[concordat/api.Op]",zk,func262.trans (congrArg some zk)⟩
 f28:=func161.trans (congrArg some zk)
 f29:=func162.trans (congrArg some zk)
 f46:=⟨ "slices.siftDownCmpFunc[concordat/api.Op]",zk,func273.trans (congrArg some zk)⟩
 f47:=func212.trans (congrArg some zk)
 f48:=func213.trans (congrArg some zk)
 f49:=⟨ "slices.medianAdjacentCmpFunc[concordat/api.Op]",zk,func274.trans (congrArg some zk)⟩
 f50:=⟨ "slices.medianCmpFunc[concordat/api.Op]",zk,func275.trans (congrArg some zk)⟩
 f57:=⟨ "slices.order2CmpFunc[concordat/api.Op]",zk,func284.trans (congrArg some zk)⟩
 t0:=underlying0
 a0:=isAgg0
 z0:=sizeOf0
 v0:=zeroValue0
 t3:=underlying3
 a3:=isAgg3
 z3:=sizeOf3
 v3:=zeroValue3
 t4:=underlying4
 a4:=isAgg4
 z4:=sizeOf4
 v4:=zeroValue4
 t5:=underlying5
 a5:=isAgg5
 z5:=sizeOf5
 v5:=zeroValue5
 t9:=underlying9
 a9:=isAgg9
 z9:=sizeOf9
 v9:=zeroValue9
 t22:=underlying48
 a22:=isAgg48
 z22:=sizeOf48
 v22:=zeroValue48
 t25:=underlying163
 a25:=isAgg163
 z25:=sizeOf163
 v25:=zeroValue163
 t39:=underlying189
 a39:=isAgg189
 z39:=sizeOf189
 v39:=zeroValue189
 t45:=underlying237
 a45:=isAgg237
 z45:=sizeOf237
 v45:=zeroValue237
 t46:=underlying238
 a46:=isAgg238
 z46:=sizeOf238
 v46:=zeroValue238
 t50:=underlying223
 a50:=isAgg223
 z50:=sizeOf223
 v50:=zeroValue223
 t53:=underlying244
 a53:=isAgg244
 z53:=sizeOf244
 v53:=zeroValue244
 t55:=underlying226
 a55:=isAgg226
 z55:=sizeOf226
 v55:=zeroValue226
 t66:=underlying282
 a66:=isAgg282
 z66:=sizeOf282
 v66:=zeroValue282
 t70:=underlying286
 a70:=isAgg286
 z70:=sizeOf286
 v70:=zeroValue286
 t76:=underlying312
 a76:=isAgg312
 z76:=sizeOf312
 v76:=zeroValue312
 t77:=underlying313
 a77:=isAgg313
 z77:=sizeOf313
 v77:=zeroValue313
end Go.Proofs.YtfkekfibjnjcnaaGreatDoor
end
section
namespace Go.Proofs.YtfkekfibjnjcnaaGreatDoor
open Go.RowKit
theorem cut_right (s:ByteArray) (c:Nat) (h:c<=s.size):∃F:ByteArray,F.data.toList=s.data.toList.drop c/\∀w,(Instr.slice 9 (.string s) (some (.int .i64 (c:Int))) none none).run Tryz.prog w= .ok (.string F) w:=by
 refine ⟨s.extract c s.size,by simp;rw [vG zm],fun w=> ?_⟩
 have h1:(c:Int)<=(s.size:Int):=zj
 have h0:(0:Int)<=(c:Int):=zj
 go_simp
theorem add_two (x y:ByteArray) (h:x.size+y.size<=9223372036854775807):∃F:ByteArray,F.data.toList=x.data.toList++y.data.toList/\F.size=x.size+y.size/\∀w,(Op.stringOp .add x y).run Tryz.prog w= .ok (.string F) w:=by
 refine ⟨x++y,zm,zm,fun w=> ?_⟩
 rw [run_string_add_sum w x y h]
theorem bytes_ext {x y:ByteArray} (h:x.data.toList=y.data.toList):x=y:=by
 cases x;cases y
 simp at h
 rw [h]
theorem take_byte (s:ByteArray) (k:Nat) (h:k<s.size):s.data.toList.take k++ [s[k]]=s.data.toList.take (k+1):=by
 have hl:k<s.data.toList.length:=qO
 rw [List.take_succ_eq_append_getElem hl]
 congr 1
end Go.Proofs.YtfkekfibjnjcnaaGreatDoor
end
section
namespace Go.Proofs
open Go.Proofs.Tryz
open Go.Shelf
def Tryz.lays189_ren:Go.Shelf.Ren:=⟨fun | 189=>70 | 125=>113 | 257=>112 | 128=>161 | 129=>162 | 294=>152 | 295=>153 | 296=>154 | 297=>155 | 298=>156 | 299=>157 | 216=>158 | 300=>159 | 301=>160 | 328=>211 | 329=>212 | 330=>213 | 331=>214 | 332=>215 | 215=>110 | 343=>249 | n=>n,fun | 28=>30 | 3=>3 | 46=>189 | 0=>0 | 51=>244 | 53=>226 | 4=>4 | 183=>238 | 182=>237 | 131=>223 | 5=>5 | 9=>9 | 218=>282 | 222=>286 | 228=>312 | 229=>313 | n=>n,fun | n=>n⟩
theorem Tryz.lays189:Go.Proofs.Lays.n189 prog Tryz.lays189_ren:={
 mixed:=zk
 f125:=func113.trans (congrArg some zk)
 f128:=func161.trans (congrArg some zk)
 f129:=func162.trans (congrArg some zk)
 f189:=func70.trans (congrArg some zk)
 f215:=func110.trans (congrArg some zk)
 f216:=func158.trans (congrArg some zk)
 f257:=func112.trans (congrArg some zk)
 f294:=func152.trans (congrArg some zk)
 f295:=func153.trans (congrArg some zk)
 f296:=func154.trans (congrArg some zk)
 f297:=func155.trans (congrArg some zk)
 f298:=func156.trans (congrArg some zk)
 f299:=func157.trans (congrArg some zk)
 f300:=func159.trans (congrArg some zk)
 f301:=func160.trans (congrArg some zk)
 f328:=func211.trans (congrArg some zk)
 f329:=func212.trans (congrArg some zk)
 f330:=func213.trans (congrArg some zk)
 f331:=func214.trans (congrArg some zk)
 f332:=func215.trans (congrArg some zk)
 f343:=func249.trans (congrArg some zk)
 t0:=underlying0
 a0:=isAgg0
 z0:=sizeOf0
 v0:=zeroValue0
 t3:=underlying3
 a3:=isAgg3
 z3:=sizeOf3
 v3:=zeroValue3
 t4:=underlying4
 a4:=isAgg4
 z4:=sizeOf4
 v4:=zeroValue4
 t5:=underlying5
 a5:=isAgg5
 z5:=sizeOf5
 v5:=zeroValue5
 t9:=underlying9
 a9:=isAgg9
 z9:=sizeOf9
 v9:=zeroValue9
 t28:=underlying30
 a28:=isAgg30
 z28:=sizeOf30
 v28:=zeroValue30
 t46:=underlying189
 a46:=isAgg189
 z46:=sizeOf189
 v46:=zeroValue189
 t51:=underlying244
 a51:=isAgg244
 z51:=sizeOf244
 v51:=zeroValue244
 t53:=underlying226
 a53:=isAgg226
 z53:=sizeOf226
 v53:=zeroValue226
 t131:=underlying223
 a131:=isAgg223
 z131:=sizeOf223
 v131:=zeroValue223
 t182:=underlying237
 a182:=isAgg237
 z182:=sizeOf237
 v182:=zeroValue237
 t183:=underlying238
 a183:=isAgg238
 z183:=sizeOf238
 v183:=zeroValue238
 t218:=underlying282
 a218:=isAgg282
 z218:=sizeOf282
 v218:=zeroValue282
 t222:=underlying286
 a222:=isAgg286
 z222:=sizeOf286
 v222:=zeroValue286
 t228:=underlying312
 a228:=isAgg312
 z228:=sizeOf312
 v228:=zeroValue312
 t229:=underlying313
 a229:=isAgg313
 z229:=sizeOf313
 v229:=zeroValue313}
open Go.Sort Go.RowKit in
theorem Tryz.slices_Sort_int (blk off cap:Nat) (zs:List Int) (w:World) (hH:Holds (Value.int .i64) w blk off zs.toArray) (hblk:blk<w.heap.size) (hsz:zs.length<4611686018427387904):
  Calls prog 70 #[.slice (some ⟨blk,off,none⟩) zs.length cap] w fun e w'=>
   e= .returned (.tuple #[])/\∃n os,w'=grow (putRow (Value.int .i64) (Sort.ahead w n) blk off (zs.mergeSort fun x y=>decide (x<=y)).toArray) os:=Any.slices_Sort_int Tryz.lays189 blk off cap zs w hH hblk hsz
open Go.RowKit Go.Sort in
theorem Tryz.slices_Sort_int_none (p:Option Addr) (cap:Nat) (w:World):
  Calls prog 70 #[.slice p 0 cap] w fun e w'=>e= .returned (.tuple #[])/\w'=w:=Any.slices_Sort_int_none Tryz.lays189 p cap w
