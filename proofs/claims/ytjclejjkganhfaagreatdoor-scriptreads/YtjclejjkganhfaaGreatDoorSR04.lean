import Derived.Test.YtjclejjkganhfaaGreatDoorMacB
import Derived.Test.YtjclejjkganhfaaGreatDoorSR01
import Derived.OrdersHeld
import Derived.OrdersIn
import Derived.TacticsIn
import Derived.RangeFuncCalls
import Derived.WalkSpells
import Derived.LaidEql
import Derived.Sort.LotA
import Derived.WideShapes
import Derived.Shelf.SlLaysF0
import Derived.Lib.AppendIntMem
import Derived.Lib.ItoaLen
import Derived.Laws.IdiomStrings
import Derived.Laws.Concat
import Derived.Laws.Strings
import Derived.Lib.Hide
import Derived.Maps.OwnSet
import Derived.Maps.RangeWalk
import Derived.Maps.StringElems
import Derived.Laws.EntriesVeiled
import Derived.Stop.Asserts
import Derived.RowKitTokens
set_option linter.unusedSimpArgs false
set_option linter.unusedVariables false
set_option maxRecDepth 100000
set_option maxHeartbeats 64000000
namespace Go.Proofs.YtjclejjkganhfaaGreatDoor
open Go.Proofs.Tryz
variable {l:Array Bool}
section
section
variable {P:Program} {ops:Array Oper} {Q:Exit→Act→World→Prop} {md:Region.Mode} {S:World→Prop}
theorem an{i}{o}{fuel}{listed}{a}{w}(hr:Region.ready md ops listed= [i])(ho:ops[i]? =some o)
  (h:∀K:Act->World->Prop,(∀a' w',S w'->wpAnyH P md ops Q S fuel (listed.setIfInBounds i true) a' w'->K a' w')->if Region.wanted o (yielded ops a.tmps)=true then Oper.wp P o a w K Q else K (a.put o.dst undef) w):wpAnyH P md ops Q S (fuel+1) listed a w:=by
 refine ⟨fun h0=>vi,fun j hj=> ?_⟩;rw [hr] at hj;simp only [Zf] at hj;subst hj;have:=h (fun a' w'=>S w'/\wpAnyH P md ops Q S fuel (listed.setIfInBounds j true) a' w') (fun a' w' h1 h2=>⟨h1,h2⟩);unfold wpOp
 grind
end
theorem lV{P}{ops}{Q}{S}{id}{a}{w}(hm:P.follows .mixedOrders=true)(hS:S w.drew)
  (h:S w.drew->wpAnyH P .any ops Q S ops.size (Array.replicate ops.size false) a w.drew):(Code.region id ops true).wp P Q a w:=
 wp_region_any hm (wpAny_of_held _ _ _ _ (h hS))
section
section
variable {P:Program} {ops:Array Oper} {Q:Exit→Act→World→Prop} {md:Region.Mode} {S:World→Prop} {z:Nat}
def EU(md:Region.Mode)(ops:Array Oper)(z i:Nat):Bool:=match ops[z]? with
 | some oz=>oz.after.any fun e=>Region.binds md e &&e.on==i
 | none=>false
theorem GE{i}(h:EU md ops z i=true){oz}(hz:ops[z]? =some oz):∃e∈oz.after,Region.binds md e=true/\e.on=i:=by
 unfold EU at h
 grind
def nz(P:Program)(md:Region.Mode)(ops:Array Oper)(Q:Exit->Act->World->Prop)(S:World->Prop)(z:Nat):Nat->Array Bool->Act->World->Prop
 | 0,listed,a,w=>Region.ready md ops listed= []/\Q .normal a w
 | fuel+1,listed,a,w=>
  (Region.ready md ops listed= []->Q .normal a w)/\
  ∀i∈Region.ready md ops listed,wpOp P ops Q i (fun a' w'=>(S w'\/(listed.setIfInBounds i true).getD z false=true)/\nz P md ops Q S z fuel (listed.setIfInBounds i true) a' w') a w
theorem AY:∀(fuel:Nat) (listed:Array Bool) (a:Act) (w:qW),nz P md ops Q S z fuel listed a w->wpAny P md ops Q fuel listed a w
 | 0,_,_,_,h=>h
 | fuel+1,_,_,_,h=>⟨h.1,fun i hi=>wpOp_mono (fun a' w' h'=>AY fuel _ a' w' h'.2) (h.2 i hi)⟩
theorem tZ{i z}(h:i≠z):(l.setIfInBounds i true).getD z false=l.getD z false:=by
 simp_all
theorem wD{i z}(h:l.getD z false=true):(l.setIfInBounds i true).getD z false=true:=by
 by_cases e:i=z
 ·subst e
  have hl:i<l.size:=by
   rcases Yc i l.size with h' | h'
   ·exact h'
   simp [YN h'] at h
  simp [hl]
 simp_all
theorem Ag{T}{i}(hiz:i≠z){oi}{v}(hi:ops[i]? =some oi)(hsel:∀(j:Nat) (o:Oper) cs b,ops[j]? =some o->o.op≠ .select cs b)
  (hQ:∀c a w,Q (.panic c) (a.put oi.dst v) w->Q (.panic c) a w) (hT:(∀w,T w)\/((∀w,S w->T w)/\EU md ops z i=true)):
  ∀(fuel:Nat) (listed:Array Bool) (a:Act) (w:qW),
   (∀j oj,ops[j]? =some oj->j≠i->listed.getD j true=false->(∀e∈oj.after,Region.binds md e=true->e.on≠i)->oi.apart ops oj=true)->
   i∈Region.ready md ops listed->YieldsIf P ops T oi v a->(S w\/listed.getD z false=true)->((∀w,T w)\/listed.getD z false=false)->
   nz P md ops Q S z fuel (listed.setIfInBounds i true) (a.put oi.dst v) w->nz P md ops Q S z (fuel+1) listed a w:=by
 have hTw:∀(listed:Array Bool) (w:qW),(S w\/listed.getD z false=true)->((∀w,T w)\/listed.getD z false=false)->T w:=fun listed w h1 h2=>by
  grind
 intro fuel
 induction fuel with
 | zero=>
  intro listed a w _ hr hy hS hz H;refine ⟨fun h=>zL,fun j hj=> ?_⟩;by_cases dG:j=i
  ·exact kn6
  have:=ready_mono hj dG;rw [H.1] at this
  cases this
 | succ fuel ih=>
  intro listed a w gc hr hy hS hz H;refine ⟨fun h=>zL,fun j hj=> ?_⟩;by_cases dG:j=i
  ·exact kn6
  have h1:=H.2 j (ready_mono hj dG);obtain ⟨hjun,oj,hoj,hall⟩:=mem_ready.1 hj
  have hnot:∀e∈oj.after,Region.binds md e=true->e.on≠i:=fun e he hb jR=>by
   have h1:=hall e he hb;have h0:=(mem_ready.1 hr).1;rw [jR] at h1
   rcases Yc i listed.size with h' | h'
   ·simp [h'] at h0 h1;rw [h0] at h1;cases h1
   simp [YN h'] at h1
  have hz':(∀w,T w)\/(listed.setIfInBounds j true).getD z false=false:=by
   rcases hT with hT | ⟨_,hw⟩
   ·exact .inl hT
   rcases hz with hz | hz
   ·exact .inl hz
   right;rw [tZ]
   ·exact hz
   intro e;subst e;obtain ⟨x,hx,hb,ho⟩:=GE hw hoj;exact hnot x hx hb ho
  have h2:=wpOp_putIf hoj (gc j oj hoj dG hjun hnot) (fun cs b=>hsel i oi cs b hi) (fun cs b=>hsel j oj cs b hoj) hQ hy h1
  have hfree':∀k ok,ops[k]? =some ok->k≠i->(listed.setIfInBounds j true).getD k true=false->
    (∀e∈ok.after,Region.binds md e=true->e.on≠i)->oi.apart ops ok=true:=fun k ok hk hki hun hno=>by
   refine gc k ok hk hki ?_ hno;by_cases iD:j=k
   ·subst iD;exact hjun
   rw [getD_set_ne true iD] at hun;exact hun
  refine wpOp_mono (fun a' w' h3=> ?_) h2
  have hC:=h3.2.1.imp id (fun h=>by
   rw [Array.setIfInBounds_comm _ _ (Ne.symm dG),tZ hiz] at h
   exact h)
  refine ⟨hC,ih (listed.setIfInBounds j true) a' w' hfree' (ready_mono hr (Ne.symm dG)) h3.1 hC hz' ?_⟩
  grind [Array.setIfInBounds_comm]
theorem mV{i}(hiz:i≠z)(kD:EU md ops z i=true){oi}{v}{fuel}{listed}{a}{w}(hi:ops[i]? =some oi)
  (hs:Region.noSelect ops=true) (hf:Region.free md ops listed i=true) (hr:(Region.ready md ops listed).contains i=true) (hzl:listed.getD z false=false)
  (hQ:∀c a w,Q (.panic c) (a.put oi.dst v) w->Q (.panic c) a w) (hy:YieldsIf P ops S oi v a) (hS:S w)
  (h:nz P md ops Q S z fuel (listed.setIfInBounds i true) (a.put oi.dst v) w):nz P md ops Q S z (fuel+1) listed a w:=
 Ag hiz hi (Region.noSelect_spec hs) hQ (.inr ⟨fun _ h=>h,kD⟩) fuel listed a w (Region.free_spec hi hf) (by simpa using hr) hy (.inl hS) (.inr hzl) h
theorem lY{i}(hiz:i≠z){oi}{v}{fuel}{listed}{a}{w}(hi:ops[i]? =some oi)
  (hs:Region.noSelect ops=true) (hf:Region.free md ops listed i=true) (hr:(Region.ready md ops listed).contains i=true)
  (hQ:∀c a w,Q (.panic c) (a.put oi.dst v) w->Q (.panic c) a w) (hy:YieldsIf P ops (fun _=>True) oi v a) (hS:S w)
  (h:nz P md ops Q S z fuel (listed.setIfInBounds i true) (a.put oi.dst v) w):nz P md ops Q S z (fuel+1) listed a w:=
 Ag hiz hi (Region.noSelect_spec hs) hQ (.inl fun _=>trivial) fuel listed a w (Region.free_spec hi hf) (by simpa using hr) hy (.inl hS) (.inl fun _=>trivial) h
theorem lN{i}{o}{fuel}{listed}{a}{w}(hr:Region.ready md ops listed= [i])(ho:ops[i]? =some o)
  (h:∀K:Act->World->Prop,(∀a' w',(S w'\/i=z/\z<listed.size)->nz P md ops Q S z fuel (listed.setIfInBounds i true) a' w'->K a' w')->if Region.wanted o (yielded ops a.tmps)=true then Oper.wp P o a w K Q else K (a.put o.dst undef) w):nz P md ops Q S z (fuel+1) listed a w:=by
 refine ⟨fun h0=>vi,fun j hj=> ?_⟩;rw [hr] at hj;simp only [Zf] at hj;subst hj
 have:=h (fun a' w'=>(S w'\/(listed.setIfInBounds j true).getD z false=true)/\nz P md ops Q S z fuel (listed.setIfInBounds j true) a' w') (fun a' w' h1 h2=>⟨h1.imp id (fun h=>by
  obtain ⟨e,hl⟩:=h
  subst e
  simp [hl]),h2⟩)
 unfold wpOp
 grind
theorem nZ{listed}{a}{w}(hr:Region.ready md ops listed= [])(h:Q .normal a w):
  ∀fuel,nz P md ops Q S z fuel listed a w
 | 0=>⟨hr,h⟩
 | _+1=>⟨fun _=>h,by rw [hr];simp⟩
theorem nS{id}{a}{w}(hm:P.follows .mixedOrders=true)(hS:S w.drew)
  (h:S w.drew->nz P .any ops Q S z ops.size (Array.replicate ops.size false) a w.drew):(Code.region id ops true).wp P Q a w:=
 wp_region_any hm (AY _ _ _ _ (h hS))
end
end
section
section
variable {P:Program} {ops:Array Oper} {Q:Exit→Act→World→Prop} {md:Region.Mode} {S:World→Prop}
theorem FU{l n}{o:Oper}(hd:∀c,o.op≠ .defer c){a}{w}{K}(h:o.wp P a w K Q):o.wpIn (Fence.wide.inRound l) n P a w K Q:=by
 refine ⟨fun _ _=>trivial,?_⟩;have e:Oper.semAt (Fence.wide.inRound l).round a.eval o=execOp a.eval o:=Oper.semAt_some l a.eval o hd;rw [e];unfold Oper.wp at h;generalize (execOp a.eval o).run P w=r at*
 cases r with
 | ok x w'=>
  cases x<;>simp only [Oper.upon,Oper.uponIn] at h |-
  case value v=>exact h
  case skip=>exact h
  case defer d=>exact h
  case enter f args=>exact ⟨fun h=>qa,CallsIn.inRound l (callsIn_wide.2 h)⟩
  case row row args=>
   refine ⟨fun h=>qa,fun c cs _=> ?_⟩;obtain ⟨v,w'',r,s⟩:=h c cs;exact ⟨v,w'',r,stepsIn_wide.2 s⟩
 | halt x w'=>
  cases x<;>simp only [Oper.upon,Oper.uponIn] at h |-
  omega
def FZ(ops:Array Oper):Bool:=ops.all fun o=>match o.op with | .defer _=>false | _=>true
theorem GY(h:FZ ops=true){i:Nat}{o}(hi:ops[i]? =some o):∀c,o.op≠ .defer c:=by
 intro c e;obtain ⟨hl,he⟩:=uK.1 hi;have:=(Array.all_eq_true.1 h) i hl
 simp_all
theorem oy{l n}(hd:FZ ops=true)(hno:¬LetsOut Q):∀(fuel:Nat) (listed:Array Bool) (a:Act) (w:qW),wpAny P md ops Q fuel listed a w->wpAnyIn (Fence.wide.inRound l) n P md ops Q fuel listed a w
 | 0,_,_,_,h=>h
 | fuel+1,listed,a,w,h=>by
  refine ⟨h.1,fun i hi=> ?_⟩;have h1:=h.2 i hi;unfold wpOp at h1;unfold wpOpIn
  cases ho:ops[i]? with
  | none=>
   rw [ho] at h1;exact oy hd hno fuel _ a w h1
  | some o=>
   rw [ho] at h1
   dsimp only at h1 |-
   split
   ·rename_i hw;rw [if_pos hw] at h1
    rcases h1 with h1 | h1
    ·have h2:=FU (l:=l) (n:=n) (GY hd ho) h1;have h3:=wpOpIn_mono (F:=Fence.wide.inRound l) (n:=n) (P:=P) (ops:=ops) (Q:=Q) (i:=i) (a:=a) (w:=w) (fun a' w' h'=>oy (l:=l) (n:=n) hd hno fuel (listed.setIfInBounds i true) a' w' h') (K:=wpAny P md ops Q fuel (listed.setIfInBounds i true)) (by unfold wpOpIn;rw [ho];dsimp only;rw [if_pos hw];exact h2);unfold wpOpIn at h3;rw [ho] at h3;dsimp only at h3;rw [if_pos hw] at h3;exact h3
    simp_all
   rename_i hw;rw [if_neg hw] at h1;exact ⟨fun _ _=>trivial,oy hd hno fuel _ _ w h1⟩
theorem sS{l n id}{a}{w}(hm:P.follows .mixedOrders=true)(hd:FZ ops=true)(hno:¬LetsOut Q)(hS:S w.drew)
  (h:S w.drew->wpAnyH P .any ops Q S ops.size (Array.replicate ops.size false) a w.drew):(Code.region id ops true).wpIn (Fence.wide.inRound l) n P Q a w:=
 wpIn_region_any hm (oy hd hno _ _ _ _ (wpAny_of_held _ _ _ _ (h hS)))
end
end
end
section
open RowKit
def oa(t b t' b':Int):Bool:=if t=t' then decide (b<b') else decide (t<t')
theorem Ep(t b t' b')(w):
  qC 218 #[.agg #[qI t,qI b],.agg #[qI t',qI b']] w (qR (.bool (oa t b t' b')) w):=by
 unfold oa;by_cases h:t=t'
 ·have hd:(t !=t')=false:=by simp [h]
  rw [if_pos h];exact kj2
 have hd:(t !=t')=true:=by simp [h]
 rw [if_neg h];exact kj2
end
section
open Go.Sort
section
variable {β:Type} (lt:β→β→Bool)
def slt(x y:β×Nat):Bool:=lt x.1 y.1 ||(!lt y.1 x.1 &&decide (x.2<y.2))
def tlt(x y:β×Nat):Bool:=lt x.1 y.1
end
section
variable {β:Type} {lt:β→β→Bool}
theorem slt_false{x y} :slt lt x y=false↔lt x.1 y.1=false/\(lt y.1 x.1=true\/y.2<=x.2):=by
 grind [slt]
theorem rq(h:SWO lt):SWO (slt lt) where
 irrefl x:=by rw [slt_false];exact ⟨h.irrefl _,.inr zg⟩
 trans x y z h1 h2:=by
  have a1:¬slt lt x y=false:=by rw [h1];simp
  have a2:¬slt lt y z=false:=by rw [h2];simp
  rw [<-Bool.not_eq_false,slt_false];rw [slt_false] at a1 a2;rintro ⟨b1,b2⟩
  cases xy:lt x.1 y.1 with
  | true=>
   cases yz:lt y.1 z.1 with
   | true=>rw [h.trans _ _ _ xy yz] at b1;cases b1
   | false=>
    cases zy:lt z.1 y.1 with
    | true=>simp_all
    | false=>rw [h.ntrans _ _ _ b1 zy] at xy;cases xy
  | false=>
   cases yx:lt y.1 x.1 with
   | true=>simp_all
   | false=>
    have n1:¬y.2<=x.2:=fun e=>a1 ⟨xy,.inr e⟩
    cases yz:lt y.1 z.1 with
    | true=>rw [h.ntrans _ _ _ yx b1] at yz;cases yz
    | false=>
     cases zy:lt z.1 y.1 with
     | true=>simp_all
     | false=>
      have n2:¬z.2<=y.2:=fun e=>a2 ⟨yz,.inr e⟩
      rcases b2 with b2 | b2
      ·rw [h.ntrans _ _ _ zy yx] at b2;cases b2
      omega
 ntrans x y z h1 h2:=by
  rw [slt_false] at*;obtain ⟨xy,a1⟩:=h1;obtain ⟨yz,a2⟩:=h2;refine ⟨h.ntrans _ _ _ xy yz,?_⟩
  cases zx:lt z.1 x.1 with
  | true=>exact .inl rfl
  | false=>
   refine .inr ?_
   rcases a1 with yx | e1
   ·rw [h.ntrans _ _ _ yz zx] at yx;cases yx
   rcases a2 with zy | e2
   ·rw [h.ntrans _ _ _ zx xy] at zy;cases zy
   omega
theorem rG{x y}(h:y.2<x.2):slt lt x y=tlt lt x y:=by
 grind [slt,tlt]
theorem Ct(h:SWO lt){x y}(hx:slt lt x y=true):slt lt y x=false:=(rq h).asymmA hx
end
section
variable {β:Type} [Inhabited β] {lt:β→β→Bool}
theorem td(a):∀(j:Nat) (d:Array (β×Nat)),j<d.size->(∀p,a<=p->p<j->d[p]!.2<d[j]!.2)->insInner (tlt lt) a j d=insInner (slt lt) a j d
 | 0,d,_,_=>rfl
 | j+1,d,hj,h=>by
  unfold insInner;by_cases ha:a<j+1
  ·have e:slt lt d[j+1]! d[j]! =tlt lt d[j+1]! d[j]! :=rG (h j zj zj);rw [e];split
   ·refine td a j _ (by rw [swp_size];omega) ?_;intro p hp hpj;rw [swp_get d hj zj,swp_get d hj zj];rw [if_neg zj,if_neg zj,if_pos rfl];exact h p hp zj
   rfl
  grind
theorem CU{α}[Inhabited α](lt)(a b i)(d:Array α)(h:i<b):insOuter lt a b i d=insOuter lt a b (i+1) (insInner lt a i d):=by
 rw [insOuter,if_pos h]
theorem wm(hS:SWO lt)(a b):∀(n i:Nat) (d:Array (β×Nat)),b - i=n->a<i->i<=b->b<=d.size->SortedIn (slt lt) a i d->(∀p q,a<=p->p<q->i<=q->q<b->d[p]!.2<d[q]!.2)->insOuter (tlt lt) a b i d=insOuter (slt lt) a b i d
 | 0,i,d,hn,_,hib,_,_,_=>by
  obtain rfl:i=b:=zj;rw [insOuter,if_neg zj,insOuter,if_neg zj]
 | n+1,i,d,hn,hai,hib,hb,hs,ht=>by
  have hlt:i<b:=zj;rw [CU _ _ _ _ _ hlt,CU _ _ _ _ _ hlt,td a i d zj (fun p hp hpi=>ht p i hp hpi zg hlt)];have h1:=insInner_spec (rq hS) swp_permIn permIn_refl permIn_trans a (i+1) i (Nat.lt_succ_self _) i d zj zg zj ⟨fun p q ll kJ hqi _ hq=>hs p q ll kJ zj,fun q h1 h2=>zj⟩;refine wm hS a b n (i+1) _ zj zj zj (by rw [h1.1.1];exact hb) h1.2 ?_;intro p q ll kJ hiq gP;rw [h1.1.2.1 q (.inr zj)];by_cases hp:p<i+1
  ·exact permIn_all d _ a (i+1) (fun x=>x.2<d[q]!.2) zj h1.1 (fun r h1 h2=>ht r q h1 zj zj gP) p ll hp
  rw [h1.1.2.1 p (.inr zj)]
  grind
theorem MC(hS:SWO lt)(d)(a b)(hab:a<=b)(hb:b<=d.size)(ht:∀p q,a<=p->p<q->q<b->d[p]!.2<d[q]!.2):
  PermIn a b d (insertionSort (tlt lt) d a b)/\SortedIn (slt lt) a b (insertionSort (tlt lt) d a b):=by
 have h:=insertionSort_holds (rq hS) d a b hab hb
 have e:insertionSort (tlt lt) d a b=insertionSort (slt lt) d a b:=by
  unfold insertionSort;by_cases h1:a=b
  ·subst h1;rw [insOuter,if_neg zj,insOuter,if_neg zj]
  exact wm hS a b _ (a+1) d rfl zj zj hb (fun i j h1 h2 h3=>zj) (fun p q h1 h2 _ h3=>ht p q h1 h2 h3)
 rw [e];exact h
end
def oY(s m e k:Nat):Nat:=if s<=k/\k<s+(e - m) then k+(m - s) else if s+(e - m)<=k/\k<e then k - (e - m) else k
section
variable {α:Type} [Inhabited α]
structure M9 (d d':Array α) (s m e:Nat):Prop where
 G4:PermIn s e d d'
 p9:∀k,d'[k]! =d[oY s m e k]!
structure aam (d d':Array α) (a b n:Nat):Prop where
 size:d'.size=d.size
 p9:∀k,d'[k]! =d[if a<=k/\k<a+n then k+b - a else if b<=k/\k<b+n then k+a - b else k]!
 G4:∀lo hi,lo<=a->a+n<=hi->lo<=b->b+n<=hi->hi<=d.size->PermIn lo hi d d'
theorem aam.zero(d:Array α)(a b):aam d d a b 0:=
 ⟨rfl,fun k=>zM,fun lo hi _ _ _ _ _=>permIn_refl d lo hi⟩
theorem aam.next{d d':Array α}{a b n}(h:aam d d' a b n)(hab:a+n<b)(hb:b+n<d.size):aam d (swp d' (a+n) (b+n)) a b (n+1):=by
 refine ⟨by rw [swp_size,h.size],fun k=> ?_,fun lo hi h1 h2 h3 h4 h5=> ?_⟩
 ·rw [swp_get d' uv uv];rw [h.p9,h.p9,h.p9]
  grind
 have p1:=h.G4 lo hi h1 zj h3 zj h5;exact permIn_trans _ _ _ lo hi p1 (swp_permIn d' lo hi (a+n) (b+n) zj zj zj zj uv)
theorem M9.left{d d1 d2:Array α}{m i j}(him:i<=m)(aA:j<i)(hsz:m+j<=d.size)(h1:aam d d1 (m - i) m j)(h2:M9 d1 d2 (m - (i - j)) m (m+j)):M9 d d2 (m - i) m (m+j):=by
 refine ⟨?_,fun k=> ?_⟩
 ·have p1:=h1.G4 (m - i) (m+j) zj zj zj zj hsz;exact permIn_trans _ _ _ _ _ p1 (permIn_mono d1 d2 _ _ _ _ zj zg (by rw [h1.size];exact hsz) h2.G4)
 rw [h2.p9,h1.p9];congr 1
 grind [oY]
theorem M9.right{d d1 d2:Array α}{m i j}(him:i<=m)(aA:i<j)(hsz:m+j<=d.size)(h1:aam d d1 (m - i) (m+j - i) i)(h2:M9 d1 d2 (m - i) m (m+(j - i))):M9 d d2 (m - i) m (m+j):=by
 refine ⟨?_,fun k=> ?_⟩
 ·have p1:=h1.G4 (m - i) (m+j) zj zj zj zj hsz;exact permIn_trans _ _ _ _ _ p1 (permIn_mono d1 d2 _ _ _ _ zg zj (by rw [h1.size];exact hsz) h2.G4)
 rw [h2.p9,h1.p9];congr 1;unfold oY
 repeat' split
 all_goals omega
theorem M9.adH{d d1:Array α}{m i}(him:i<=m)(hsz:m+i<=d.size)(h1:aam d d1 (m - i) m i):M9 d d1 (m - i) m (m+i):=by
 refine ⟨h1.G4 (m - i) (m+i) zj zj zj zj hsz,fun k=> ?_⟩;rw [h1.p9];congr 1;unfold oY
 grind
theorem M9.none(d:Array α)(s m e)(hs:s<=m)(he:m<=e)(h:s=m\/m=e):M9 d d s m e:=by
 refine ⟨permIn_refl d s e,fun k=> ?_⟩;congr 1;unfold oY
 grind
theorem M9.up{d d':Array α}{a k}(h:M9 d d' a (a+1) (k+1))(hak:a<=k)(hk:k+1<d.size):M9 d (swp d' k (k+1)) a (a+1) (k+2):=by
 have hs:=h.G4.1;refine ⟨permIn_trans _ _ _ _ _ (permIn_mono d d' _ _ _ _ zg zj zj h.G4) (swp_permIn d' a (k+2) k (k+1) hak zj zj zj zj),fun x=> ?_⟩;rw [swp_get d' zj zj,h.p9,h.p9,h.p9];by_cases x1:x=k+1
 ·subst x1;exact kl0
 rw [if_neg x1];by_cases x2:x=k
 ·subst x2;exact kl0
 rw [if_neg x2];congr 1
 grind [oY]
theorem M9.abY{d d':Array α}{k m}(h:M9 d d' (k+1) m (m+1))(hkm:k+1<=m)(hm:m<d.size):M9 d (swp d' (k+1) k) k m (m+1):=by
 have hs:=h.G4.1;refine ⟨permIn_trans _ _ _ _ _ (permIn_mono d d' _ _ _ _ zj zg zj h.G4) (swp_permIn d' k (m+1) (k+1) k zj zj zj zj zj),fun x=> ?_⟩;rw [swp_get d' zj zj,h.p9,h.p9,h.p9];by_cases x1:x=k
 ·subst x1;exact kl0
 rw [if_neg x1];by_cases x2:x=k+1
 ·subst x2;exact kl0
 rw [if_neg x2];congr 1
 grind [oY]
end
section
variable {β:Type} [Inhabited β] {lt:β→β→Bool}
structure F0 (lt:β->β->Bool) (a m b:Nat) (d:Array (β×Nat)):Prop where
 one:SortedIn (slt lt) a m d
 two:SortedIn (slt lt) m b d
 tag:∀p q,a<=p->p<m->m<=q->q<b->d[p]!.2<d[q]!.2
theorem F0.aa8{a m b}{d}(hS:SWO lt)(h:F0 lt a m b d){i j}(hi:a<=i)(aA:i<=j)(hj:j<m):slt lt d[j]! d[i]! =false:=by
 by_cases e:i=j
 ·subst e;exact (rq hS).irrefl _
 exact h.one i j hi zj hj
theorem F0.abc{a m b}{d}(hS:SWO lt)(h:F0 lt a m b d){i j}(hi:m<=i)(aA:i<=j)(hj:j<b):slt lt d[j]! d[i]! =false:=by
 by_cases e:i=j
 ·subst e;exact (rq hS).irrefl _
 exact h.two i j hi zj hj
theorem F0.cut(hS:SWO lt){a s m e b}{d d'}(h:F0 lt a m b d)(h1:a<=s)(h2:s<=m)(h3:m<=e)(h4:e<=b)
  (bC:a<s->e<b->tlt lt d[e]! d[s - 1]! =false) (iE:s<m->m<e->tlt lt d[e - 1]! d[s]! =true) (hR:M9 d d' s m e):
  F0 lt a s (s+(e - m)) d'/\F0 lt (s+(e - m)) e b d'/\∀p q,a<=p->p<s+(e - m)->s+(e - m)<=q->q<b->slt lt d'[q]! d'[p]! =false:=by
 have W:=rq hS
 have lo:a<s->e<b->slt lt d[e]! d[s - 1]! =false:=fun x y=>by rw [rG (h.tag (s - 1) e zj zj h3 y)];exact bC x y
 have hi:s<m->m<e->slt lt d[s]! d[e - 1]! =false:=fun x y=>Ct hS (by rw [rG (h.tag s (e - 1) h1 x zj zj)];exact iE x y)
 have g:=hR.p9;refine ⟨⟨?_,?_,?_⟩,⟨?_,?_,?_⟩,?_⟩
 ·intro i j hi aA hj;rw [g,g,oY,if_neg zj,if_neg zj,oY,if_neg zj,if_neg zj];exact h.one i j hi aA zj
 ·intro i j hi aA hj;rw [g,g,oY,if_pos zj,oY,if_pos zj];exact kh6
 ·intro p q hp bq hq gP;rw [g,g,oY,if_neg zj,if_neg zj,oY,if_pos zj];exact h.tag _ _ hp zj zj zj
 ·intro i j hi aA hj;rw [g,g,oY,if_neg zj,if_pos zj,oY,if_neg zj,if_pos zj];exact kj4
 ·intro i j hi aA hj;rw [g,g,oY,if_neg zj,if_neg zj,oY,if_neg zj,if_neg zj];exact kh6
 ·intro p q hp bq hq gP;rw [g,g,oY,if_neg zj,if_pos zj,oY,if_neg zj,if_neg zj];exact h.tag _ _ zj zj zj zj
 intro p q hp dE hq gP;rw [g,g];by_cases c1:p<s
 ·rw [show oY s m e p=p by rw [oY,if_neg zj,if_neg zj]];by_cases c2:q<e
  ·rw [show oY s m e q=q - (e - m) by simp_all [oY,if_neg,if_pos]];exact h.one _ _ hp zj zj
  rw [show oY s m e q=q by simp_all [oY,if_neg]];have x1:=h.abc hS (i:=e) (j:=q) zj zj gP;have x2:=lo zj zj;have x3:=h.aa8 hS (i:=p) (j:=s - 1) hp zj zj;exact W.ntrans _ _ _ x1 (W.ntrans _ _ _ x2 x3)
 rw [show oY s m e p=p+(m - s) by rw [oY,if_pos zj]];by_cases c2:q<e
 ·rw [show oY s m e q=q - (e - m) by simp_all [oY,if_neg,if_pos]];have x1:=h.aa8 hS (i:=s) (j:=q - (e - m)) zj zj zj;have x2:=hi zj zj;have x3:=h.abc hS (i:=p+(m - s)) (j:=e - 1) zj zj zj;exact W.ntrans _ _ _ x1 (W.ntrans _ _ _ x2 x3)
 rw [show oY s m e q=q by simp_all [oY,if_neg]];exact h.two _ _ zj zj gP
theorem F0.V{a m b}{d}(h:F0 lt a m b d)(he:a=m\/m=b):SortedIn (slt lt) a b d:=by
 rcases he with rfl | rfl
 ·exact h.two
 exact h.one
theorem pE{a c b}{d d1 d2}(hac:a<=c)(hcb:c<=b)(hb:b<=d.size)(hx:∀p q,a<=p->p<c->c<=q->q<b->slt lt d[q]! d[p]! =false)
  (p1:PermIn a c d d1) (s1:SortedIn (slt lt) a c d1) (p2:PermIn c b d1 d2) (s2:SortedIn (slt lt) c b d2):PermIn a b d d2/\SortedIn (slt lt) a b d2:=by
 refine ⟨permIn_trans _ _ _ _ _ (permIn_mono d d1 _ _ _ _ zg hcb hb p1) (permIn_mono d1 d2 _ _ _ _ hac zg (by rw [p1.1];exact hb) p2),fun i j hi aA hj=> ?_⟩;by_cases h1:j<c
 ·rw [p2.2.1 i (.inl zj),p2.2.1 j (.inl h1)];exact s1 i j hi aA h1
 by_cases h2:c<=i
 ·exact s2 i j h2 aA hj
 rw [p2.2.1 i (.inl zj)]
 have q1:∀q,c<=q->q<b->slt lt d2[q]! d1[i]! =false:=by
  refine permIn_all d1 d2 c b (fun x=>slt lt x d1[i]! =false) (by rw [p1.1];exact hb) p2 ?_;intro q hq gP;rw [p1.2.1 q (.inr hq)];exact permIn_all d d1 a c (fun x=>slt lt d[q]! x=false) zj p1 (fun r hr hrc=>hx r q hr hrc hq gP) i hi zj
 simp_all
theorem F0.first(hS:SWO lt){a i b}{d d'}(h:F0 lt a (a+1) b d)(h1:a+1<=i)(h2:i<=b)
  (bC:a+1<i->tlt lt d[i - 1]! d[a]! =true) (iE:i<b->tlt lt d[i]! d[a]! =false) (hR:M9 d d' a (a+1) i):SortedIn (slt lt) a b d':=by
 have W:=rq hS
 have lo:a+1<i->slt lt d[a]! d[i - 1]! =false:=fun x=>Ct hS (by rw [rG (h.tag a (i - 1) zj zj zj zj)];exact bC x)
 have hi:i<b->slt lt d[i]! d[a]! =false:=fun x=>by rw [rG (h.tag a i zj zj h1 x)];exact iE x
 have g:=hR.p9;intro p q hp kJ hq;rw [g,g];by_cases c1:q<i - 1
 ·rw [oY,if_pos zj,oY,if_pos zj];exact kh6
 by_cases c2:q=i - 1
 ·rw [show oY a (a+1) i q=a by rw [oY,if_neg zj,if_pos zj];omega,oY,if_pos zj];have x1:=lo zj;have x2:=h.abc hS (i:=p+(a+1 - a)) (j:=i - 1) zj zj zj;exact W.ntrans _ _ _ x1 x2
 rw [show oY a (a+1) i q=q by rw [oY,if_neg zj,if_neg zj]];by_cases c3:p<i - 1
 ·rw [oY,if_pos zj];exact kh6
 by_cases c4:p=i - 1
 ·rw [show oY a (a+1) i p=a by rw [oY,if_neg zj,if_pos zj];omega];have x1:=h.abc hS (i:=i) (j:=q) zj zj zj;exact W.ntrans _ _ _ x1 (hi zj)
 rw [show oY a (a+1) i p=p by rw [oY,if_neg zj,if_neg zj]];exact kh6
theorem F0.acq(hS:SWO lt){a i m}{d d'}(h:F0 lt a m (m+1) d)(h1:a<=i)(h2:i<=m)
  (bC:a<i->tlt lt d[m]! d[i - 1]! =false) (iE:i<m->tlt lt d[m]! d[i]! =true) (hR:M9 d d' i m (m+1)):SortedIn (slt lt) a (m+1) d':=by
 have W:=rq hS
 have lo:a<i->slt lt d[m]! d[i - 1]! =false:=fun x=>by rw [rG (h.tag (i - 1) m zj zj zj zj)];exact bC x
 have hi:i<m->slt lt d[i]! d[m]! =false:=fun x=>Ct hS (by rw [rG (h.tag i m h1 x zj zj)];exact iE x)
 have g:=hR.p9;intro p q hp kJ hq;rw [g,g];by_cases c1:q<i
 ·rw [oY,if_neg zj,if_neg zj,oY,if_neg zj,if_neg zj];exact kj4
 by_cases c2:q=i
 ·rw [show oY i m (m+1) q=m by rw [oY,if_pos zj];omega,show oY i m (m+1) p=p by rw [oY,if_neg zj,if_neg zj]];have x2:=h.aa8 hS (i:=p) (j:=i - 1) zj zj zj;exact W.ntrans _ _ _ (lo zj) x2
 rw [show oY i m (m+1) q=q - 1 by rw [oY,if_neg zj,if_pos zj];omega];by_cases c3:p<i
 ·rw [show oY i m (m+1) p=p by rw [oY,if_neg zj,if_neg zj]];exact kj4
 by_cases c4:p=i
 ·rw [show oY i m (m+1) p=m by rw [oY,if_pos zj];omega];have x1:=h.aa8 hS (i:=i) (j:=q - 1) zj zj zj;exact W.ntrans _ _ _ x1 (hi zj)
 rw [show oY i m (m+1) p=p - 1 by rw [oY,if_neg zj,if_pos zj];omega];exact kj4
end
section
variable {β:Type} [Inhabited β] {lt:β→β→Bool}
def zcH(B i j:Nat):Prop:=∀c,c*B<=j->c*B<=i
structure L4 (lt:β->β->Bool) (B a n:Nat) (d:Array (β×Nat)):Prop where
 tag:∀p,p<n->∀c,c*B<=p↔c*B<=d[p]!.2
 done:∀i j,i<j->j<a->zcH B i j->slt lt d[j]! d[i]! =false
structure Y4 (lt:β->β->Bool) (B a n:Nat) (d:Array (β×Nat)):Prop where
 tag:∀p,p<n->∀c,c*(2*B)<=p↔c*(2*B)<=d[p]!.2
 acM:∀p,a<=p->p<n->∀c,c*B<=p↔c*B<=d[p]!.2
 done:∀i j,i<j->j<a->zcH (2*B) i j->slt lt d[j]! d[i]! =false
 rest:∀i j,a<=i->i<j->j<n->zcH B i j->slt lt d[j]! d[i]! =false
theorem L4.adK{B n}{d}(h:L4 lt B n n d):Y4 lt B 0 n d:=by
 refine ⟨fun p hp c=> ?_,fun p _ hp c=>h.tag p hp c,fun i j _ hj=>zj,fun i j _ aA hj hs=>h.done i j aA hj hs⟩
 have e:c*(2*B)=(c*2)*B:=by rw [Nat.mul_assoc]
 rw [e];exact h.tag p hp _
theorem Y4.adl{B a n m b c}{d}(h:Y4 lt B a n d)(ha:a=c*(2*B))(hm:m=a+B)(iq:m<=b)(hb:b<=a+2*B)(ji:b<=n):F0 lt a m b d:=by
 have e1:(2*c)*B=a:=by rw [ha,Nat.mul_comm 2 c,Nat.mul_assoc]
 have e2:(2*c+1)*B=m:=by rw [YC,e1,hm];omega
 have e3:(2*c+2)*B=a+2*B:=by rw [YC,e1]
 have up:∀x y,x<=y->x*B<=y*B:=fun x y hxy=>ZG B hxy
 refine ⟨fun i j hi aA hj=>h.rest i j hi aA zj (fun x hx=> ?_),fun i j hi aA hj=>h.rest i j zj aA zj (fun x hx=> ?_),fun p q hp dE hq gP=> ?_⟩
 ·by_cases gu:x<=2*c
  ·have:=up _ _ gu;omega
  grind
 ·by_cases gu:x<=2*c+1
  ·have:=up _ _ gu;omega
  grind
 have h1:¬(2*c+1)*B<=d[p]!.2:=fun hx=>by have:=(h.acM p hp zj (2*c+1)).2 hx;omega
 have h2:=(h.acM q zj zj (2*c+1)).1 zj;omega
theorem Y4.K6{B a n b c}{d d'}(h:Y4 lt B a n d)(hn:n=d.size)(ha:a=c*(2*B))(hab:a<=b)(ji:b<=n)(hb:b=a+2*B\/b=n/\n<=a+2*B)(hp:PermIn a b d d')(hs:SortedIn (slt lt) a b d'):Y4 lt B b n d':=by
 have e3:(c+1)*(2*B)=a+2*B:=by rw [YC,ha];omega
 have up:∀x y,x<=y->x*(2*B)<=y*(2*B):=fun x y hxy=>ZG _ hxy
 refine ⟨fun p gx x=> ?_,fun p hbp gx x=> ?_,fun i j aA hj fh=> ?_,fun i j hi aA hj fh=> ?_⟩
 ·by_cases h1:a<=p/\p<b
  ·have Y9:∀q,a<=q->q<b->(x*(2*B)<=d'[q]!.2↔x<=c):=by
    refine permIn_all d d' a b (fun y=>x*(2*B)<=y.2↔x<=c) zj hp ?_;intro q hq gP;rw [<-h.tag q zj x];constructor
    ·intro hx
     rcases Yc c x with hc | hc
     ·have:=up (c+1) x hc;omega
     exact hc
    intro hx;have:=up _ _ hx;omega
   rw [Y9 p h1.1 h1.2]
   grind
  rw [hp.2.1 p zj];exact h.tag p gx x
 ·rw [hp.2.1 p (.inr hbp)];exact h.acM p zj gx x
 ·by_cases h1:j<a
  ·exact kn8
  have:=fh c zj;exact hs i j zj aA hj
 rw [hp.2.1 i (.inr zj),hp.2.1 j (.inr zj)];exact h.rest i j zj aA hj fh
theorem Y4.adI{B a n c}{d}(h:Y4 lt B a n d)(ha:a=c*(2*B))(hB:n<=a+B):L4 lt (2*B) n n d:=by
 refine ⟨h.tag,fun i j aA hj fh=> ?_⟩;by_cases h1:j<a
 ·exact h.done i j aA h1 fh
 have:=fh c zj;refine h.rest i j zj aA hj (fun x hx=> ?_)
 have e1:(2*c)*B=a:=by rw [ha,Nat.mul_comm 2 c,Nat.mul_assoc]
 have e2:(2*c+1)*B=a+B:=by rw [YC,e1];omega
 by_cases gu:x<=2*c
 ·have:=ZG B gu;omega
 have:(2*c+1)*B<=x*B:=ZG B zj;omega
theorem Y4.acZ{B n}{d}(h:Y4 lt B n n d):L4 lt (2*B) n n d:=⟨h.tag,h.done⟩
theorem L4.K6{B a b n c}{d d'}(h:L4 lt B a n d)(hn:n=d.size)(ha:a=c*B)(ji:b<=n)(hb:b=a+B\/b=n/\n<=a+B)(hp:PermIn a b d d')(hs:SortedIn (slt lt) a b d'):L4 lt B b n d':=by
 have e3:(c+1)*B=a+B:=by rw [YC,ha];omega
 have up:∀x y,x<=y->x*B<=y*B:=fun x y hxy=>ZG _ hxy
 refine ⟨fun p gx x=> ?_,fun i j aA hj fh=> ?_⟩
 ·by_cases h1:a<=p/\p<b
  ·have Y9:∀q,a<=q->q<b->(x*B<=d'[q]!.2↔x<=c):=by
    refine permIn_all d d' a b (fun y=>x*B<=y.2↔x<=c) zj hp ?_;intro q hq gP;rw [<-h.tag q zj x];constructor
    ·intro hx
     rcases Yc c x with hc | hc
     ·have:=up (c+1) x hc;omega
     exact hc
    intro hx;have:=up _ _ hx;omega
   rw [Y9 p h1.1 h1.2]
   grind
  rw [hp.2.1 p zj];exact h.tag p gx x
 by_cases h1:j<a
 ·exact kn8
 have:=fh c zj;exact hs i j zj aA hj
theorem L4.all{B n}{d}(h:L4 lt B n n d)(hn:n<=B):SortedIn (slt lt) 0 n d:=fun i j _ aA hj=>h.done i j aA hj fun c hc=>by
 cases c with
 | zero=>simp
 | succ c=>
  grind
end
section
variable {β:Type} {lt:β→β→Bool}
theorem IU{β}[Inhabited β]{lt}(d:Array (β×Nat))(h:SortedIn (slt lt) 0 d.size d):d.toList.Pairwise (fun u v=>slt lt v u=false):=by
 rw [ZN];intro i j hi hj aA;have:=h i j (uW _) aA yG
 grind
end
end
section
open RowKit
def eqB(t b n:Int)(k:Nat)(l8 other:Int)(name value:qY)(t' b' n':Int)(k':Nat)(node' other':Int)(name' value':qY):Bool:=decide (t=t'/\b=b'/\n=n'/\k=k'/\l8=node'/\other=other'/\name=name'/\value=value')
theorem zdp(t b n)(k:Nat)(l8 other)(name value)(t' b' n')(k':Nat)(node' other')(name' value')(w):(Op.equalIn 10000 88 (.agg (qOa t b n k l8 other name value)) (.agg (qOa t' b' n' k' node' other' name' value'))).run prog w= .ok (eqB t b n k l8 other name value t' b' n' k' node' other' name' value') w:=by
 have hs:∀x y:ByteArray,x.toList=y.toList↔x=y:=fun x y=>⟨fun h=>by rw [Zu,Zu] at h;exact WideShapes.bytes_inj h,fun h=>by rw [h]⟩
 unfold eqB;go_simp
 grind [Int.natCast_inj]
theorem Jb(t b n)(k)(l8 other)(name value):eqB t b n k l8 other name value t b n k l8 other name value=true:=by simp [eqB]
end
section
open Shelf
set_option maxRecDepth 100000
def GK:Ren:=⟨fun | 6=>191 | 14=>249 | 15=>245 | 20=>311 | 21=>312 | 22=>313 | 23=>314 | 24=>315 | 25=>316 | 26=>317 | 27=>318 | 28=>302 | 29=>235 | 46=>353 | 47=>346 | 48=>347 | 49=>354 | 50=>355 | 57=>375 | n=>n,fun | 0=>0 | 3=>3 | 4=>4 | 5=>5 | 9=>9 | 22=>209 | 24=>212 | 25=>269 | 39=>325 | 45=>367 | 46=>368 | 50=>165 | 53=>323 | 55=>259 | 66=>407 | 70=>411 | 76=>428 | 77=>50 | n=>n,fun n=>n⟩
theorem EW:SlLaysF0.n6 prog GK:=⟨zk,⟨f191.name,zk,func191.trans qk⟩,⟨f249.name,zk,func249.trans qk⟩,func245.trans qk,⟨f311.name,zk,func311.trans qk⟩,⟨f312.name,zk,func312.trans qk⟩,⟨f313.name,zk,func313.trans qk⟩,⟨f314.name,zk,func314.trans qk⟩,⟨f315.name,zk,func315.trans qk⟩,⟨f316.name,zk,func316.trans qk⟩,⟨f317.name,zk,func317.trans qk⟩,⟨f318.name,zk,func318.trans qk⟩,func302.trans qk,func235.trans qk,⟨f353.name,zk,func353.trans qk⟩,func346.trans qk,func347.trans qk,⟨f354.name,zk,func354.trans qk⟩,⟨f355.name,zk,func355.trans qk⟩,⟨f375.name,zk,func375.trans qk⟩,zk,isAgg0,sizeOf0,zeroValue0,zk,isAgg3,sizeOf3,zeroValue3,zk,isAgg4,sizeOf4,zeroValue4,zk,isAgg5,sizeOf5,zeroValue5,zk,isAgg9,sizeOf9,zeroValue9,zk,isAgg209,sizeOf209,zeroValue209,zk,isAgg269,sizeOf269,zeroValue269,zk,isAgg325,sizeOf325,zeroValue325,zk,isAgg367,sizeOf367,zeroValue367,zk,isAgg368,sizeOf368,zeroValue368,zk,isAgg165,sizeOf165,zeroValue165,zk,isAgg323,sizeOf323,zeroValue323,zk,isAgg259,sizeOf259,zeroValue259,zk,isAgg407,sizeOf407,zeroValue407,zk,isAgg411,sizeOf411,zeroValue411,zk,isAgg428,sizeOf428,zeroValue428,zk,isAgg50,sizeOf50,zeroValue50⟩
end
section
open Shelf
set_option maxRecDepth 100000
def Ee:Ren:=⟨fun | 6=>184 | 14=>246 | 15=>245 | 20=>303 | 21=>304 | 22=>305 | 23=>306 | 24=>307 | 25=>308 | 26=>309 | 27=>310 | 28=>302 | 29=>235 | 46=>350 | 47=>346 | 48=>347 | 49=>351 | 50=>352 | 57=>374 | n=>n,fun | 0=>0 | 3=>3 | 4=>4 | 5=>5 | 9=>9 | 22=>218 | 24=>221 | 25=>279 | 39=>325 | 45=>367 | 46=>368 | 50=>165 | 53=>323 | 55=>259 | 66=>407 | 70=>411 | 76=>428 | 77=>50 | n=>n,fun n=>n⟩
theorem GI:SlLaysF0.n6 prog Ee:=⟨zk,⟨f184.name,zk,func184.trans qk⟩,⟨f246.name,zk,func246.trans qk⟩,func245.trans qk,⟨f303.name,zk,func303.trans qk⟩,⟨f304.name,zk,func304.trans qk⟩,⟨f305.name,zk,func305.trans qk⟩,⟨f306.name,zk,func306.trans qk⟩,⟨f307.name,zk,func307.trans qk⟩,⟨f308.name,zk,func308.trans qk⟩,⟨f309.name,zk,func309.trans qk⟩,⟨f310.name,zk,func310.trans qk⟩,func302.trans qk,func235.trans qk,⟨f350.name,zk,func350.trans qk⟩,func346.trans qk,func347.trans qk,⟨f351.name,zk,func351.trans qk⟩,⟨f352.name,zk,func352.trans qk⟩,⟨f374.name,zk,func374.trans qk⟩,zk,isAgg0,sizeOf0,zeroValue0,zk,isAgg3,sizeOf3,zeroValue3,zk,isAgg4,sizeOf4,zeroValue4,zk,isAgg5,sizeOf5,zeroValue5,zk,isAgg9,sizeOf9,zeroValue9,zk,isAgg218,sizeOf218,zeroValue218,zk,isAgg279,sizeOf279,zeroValue279,zk,isAgg325,sizeOf325,zeroValue325,zk,isAgg367,sizeOf367,zeroValue367,zk,isAgg368,sizeOf368,zeroValue368,zk,isAgg165,sizeOf165,zeroValue165,zk,isAgg323,sizeOf323,zeroValue323,zk,isAgg259,sizeOf259,zeroValue259,zk,isAgg407,sizeOf407,zeroValue407,zk,isAgg411,sizeOf411,zeroValue411,zk,isAgg428,sizeOf428,zeroValue428,zk,isAgg50,sizeOf50,zeroValue50⟩
end
section
open Shelf
set_option maxRecDepth 100000
def Fl:Ren:=⟨fun | 6=>269 | 14=>328 | 15=>245 | 20=>329 | 21=>359 | 22=>360 | 23=>361 | 24=>362 | 25=>363 | 26=>364 | 27=>365 | 28=>302 | 29=>235 | 46=>376 | 47=>346 | 48=>347 | 49=>377 | 50=>378 | 57=>383 | n=>n,fun | 0=>0 | 3=>3 | 4=>4 | 5=>5 | 9=>9 | 22=>136 | 24=>88 | 25=>307 | 39=>325 | 45=>367 | 46=>368 | 50=>165 | 53=>323 | 55=>259 | 66=>407 | 70=>411 | 76=>428 | 77=>50 | n=>n,fun n=>n⟩
theorem KY:SlLaysF0.n6 prog Fl:=⟨zk,⟨f269.name,zk,func269.trans qk⟩,⟨f328.name,zk,func328.trans qk⟩,func245.trans qk,⟨f329.name,zk,func329.trans qk⟩,⟨f359.name,zk,func359.trans qk⟩,⟨f360.name,zk,func360.trans qk⟩,⟨f361.name,zk,func361.trans qk⟩,⟨f362.name,zk,func362.trans qk⟩,⟨f363.name,zk,func363.trans qk⟩,⟨f364.name,zk,func364.trans qk⟩,⟨f365.name,zk,func365.trans qk⟩,func302.trans qk,func235.trans qk,⟨f376.name,zk,func376.trans qk⟩,func346.trans qk,func347.trans qk,⟨f377.name,zk,func377.trans qk⟩,⟨f378.name,zk,func378.trans qk⟩,⟨f383.name,zk,func383.trans qk⟩,zk,isAgg0,sizeOf0,zeroValue0,zk,isAgg3,sizeOf3,zeroValue3,zk,isAgg4,sizeOf4,zeroValue4,zk,isAgg5,sizeOf5,zeroValue5,zk,isAgg9,sizeOf9,zeroValue9,zk,isAgg136,sizeOf136,zeroValue136,zk,isAgg307,sizeOf307,zeroValue307,zk,isAgg325,sizeOf325,zeroValue325,zk,isAgg367,sizeOf367,zeroValue367,zk,isAgg368,sizeOf368,zeroValue368,zk,isAgg165,sizeOf165,zeroValue165,zk,isAgg323,sizeOf323,zeroValue323,zk,isAgg259,sizeOf259,zeroValue259,zk,isAgg407,sizeOf407,zeroValue407,zk,isAgg411,sizeOf411,zeroValue411,zk,isAgg428,sizeOf428,zeroValue428,zk,isAgg50,sizeOf50,zeroValue50⟩
end
section
open RowKit
theorem BO(n)(h0: -9223372036854775808<=n)(h1:n<=9223372036854775807)(w)(aF:Lib.TabIs prog w "internal/strconv.uint64pow10" .u64 Lib.pow10Tab):
  Calls prog 54 #[.int .i64 n] w fun e w'=>e= .returned (.string ⟨(Lib.itoa n).toArray⟩)/\Below w.heap.size w w':=by
 refine (Tryz.strconv_Itoa n h0 h1 w aF).mono ?_
 simp_all [Lib.below_grow,uL]
theorem Ni(s)(c:Nat)(h:c<=s.size):∃F:ByteArray,F.data.toList=s.data.toList.drop c/\∀w,(Instr.slice 9 (.string s) (some (qN c)) none none).run prog w= .ok (.string F) w:=by
 refine ⟨s.extract c s.size,by simp;rw [Zk zr],fun w=> ?_⟩;have h1:(c:Int)<=(s.size:Int):=zj;have h0:(0:Int)<=(c:Int):=zj;go_simp
theorem El(x y)(h:x.size+y.size<=9223372036854775807):∃F:ByteArray,F.data.toList=x.data.toList++y.data.toList/\F.size=x.size+y.size/\∀w,(Op.stringOp .add x y).run prog w= .ok (.string F) w:=by
 simp_all [run_string_add_sum]
theorem Od{x y:qY}(h:x.data.toList=y.data.toList):x=y:=by
 cases x;simp_all
theorem Pf(s:qY)(k:Nat)(h:k<s.size):s.data.toList.take k++ [s[k]]=s.data.toList.take (k+1):=by
 have hl:k<s.data.toList.length:=xl;rw [List.take_succ_eq_append_getElem hl];congr 1
end
section
open Maps
abbrev Cmd:=ByteArray×Option (Nat×List Nat)
def ptB(b:Nat):Value:=qP b
def tW(c:Cmd):Value:=match c.2 with
 | none=>.agg #[.string c.1,.nilFunc]
 | some q=>.agg #[.string c.1,.func (.func q.1) #[] (q.2.map ptB).toArray]
def zbF(b:Nat):DataW Unit:=.lit (.int .i64 (b:Int))
theorem TH{a b}(h:zbF a=zbF b):a=b:=by simp [zbF] at h;omega
def Kn(c:Cmd):DataW Unit:=.agg (.lit (.string c.1.data.toList)::match c.2 with
 | none=>[]
 | some q=>zbF q.1::q.2.map zbF)
theorem Et{p q}(h:Kn p=Kn q):p=q:=by
 obtain ⟨⟨⟨s⟩⟩,o⟩:=p;obtain ⟨⟨⟨t⟩⟩,u⟩:=q
 grind [Kn,TH,List.map_inj_right]
def MH:List Value->Option (List Nat)
 | []=>some []
 | .pointer (some ⟨b,0,none⟩)::l=>(MH l).map (b:: ·)
 | _=>none
def zcW(l:List Value):Option Cmd:=match l with
 | [.string s,.nilFunc]=>some (s,none)
 | [.string s,.func (.func f) ⟨[]⟩ cs]=>(MH cs.toList).map (fun bs=>(s,some (f,bs)))
 | _=>none
def PR(v:Value):Option (DataW Unit×List MemPlace):=match v with
 | .agg cs=>(zcW cs.toList).map (fun c=>(Kn c,[]))
 | _=>none
theorem Jh:∀bs:List Nat,MH (bs.map ptB)=some bs
 | []=>rfl
 | b::bs=>by simp [MH,ptB,Jh bs]
theorem Pc:∀ {l:List Value} {bs:List Nat},MH l=some bs->l=bs.map ptB:=by
 intro l
 induction l with
 | nil=>intro bs h;cases h;rfl
 | cons v l ih=>
  intro bs h;unfold MH at h;split at h
  ·rename_i e;cases e
  ·rename_i b l' e
   cases e
   obtain ⟨m,hm,rfl⟩:=ZT.1 h;rw [ih hm];rfl
  cases h
theorem Ey(c):PR (tW c)=some (Kn c,[]):=by
 grind [tW,PR,zcW,Jh]
theorem Eg{v}{z}(h:PR v=some z):∃c,v=tW c/\z=(Kn c,[]):=by
 unfold PR at h;split at h
 ·rename_i cs;obtain ⟨c,hc,rfl⟩:=ZT.1 h;refine ⟨c,?_,rfl⟩;unfold zcW at hc;split at hc
  ·rename_i s e
   cases hc
   simp only [tW];rw [<-e]
  ·rename_i s f cs' e;obtain ⟨bs,hb,rfl⟩:=ZT.1 hc;simp only [tW];rw [<-Pc hb,Array.toArray_toList];congr 1;rw [<-YW,e]
  cases hc
 cases h
theorem TV{c d}(h:tW c=tW d):c=d:=by
 have h1:=Ey c;rw [h,Ey d] at h1;exact Et (congrArg Prod.fst (Option.some.inj h1)).symm
abbrev Vk:=qU->Option Cmd
def noM:Vk:=fun _=>none
def Mj(s:qU):Prop:=s.length<=maxLen
def M5(D:DataW Unit)(f:Vk):Prop:=∀s,Mj s->match f s with
 | none=>has D (.string s)=false
 | some c=>∀z,D.atKey (.string s) z=Kn c
theorem M5.X9{D}{f}(h:M5 D f){k}(hk:Mj k)(hf:f k=none):has D (.string k)=false:=by
 exact kj8
theorem M5.held{D}{f}(h:M5 D f){k}(hk:Mj k){c}(hf:f k=some c)(z):D.atKey (.string k) z=Kn c:=by
 exact kj8
theorem M5.has{D}{f}(h:M5 D f){k}(hk:Mj k):Maps.has D (.string k)=(f k).isSome:=by
 cases hf:f k with
 | none=>rw [h.X9 hk hf];rfl
 | some c=>rw [has_true_of_atKey (h.held hk hf)];rfl
def LU:Cmd:=(⟨#[]⟩,none)
theorem M5.at{D}{f}(h:M5 D f){k}(hk:Mj k):D.atKey (.string k) (Kn LU)=Kn ((f k).getD LU):=by
 cases hf:f k with
 | none=>rw [atKey_of_not_has (h.X9 hk hf)];rfl
 | some c=>rw [h.held hk hf];rfl
theorem Np{a b}(h:a≠b):(Lit.string a)≠ .string b:=fun e=>h ve
theorem Ku{D}{f}(h:M5 D f)(hD:IsMap D)(k)(c):M5 (D.put (.string k) (Kn c)) (fun x=>if x=k then some c else f x):=by
 intro x hx;dsimp only;by_cases e:x=k
 ·subst e;rw [if_pos rfl]
  exact fun z=>atKey_put_same hD (show WideAt.IsKeyLit (.string x) from trivial) _ _
 rw [if_neg e]
 cases hf:f x with
 | none=>rw [has_put_other (Np e)];exact h.X9 hx hf
 | some q=>intro z;rw [atKey_put_other (Np e)];exact h.held hx hf z
def WE(f:Vk):Prop:=∀k c,f k=some c->Mj k
structure F2 (w:qW) (b n:Nat) (f:Vk):Prop where
 reads:∃D,w.ownsMap prog 9 PR b n D/\M5 D f
 aaa:WE f
theorem F2.lt{w}{b n}{f}(h:F2 w b n f):b<w.heap.size:=by
 obtain ⟨D,h,_⟩:=h.reads;exact h.lt
theorem F2.same{w w'}{b n}{f}(h:F2 w b n f)(e:w'.heap[b]? =w.heap[b]?):F2 w' b n f:=by
 exact kh3
theorem F2.mono{w}{b n n'}{f}(h:F2 w b n f)(hn:n<=n'):F2 w b n' f:=by
 obtain ⟨⟨D,h,r⟩,g⟩:=h;exact ⟨⟨D,h.mono hn,r⟩,g⟩
theorem JJ(w:qW):F2 (w.alloc (.map #[] 0)) w.heap.size 0 noM:=
 ⟨⟨_,YT w prog 9 PR,fun _ _=>rfl⟩,fun k p h=>qa⟩
theorem zcq:Keyed prog 9:=string_keyed underlying9
theorem Ot(s)(h:s.size<=maxLen):keyOf prog 9 (.string s)=some (.string s.data.toList):=by
 unfold keyOf mapKey
 simp_all
theorem Jj{v}{l}(h:keyOf prog 9 v=some l):∃s:ByteArray,v= .string s/\l= .string s.data.toList/\s.size<=maxLen:=by
 unfold keyOf mapKey at h
 grind [underlying9]
theorem Xh(w):(zeroValue 63).run prog w= .ok (tW LU) w:=zeroValue63 w
theorem F2.F{w}{b n}{f}(h:F2 w b n f)(s)(hs:s.size<=maxLen):
  (Instr.lookup 47 (.map (some b)) (.string s) true).run prog w= .ok (.tuple #[tW ((f s.data.toList).getD LU),.bool (f s.data.toList).isSome]) w:=by
 obtain ⟨⟨D,h,r⟩,_⟩:=h
 have hk:Mj s.data.toList:=by unfold Mj;simpa using hs
 obtain ⟨v,ps,ae,hv⟩:=h.look_ok zcq underlying47 (Xh w) (Ey LU) (Ot s hs);obtain ⟨p,rfl,hp⟩:=Eg hv;rw [r.at hk,Prod.mk.injEq] at hp;rw [ae,r.has hk,<-Et hp.1]
theorem F2.store{w}{b n}{f}(h:F2 w b n f)(hn:n<1000)(s)(hs:s.size<=maxLen)(c):
  ∃w',(Instr.mapUpdate 47 (.map (some b)) (.string s) (tW c)).run prog w= .ok () w'/\F2 w' b (n+1) (fun x=>if x=s.data.toList then some c else f x)/\w.mapTurned w' b:=by
 obtain ⟨⟨D,h,r⟩,g⟩:=h;obtain ⟨w',ae,h',ht⟩:=h.store zcq underlying47 yt (Ot s hs) (Ey c);refine ⟨w',ae,⟨⟨_,h',Ku r h.isMap _ c⟩,fun x q hx=> ?_⟩,ht⟩;split at hx
 ·simp_all [Mj]
 exact g x q hx
end
section
open RowKit
def clV(f:Nat)(bs:List Nat):Value:=.func (.func f) #[] (bs.map ptB).toArray
abbrev p8(w:qW)(b:Nat)(t:TypeId)(cs:List Value):Prop:=w.heap[b]? =some (.cells cs.toArray t (0,0))
theorem p8.later{w w'}{B b}{t}{cs}(h:p8 w b t cs)(hb:Below B w w')(hB:b<B):p8 w' b t cs:=(hb.block b hB).trans h
theorem p8.lt{w}{b}{t}{cs}(h:p8 w b t cs):b<w.heap.size:=(uK.1 h).1
theorem p8.cell{w}{b}{t}{cs}(h:p8 w b t cs)(i):w.cell? (qA b i)=cs[i]? :=by simp [World.cell?,h]
theorem mq(w:qW)(cs)(t):p8 (w.alloc (.cells cs.toArray t)) w.heap.size t cs:=heap_alloc_new w _
theorem sX{w}{b}{t}{cs}(h:p8 w b t cs)(o):p8 (w.alloc o) b t cs:=h.later ((uM _ w).alloc zg o) h.lt
theorem VF(w)(cs)(t)(o):p8 ((w.alloc (.cells cs.toArray t)).alloc o) w.heap.size t cs/\qL w ((w.alloc (.cells cs.toArray t)).alloc o):=
 ⟨sX (mq w cs t) _,(zh w _).alloc zr _⟩
theorem VR(w)(cs ds)(t u)(o):p8 (((w.alloc (.cells cs.toArray t)).alloc (.cells ds.toArray u)).alloc o) w.heap.size t cs/\p8 (((w.alloc (.cells cs.toArray t)).alloc (.cells ds.toArray u)).alloc o) (w.heap.size+1) u ds/\qL w (((w.alloc (.cells cs.toArray t)).alloc (.cells ds.toArray u)).alloc o):=by
 refine ⟨sX (sX (mq w cs t) _) _,?_,((zh w _).alloc zr _).alloc zm _⟩;have:=sX (mq (w.alloc (.cells cs.toArray t)) ds u) o;exact ko5
theorem rV(w)(p g)(form):
  qC 30 #[ptB p,.string form,clV g []] w fun e w'=>e= .returned (tW (form,some (80,[w.heap.size,w.heap.size+1])))/\p8 w' w.heap.size 44 [ptB p]/\p8 w' (w.heap.size+1) 89 [clV g []]/\qL w w':=by
 unfold ptB clV;go_enter func30,ntmps30;go_wp2;exact bodyPost_ret (v:=tW (form,some (80,[w.heap.size,w.heap.size+1]))) (by simp [results,results30,go_sem,tW,ptB]) rfl ⟨rfl,VR w [ptB p] [clV g []] _ _ _⟩
theorem th(w)(p g)(form):
  qC 56 #[ptB p,.string form,clV g []] w fun e w'=>e= .returned (tW (form,some (98,[w.heap.size,w.heap.size+1])))/\p8 w' w.heap.size 44 [ptB p]/\p8 w' (w.heap.size+1) 99 [clV g []]/\qL w w':=by
 unfold ptB clV;go_enter func56,ntmps56;go_wp2;exact bodyPost_ret (v:=tW (form,some (98,[w.heap.size,w.heap.size+1]))) (by simp [results,results56,go_sem,tW,ptB]) rfl ⟨rfl,VR w [ptB p] [clV g []] _ _ _⟩
theorem oL(w)(g s)(form):
  qC 37 #[.string form,clV g [s]] w fun e w'=>e= .returned (tW (form,some (84,[w.heap.size])))/\p8 w' w.heap.size 93 [clV g [s]]/\qL w w':=by
 unfold clV;go_enter func37,ntmps37;go_wp2;exact bodyPost_ret (v:=tW (form,some (84,[w.heap.size]))) (by simp [results,results37,go_sem,tW,ptB]) rfl ⟨rfl,VF w [clV g [s]] _ _⟩
theorem EF(w)(f)(bs)(form):
  qC 32 #[tW (form,some (f,bs))] w fun e w'=>e= .returned (tW (form,some (83,[w.heap.size])))/\p8 w' w.heap.size 63 [.string form,clV f bs]/\qL w w':=by
 unfold tW;go_enter func32,ntmps32;go_wp2;exact bodyPost_ret (v:=tW (form,some (83,[w.heap.size]))) (by simp [results,results32,go_sem,tW,ptB]) rfl ⟨rfl,VF w [.string form,clV f bs] _ _⟩
def zcz:Nat->qU
 | 1=>[116,101,120,116]
 | 2=>[98,111,117,110,100]
 | 3=>[115,104,97,112,101]
 | 4=>[110,97,109,101]
 | 5=>[107,105,110,100]
 | 6=>[110,111,110,101]
 | 7=>[101,120,105,115,116]
 | 8=>[102,117,108,108]
 | 9=>[103,97,112]
 | 10=>[99,121,99,108,101]
 | 11=>[111,102,102]
 | _=>[115,117,109]
def oh(cd:Nat):qU:=[99,111,110,99,111,114,100,97,116,58,32]++zcz cd
theorem NF(w)(a)(s)(h:w.cell? a=some (.string s)):
  qC 419 #[.pointer (some a)] w fun e w'=>e= .returned (.string s)/\w'=w:=by
 obtain ⟨b,o,c⟩:=a;go_enter func419,ntmps419;exact ka7
theorem NN(w)(b)(E5)(Q:ByteArray->World->Prop)
  (h:qC 24 #[.map (some b),.string E5] w fun e w'=>(∃told,e=qT #[.string told,.nilIface]/\Aside (Q told w'))\/∃a s,e= .returned (.tuple #[.string ⟨#[]⟩,.iface 437 (.pointer (some a))])/\w'.cell? a=some (.string s)/\Aside (Q s w')):
  qC 15 #[.map (some b),.string E5] w fun e w'=>∃s,e= .returned (.string s)/\Aside (Q s w'):=by
 go_enter func15,ntmps15;go_wp2_with fail;refine h.mono ?_;rintro e w1 (⟨told,rfl,HQ⟩ | ⟨a,s,rfl,hs,HQ⟩)
 ·go_wp2;go_ret;exact ⟨_,rfl,HQ.o⟩
 have he:=NF w1 a s hs;go_wp2_with fail;refine he.mono ?_;rintro e w2 ⟨rfl,rfl⟩;go_wp2;go_ret;exact ⟨_,rfl,HQ.o⟩
end
section
open RowKit Maps
abbrev Spec:=Nat×ByteArray×Nat
def KG(lo:Nat)(w:qW)(b:Nat)(t:TypeId)(cs:List Value):Prop:=lo<=b/\p8 w b t cs
def Q5(lo:Nat)(w:qW)(p:Nat)(x:Spec)(c:Cmd):Prop:=match x.1 with
 | 0=>∃a b,c=(x.2.1,some (80,[a,b]))/\KG lo w a 44 [ptB p]/\KG lo w b 89 [clV x.2.2 []]
 | 1=>∃s a b,c=(x.2.1,some (83,[s]))/\KG lo w s 63 [.string x.2.1,clV 80 [a,b]]/\KG lo w a 44 [ptB p]/\KG lo w b 89 [clV x.2.2 []]
 | 2=>∃s q,c=(x.2.1,some (84,[q]))/\KG lo w q 93 [clV x.2.2 [s]]/\KG lo w s 44 [ptB p]
 | 3=>∃s,c=(x.2.1,some (x.2.2,[s]))/\KG lo w s 44 [ptB p]
 | _=>∃a b,c=(x.2.1,some (98,[a,b]))/\KG lo w a 44 [ptB p]/\KG lo w b 99 [clV x.2.2 []]
theorem Q5.same{lo}{w w'}{p}{x}{c}(h:Q5 lo w p x c)(hk:∀b t cs,lo<=b->p8 w b t cs->p8 w' b t cs):Q5 lo w' p x c:=by
 have hl:∀ {b t cs},KG lo w b t cs->KG lo w' b t cs:=fun q=>⟨q.1,hk _ _ _ q.1 q.2⟩
 obtain ⟨k,f,g⟩:=x
 unfold Q5 at h |-
 match k with
 | 0=>grind
 | 1=>grind
 | 2=>grind
 | 3=>grind
 | n+4=>grind
abbrev Tbl:=List (qU×Spec)
structure J3 (lo:Nat) (w:qW) (p b n:Nat) (l:Tbl):Prop where
 map:∃f,F2 w b n f/\∀s,match l.lookup s with
  | none=>f s=none
  | some x=>∃c,f s=some c/\Q5 lo w p x c
theorem J3.lt{lo}{w}{p b n}{l}(h:J3 lo w p b n l):b<w.heap.size:=by obtain ⟨f,h,_⟩:=h.map;exact h.lt
theorem J3.F9{lo}{w w'}{p b n}{l}(h:J3 lo w p b n l)(e:w'.heap[b]? =w.heap[b]?)(hk:∀b t cs,lo<=b->p8 w b t cs->p8 w' b t cs):J3 lo w' p b n l:=by
 obtain ⟨f,hm,hs⟩:=h.map;refine ⟨f,hm.same e,fun s=> ?_⟩;have:=hs s;split<;>rename_i q<;>rw [q] at this
 ·exact this
 obtain ⟨c,h1,h2⟩:=this;exact ⟨c,h1,h2.same hk⟩
theorem J3.later{lo}{w w'}{p b n}{l}(h:J3 lo w p b n l)(hb:qL w w'):J3 lo w' p b n l:=h.F9 (hb.block _ h.lt) (fun _ _ _ _ q=>q.later hb q.lt)
theorem AJ{lo}(w:qW)(p):J3 lo (w.alloc (.map #[] 0)) p w.heap.size 0 []:=⟨noM,JJ w,fun _=>rfl⟩
theorem Kq{w w'}{b m}{t}{cs}(h:p8 w b t cs)(ht:w.mapTurned w' m)(hm:∃f n,F2 w m n f):p8 w' b t cs:=by
 have hne:b≠m:=fun e=>by
  obtain ⟨f,n,⟨D,⟨es,aM,hb,_⟩,_⟩,_⟩:=hm
  simp_all
 exact (ht.grown.block b h.lt (fun e=>hne ve)).trans h
theorem J3.store{lo}{w}{p b n}{l}(h:J3 lo w p b n l)(hn:n<1000)(s)(hs:s.size<=1000)(x)(c)(hc:Q5 lo w p x c):
  ∃w',(Instr.mapUpdate 47 (.map (some b)) (.string s) (tW c)).run prog w= .ok () w'/\J3 lo w' p b (n+1) ((s.data.toList,x)::l)/\w.mapTurned w' b:=by
 obtain ⟨f,hm,hf⟩:=h.map;obtain ⟨w',ae,h',ht⟩:=hm.store hn s yt c
 have hk:∀b t cs,lo<=b->p8 w b t cs->p8 w' b t cs:=fun _ _ _ _ q=>Kq q ht ⟨f,n,hm⟩
 refine ⟨w',ae,⟨_,h',fun y=> ?_⟩,ht⟩;rw [List.lookup_cons];by_cases e:y=s.data.toList
 ·subst e;simp only [beq_self_eq_true,if_true];exact ⟨c,rfl,hc.same hk⟩
 rw [show (y==s.data.toList)=false by simpa using e,if_neg e];have:=hf y;dsimp only;split<;>rename_i q<;>rw [q] at this
 ·exact this
 obtain ⟨c',h1,h2⟩:=this;exact ⟨c',h1,h2.same hk⟩
end
section
open RowKit Extern.Stop Stop Extern
theorem Tryz.abQ(t)(w):(ReflectliteValue.unpack (.iface 69 (.pointer (some t)))).run prog w
  = .ok (.agg #[.pointer (some (qA 19 69)),qP w.heap.size,.int .u64 150]) (w.alloc (.cells #[.pointer (some t)] 69)):=zk
theorem Tryz.acD(a)(w):(ReflectliteValue.methodAny (ReflectliteValue.valueError "reflectlite.Value.Type" 0) (fun t _ _ _=>ReflectliteType.toType t) #[.agg #[.pointer (some (qA 19 69)),.pointer (some a),.int .u64 150]]).run prog w
  = .ok (.iface 172 (.agg #[.pointer (some (qA 19 69))])) w:=zk
theorem Tryz.abI(h)(w):(Go.method 567 172 (.agg #[h]) "Kind").run prog w= .ok (398,h) w:=zk
theorem Tryz.acK(w):((ReflectliteType.abiMethod fun t=>Functor.map (fun a:Nat=>Value.int IntKind.u8 (a:Int)) (Rtype.kind t)) #[.pointer (some (qA 19 69))]).run prog w= .ok (.int .u8 22) w:=zk
theorem Tryz.adh(w):((ReflectliteType.abiMethod fun t=>Functor.map (fun a:Nat=>Value.int IntKind.u8 (a:Int)) (Rtype.kind t)) #[.pointer (some (qA 19 67))]).run prog w= .ok (.int .u8 22) w:=zk
theorem Tryz.acl(a p)(W)(ha:W.cell? a=some (.pointer (some p))):
  (ReflectliteValue.method (ReflectliteValue.valueError "reflectlite.Value.IsNil" 0) ReflectliteValue.isNil #[.agg #[.pointer (some (qA 19 69)),.pointer (some a),.int .u64 150]]).run prog W= .ok (.bool false) W:=by
 rw [show (ReflectliteValue.method (ReflectliteValue.valueError "reflectlite.Value.IsNil" 0) ReflectliteValue.isNil #[.agg #[.pointer (some (qA 19 69)),.pointer (some a),.int .u64 150]]).run prog W=(ReflectliteValue.isNil 69 a 150 22).run prog W by kernel_rfl];simp [ReflectliteValue.isNil,loadVar,isAgg,underlying,underlying69,ha,Result.andThen]
theorem Tryz.abP(h)(w):(Go.method 567 172 (.agg #[h]) "Elem").run prog w= .ok (410,.agg #[h]) w:=zk
theorem Tryz.aaD(h)(w):(Go.method 567 172 (.agg #[h]) "Implements").run prog w= .ok (411,.agg #[h]) w:=zk
theorem Tryz.U(h)(w):(Go.method 567 172 (.agg #[h]) "AssignableTo").run prog w= .ok (408,.agg #[h]) w:=zk
theorem Tryz.acN(w):(ReflectliteType.method ReflectliteType.elem #[.agg #[.pointer (some (qA 19 69))]]).run prog w= .ok (.iface 172 (.agg #[.pointer (some (qA 19 67))])) w:=zk
theorem Tryz.abq(w):(ReflectliteType.relation "Implements" ReflectliteType.implements_ #[.agg #[.pointer (some (qA 19 67))],.iface 172 (.agg #[.pointer (some (qA 19 25))])]).run prog w= .ok (.bool true) w:=zk
theorem Tryz.aaS(v)(w):(ReflectliteType.typeOf #[.iface 437 v]).run prog w= .ok (.iface 172 (.agg #[.pointer (some (qA 19 437))])) w:=zk
theorem Tryz.abt(w):(ReflectliteType.relation "AssignableTo" ReflectliteType.assignableTo #[.agg #[.pointer (some (qA 19 437))],.iface 172 (.agg #[.pointer (some (qA 19 67))])]).run prog w= .ok (.bool false) w:=zk
theorem Tryz.ac3(v)(xT)(w):(Instr.typeAssert (.iface 437 v) xT 176 true).run prog w= .ok (.tuple #[.nilIface,.bool false]) w:=run_typeAssert_lacksB underlying176 zk zk v xT w
theorem Tryz.ac8(v)(xT)(w):(Instr.typeAssert (.iface 437 v) xT 182 true).run prog w= .ok (.tuple #[.nilIface,.bool false]) w:=run_typeAssert_lacksB underlying182 zk zk v xT w
theorem Tryz.aa4(v)(xT)(w):(Instr.typeAssert (.iface 437 v) xT 179 true).run prog w= .ok (.tuple #[.nilIface,.bool false]) w:=run_typeAssert_lacksB underlying179 zk zk v xT w
theorem Tryz.aaN(v)(xT)(w):(Instr.typeAssert (.iface 437 v) xT 180 true).run prog w= .ok (.tuple #[.nilIface,.bool false]) w:=run_typeAssert_lacksB underlying180 zk zk v xT w
def zcT:Array Value->Sem Value:=ReflectliteType.method fun t=>do Rtype.noPackHeld "Comparable" t;pure (.bool (<-typeInfo t).comparable)
theorem Tryz.aaF(w):(zcT #[.agg #[.pointer (some (qA 19 437))]]).run prog w= .ok (.bool true) w:=zk
theorem Tryz.C(v)(w):(Go.method 567 172 v "Comparable").run prog w= .ok (409,v) w:=zk
theorem Tryz.acL:(prog.info? 437).map (·.comparable)=some true:=zk
theorem Tryz.aco:(prog.info? 455).map (·.size)=some 1:=zk

end