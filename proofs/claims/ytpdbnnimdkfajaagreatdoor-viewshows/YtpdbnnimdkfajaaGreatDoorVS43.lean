import Derived.Test.YtpdbnnimdkfajaaGreatDoorVS39
import Derived.Test.YtpdbnnimdkfajaaGreatDoorVS41
import Derived.Test.YtpdbnnimdkfajaaGreatDoorVS42
set_option linter.unusedSimpArgs false
set_option linter.unusedVariables false
namespace Go.Proofs.YtpdbnnimdkfajaaGreatDoor
open Go.Proofs.Tryz
variable {i x:Int} {es:List Enx} {sf:List Nat} {R qs:List Plc} {B a cap g j k n r:Nat} {ad:Nat→Addr} {br:Nat→Nat} {c:Nat→Nat→Nat} {K:Nat→Rws} {ao:Option Addr} {p q:Plc} {R':Rws} {f:Sta} {v:Value} {w w' wr wx:World}
section
open Go.RowKit
theorem nameOk_sign {l:List UInt8} (h:nameOk l=true) {c:UInt8} (hc:c∈l):c≠47/\c≠126:=by
 unfold nameOk at h
 simp only [vK] at h
 have:=List.all_eq_true.1 h.2 c hc
 unfold nameB at this
 simp only [decide_eq_true_eq] at this
 constructor
 ·rintro rfl;revert this;decide
 rintro rfl;revert this;decide
theorem dec_slash (n:Nat):(47:UInt8)∉Lib.decDigits n:=fun h=>by
 have:=dec_digit _ _ h
 revert this;decide
theorem itoa_signs (a:Int) (h0:0<=a):(47:UInt8)∉Lib.itoa a/\(126:UInt8)∉Lib.itoa a:=by
 refine ⟨?_,itoa_noP a 126 zo h0⟩
 rw [Lib.itoa,if_neg zi]
 exact dec_slash _
theorem itoa_inj {a b:Int} (ha:0<=a) (hb:0<=b) (ha':a<2^62) (hb':b<2^62) (h:Lib.itoa a=Lib.itoa b):a=b:=by
 have h1:=numN_itoa 19 a ha zi
 have h2:=numN_itoa 19 b hb zi
 rw [h,h2] at h1
 have:=Option.some.inj h1
 omega
theorem nmB_bytes (qs:List Plc) (p:Plc):(nmB qs p).data.toList=if qs.any (aheadB p)=true then p.2.2.data.toList++126::Lib.itoa p.1 else p.2.2.data.toList:=by
 unfold nmB
 split
 ·simp
 rfl
theorem nmB_noslash (hn:nameOk p.2.2.data.toList=true) (h0:0<=p.1):(47:UInt8)∉(nmB qs p).data.toList:=by
 rw [nmB_bytes]
 have h1:(47:UInt8)∉p.2.2.data.toList:=fun h=>(nameOk_sign hn h).1 rfl
 split
 ·simp [h1,(itoa_signs p.1 h0).1]
 exact h1
theorem nmB_inj (h:Shown f) (hq:IsPlaces f qs) (hp:p∈qs) (hq':q∈qs) (hin:p.2.1=q.2.1) (e:(nmB qs p).data.toList=(nmB qs q).data.toList):p=q:=by
 have fp:=(hq.mem p).1 hp
 have fq:=(hq.mem q).1 hq'
 have one:∀ {a b:Plc},a∈qs->b∈qs->a.1=b.1->a=b:=fun {a b} ha hb hab=>by
  have h1:=(hq.mem a).1 ha
  have h2:=(hq.mem b).1 hb
  rw [hab,h2] at h1
  exact (Option.some.inj h1).symm
 have np:=h.name _ _ fp
 have nq:=h.name _ _ fq
 have wp:=h.good.fine _ _ fp
 have wq:=h.good.fine _ _ fq
 have t1:(126:UInt8)∉p.2.2.data.toList:=fun k=>(nameOk_sign np k).2 rfl
 have t2:(126:UInt8)∉q.2.2.data.toList:=fun k=>(nameOk_sign nq k).2 rfl
 rw [nmB_bytes,nmB_bytes] at e
 by_cases ap:qs.any (aheadB p)=true
 ·by_cases aq:qs.any (aheadB q)=true
  ·rw [if_pos ap,if_pos aq] at e
   have c1:=congrArg (cutP 126) e
   rw [cutP_append _ _ _ t1,cutP_append _ _ _ t2,cutP_plain _ _ (itoa_signs p.1 wp.lo).2,cutP_plain _ _ (itoa_signs q.1 wq.lo).2] at c1
   simp only [List.cons.injEq,and_true] at c1
   exact one hp hq' (itoa_inj wp.lo wq.lo wp.hi wq.hi c1.2)
  rw [if_pos ap,if_neg aq] at e
  exact absurd (by rw [<-e];simp) t2
 by_cases aq:qs.any (aheadB q)=true
 ·rw [if_neg ap,if_pos aq] at e
  exact absurd (by rw [e];simp) t1
 rw [if_neg ap,if_neg aq] at e
 have en:p.2.2=q.2.2:=bytes_eq e
 rcases Int.lt_trichotomy p.1 q.1 with k | k | k
 ·exact absurd (un.2 ⟨p,hp,by unfold aheadB;simp [hin,en,k]⟩) aq
 ·exact one hp hq' k
 exact absurd (un.2 ⟨q,hq',by unfold aheadB;simp [hin,en,k]⟩) ap
theorem leads_is (h:Shown f) (hq:IsPlaces f qs) (hp:p∈qs) {b:Int} (hl:LeadsTo qs p.2.1 (nmB qs p).data.toList b):b=p.1:=by
 obtain ⟨es,k,e,⟨R,hR,_,rfl⟩,hk,he,_,rfl⟩:=hl
 have hm:=jm hk
 obtain ⟨q,hq1,rfl⟩:=jO.1 hm
 have hq2:=vx.1 (hR.mem_iff.1 hq1)
 have hin:q.2.1=p.2.1:=by simpa using hq2.2
 rw [nmB_inj h hq hq2.1 hp hin he]
theorem lead_there (hp:p∈qs):¬NoLead qs p.2.1 (nmB qs p).data.toList:=fun ⟨es,⟨R,hR,_,he⟩,hno⟩=>by
 refine hno (nmB qs p,p.1) ?_ rfl
 rw [he]
 exact jO.2 ⟨p,hR.mem_iff.2 (vx.2 ⟨hp,zm⟩),rfl⟩
theorem walk_split {qs:List Plc} :∀ {A:List (List UInt8)} {a b:Int} {nm:List UInt8},WalkTo qs a (A++ [nm]) b->∃c,WalkTo qs a A c/\LeadsTo qs c nm b
 | [],a,b,nm,⟨c,h1,h2⟩=>⟨a,rfl,by rw [<-show c=b from h2];exact h1⟩
 | x::A,a,b,nm,⟨d,h1,h2⟩=>by
  obtain ⟨c,k1,k2⟩:=walk_split h2
  exact ⟨c,⟨d,h1,k1⟩,k2⟩
def namesOf (qs L:List Plc):List (List UInt8):=(L.map fun p=>(nmB qs p).data.toList).reverse
theorem up_mem (G:Good f) (hq:IsPlaces f qs) (h:f x=some p):p∈qs:=(hq.mem p).2 (by rw [G.key x p h];exact h)
theorem walk_up {f:Sta} (h:Shown f) {qs:List Plc} (hq:IsPlaces f qs):∀ {L:List Plc} {x:Int},UpL f x L->(x=0\/Ins f x 0)->∀ {b:Int},WalkTo qs 0 (namesOf qs L) b->b=x
 | [],x,hu,hx,b,hw=>by
  have:x=0:=hx.resolve_right (ins_none hu)
  rw [this];exact (show (0:Int)=b from hw).symm
 | p::L,x,hu,hx,b,hw=>by
  have hx0:x≠0:=fun e=>xH
  have hi:=(ins_some hu.1).1 (hx.resolve_left hx0)
  have hw':WalkTo qs 0 (namesOf qs L++ [(nmB qs p).data.toList]) b:=by simpa [namesOf] using hw
  obtain ⟨c,k1,k2⟩:=walk_split hw'
  have hc:=walk_up h hq hu.2 hi k1
  rw [hc] at k2
  rw [leads_is h hq (up_mem h.good hq hu.1) k2]
  exact h.good.key x p hu.1
theorem walk_not {f:Sta} (h:Shown f) {qs:List Plc} (hq:IsPlaces f qs):∀ {L:List Plc} {x:Int},UpL f x L->(x=0\/Ins f x 0)->∀ {pre rest:List (List UInt8)} {nm:List UInt8} {b:Int},pre++nm::rest=namesOf qs L->WalkTo qs 0 pre b->¬NoLead qs b nm
 | [],x,hu,hx,pre,rest,nm,b,e,_,_=>by simp [namesOf] at e
 | p::L,x,hu,hx,pre,rest,nm,b,e,hw,hno=>by
  have hx0:x≠0:=fun e=>xH
  have hi:=(ins_some hu.1).1 (hx.resolve_left hx0)
  have e':pre++nm::rest=namesOf qs L++ [(nmB qs p).data.toList]:=by simpa [namesOf] using e
  rcases List.eq_nil_or_concat rest with rfl | ⟨r',z,rfl⟩
  ·have:=uD e' rfl
   obtain ⟨q1,q2⟩:=this
   simp only [List.cons.injEq,and_true] at q2
   rw [q1] at hw
   have hb:=walk_up h hq hu.2 hi hw
   rw [hb,q2] at hno
   exact lead_there (up_mem h.good hq hu.1) hno
  have e2:(pre++nm::r')++ [z]=namesOf qs L++ [(nmB qs p).data.toList]:=by rw [<-e'];simp
  exact walk_not h hq hu.2 hi (uD e2 rfl).1 hw hno
theorem cut_names:∀(a:List UInt8) (r:List (List UInt8)),(47:UInt8)∉a->(∀x∈r,(47:UInt8)∉x)->cutP 47 (a++(r.map (47:: ·)).flatten)=a::r
 | a,[],ha,_=>by simp [cutP_plain _ _ ha]
 | a,b::r,ha,hr=>by
  have:a++((b::r).map (47:: ·)).flatten=a++47::(b++(r.map (47:: ·)).flatten):=zm
  rw [this,cutP_append _ _ _ ha,cut_names b r (hr b zm) (fun x hx=>hr x (by simp [hx]))]
theorem pathL_is (qs L:List Plc):pathL qs L=((namesOf qs L).map (47:: ·)).flatten:=by
 unfold pathL
 rw [join_none]
 congr 1
 unfold wayN namesOf
 rw [List.map_reverse,List.map_reverse,List.map_map,List.map_map]
 congr 1
 apply List.ext_getElem
 ·simp
 intro i h1 h2
 simp only [jG,List.length_range] at h1
 simp [vq,ji h1]
theorem path_found (h:Shown f) (hq:IsPlaces f qs) {L:List Plc} (hu:UpL f x L) (hi:Ins f x 0):
  ∃nm:ByteArray,pathL qs L=47::nm.data.toList/\nm.data.toList≠ []/\cutP 47 nm.data.toList=namesOf qs L:=by
 have hall:∀y∈namesOf qs L,(47:UInt8)∉y/\y≠ []:=fun y hy=>by
  unfold namesOf at hy
  rw [List.mem_reverse] at hy
  obtain ⟨p,hp,rfl⟩:=jO.1 hy
  have hp2:p∈qs:=by
   rcases up_get hu p hp with k | ⟨z,k⟩
   ·exact up_mem h.good hq k
   exact up_mem h.good hq k
  have fp:=(hq.mem p).1 hp2
  have hn:=h.name _ _ fp
  refine ⟨nmB_noslash hn (h.good.fine _ _ fp).lo,fun e=> ?_⟩
  rw [nmB_bytes] at e
  have hne:p.2.2.data.toList≠ []:=fun k=>by rw [k] at hn;revert hn;decide
  split at e
  ·simp at e
  exact hne e
 have hne:namesOf qs L≠ []:=fun e=>by
  cases L with
  | nil=>exact ins_none hu hi
  | cons p L=>simp [namesOf] at e
 obtain ⟨a,r,har⟩:∃a r,namesOf qs L=a::r:=by
  cases hn:namesOf qs L with
  | nil=>exact absurd hn hne
  | cons a r=>exact ⟨a,r,rfl⟩
 rw [har] at hall
 refine ⟨⟨(a++(r.map (47:: ·)).flatten).toArray⟩,?_,?_,?_⟩
 ·rw [pathL_is,har];simp
 ·have:=(hall a zm).2
  simp [this]
 show cutP 47 (a++(r.map (47:: ·)).flatten).toArray.toList=_
 rw [har]
 exact cut_names a r (hall a zm).1 (fun y hy=>(hall y qO).1)
end
section
abbrev SRow (R:List Plc):Prop:=R.Pairwise (fun a b=>NLt (keyE a) (keyE b))
theorem keyed_unique:∀ {R R':List Plc},SRow R->SRow R'->(∀p,p∈R↔p∈R')->R=R'
 | [],[],_,_,_=>rfl
 | [],b::r',_,_,h=>qg
 | a::r,[],_,_,h=>qd
 | a::r,b::r',hl,hl',h=>by
  obtain ⟨h1,h2⟩:=jB.1 hl
  obtain ⟨h1',h2'⟩:=jB.1 hl'
  have e:a=b:=by
   rcases jn.1 ((h a).1 zm) with e | ha
   ·exact e
   rcases jn.1 ((h b).2 zm) with e | hb
   ·exact e.symm
   exact absurd (nlt_trans (h1 b hb) (h1' a ha)) nlt_irrefl
  subst e
  rw [keyed_unique h2 h2' (fun p=> ?_)]
  constructor
  ·intro hp
   rcases jn.1 ((h p).1 yK) with e | hp'
   ·subst e;exact absurd (h1 p hp) nlt_irrefl
   exact hp'
  intro hp
  rcases jn.1 ((h p).2 yK) with e | hp'
  ·subst e;exact absurd (h1' p hp) nlt_irrefl
  exact hp'
theorem strict_row (hn:(R.map (·.1)).Nodup) (hs:R.Pairwise (fun a b=>¬NLt (keyE b) (keyE a))):SRow R:=by
 have hn':R.Pairwise (fun a b=>a.1≠b.1):=by simpa [List.Nodup,ub] using hn
 refine List.Pairwise.imp₂ (fun {a b} h1 h2=> ?_) hn' hs
 rcases nlt_total (a:=keyE a) (b:=keyE b) (fun e=>h1 (congrArg Prod.snd e)) with q | q
 ·exact q
 exact absurd q h2
theorem row_nodup (hr:qs.Pairwise (fun a b=>a.1<b.1)) (P:Plc->Bool) (hp:R.Perm (qs.filter P)):(R.map (·.1)).Nodup:=by
 refine (hp.map (·.1)).nodup_iff.2 ?_
 have h2:(qs.filter P).Pairwise (fun a b=>a.1<b.1):=hr.sublist List.filter_sublist
 rw [List.Nodup,ub]
 exact h2.imp (fun {a b} h=>zi)
theorem isEnt_unique (hr:qs.Pairwise (fun a b=>a.1<b.1)) {es':List Enx} (h:IsEnt qs i es) (h':IsEnt qs i es'):es=es':=by
 obtain ⟨R,hp,hs,rfl⟩:=h
 obtain ⟨R',hp',hs',rfl⟩:=h'
 rw [keyed_unique (strict_row (row_nodup hr _ hp) hs) (strict_row (row_nodup hr _ hp') hs') (fun p=>(hp.mem_iff).trans (hp'.mem_iff).symm)]
structure InsK (R:List Plc) (p:Plc) (k:Nat):Prop where
 le:k<=R.length
 ahead:∀(j:Nat) q,j<k->R[j]? =some q->¬p.2.2.data.toList<q.2.2.data.toList
 stop:∀q,R[k]? =some q->p.2.2.data.toList<q.2.2.data.toList
theorem nlt_le {a b:Plc} (h:NLt (keyE a) (keyE b)):¬b.2.2.data.toList<a.2.2.data.toList:=fun k=>by
 rcases h with q | ⟨q,_⟩
 ·exact ue _ (List.lt_trans q k)
 have q':a.2.2.data.toList=b.2.2.data.toList:=q
 rw [q'] at k;exact ue _ k
theorem ins_row (hR:SRow R) (hlt:∀q∈R,q.1<p.1) (h:InsK R p k):SRow (R.take k++p::R.drop k):=by
 have h0:SRow (R.take k++R.drop k):=by rw [jH];exact hR
 obtain ⟨a1,a2,a3⟩:=jW.1 h0
 have hd:∀q∈R.drop k,p.2.2.data.toList<q.2.2.data.toList:=fun q hq=>by
  cases e:R.drop k with
  | nil=>rw [e] at hq;simp at hq
  | cons c r=>
   have hc:R[k]? =some c:=by
    have:(R.drop k)[0]? =some c:=qF
    rwa [vg,vk] at this
   have h1:=h.stop c hc
   rw [e] at hq a2
   rcases jn.1 hq with rfl | hq'
   ·exact h1
   rcases (jB.1 a2).1 q hq' with z | ⟨z,_⟩
   ·exact List.lt_trans h1 z
   have z':c.2.2.data.toList=q.2.2.data.toList:=z
   rw [<-z'];exact h1
 refine jW.2 ⟨a1,jB.2 ⟨fun q hq=>.inl (hd q hq),a2⟩,fun a ha b hb=> ?_⟩
 rcases jn.1 hb with rfl | hb'
 ·obtain ⟨j,hj,ej⟩:=vQ.1 ha
  have hjk:j<k:=by rw [jz] at hj;omega
  have hj':R[j]? =some a:=by
   have:(R.take k)[j]? =some a:=by rw [ji hj,ej]
   rwa [List.getElem?_take_of_lt hjk] at this
  have hn:=h.ahead j a hjk hj'
  by_cases e:a.2.2.data.toList=b.2.2.data.toList
  ·exact .inr ⟨e,hlt a (jm hj')⟩
  rcases bytesTotal e with q | q
  ·exact .inl q
  exact absurd q hn
 exact a3 a ha b hb'
theorem ins_perm (R:List Plc) (p:Plc) (k:Nat):(R.take k++p::R.drop k).Perm (R++ [p]):=by
 have h1:(R.take k++p::R.drop k).Perm (p::R):=by
  have:=uB (a:=p) (l₁:=R.take k) (l₂:=R.drop k)
  rwa [jH] at this
 exact h1.trans (List.perm_append_singleton p R).symm
structure LofAt (qs:List Plc) (i:Int) (n:Nat) (R:List Plc):Prop where
 perm:R.Perm ((qs.take n).filter (fun p=> !(p.2.1 !=i)))
 row:SRow R
theorem LofAt.nil (qs:List Plc) (i:Int):LofAt qs i 0 []:=⟨List.Perm.refl _,List.Pairwise.nil⟩
theorem take_next (h:qs[n]? =some p):qs.take (n+1)=qs.take n++ [p]:=by
 rw [jL,h];rfl
theorem LofAt.skip (h:LofAt qs i n R) (hp:qs[n]? =some p) (hne:p.2.1≠i):LofAt qs i (n+1) R:=by
 refine ⟨?_,h.row⟩
 rw [take_next hp,vw]
 have:([p].filter (fun p=> !(p.2.1 !=i)))= []:=by simp [hne]
 rw [this,vf];exact h.perm
theorem LofAt.put (hr:qs.Pairwise (fun a b=>a.1<b.1)) (h:LofAt qs i n R) (hp:qs[n]? =some p) (he:p.2.1=i) (hk:InsK R p k):LofAt qs i (n+1) (R.take k++p::R.drop k):=by
 refine ⟨?_,ins_row h.row (fun q hq=> ?_) hk⟩
 ·rw [take_next hp,vw]
  have:([p].filter (fun p=> !(p.2.1 !=i)))= [p]:=by simp [he]
  rw [this]
  exact (ins_perm R p k).trans (h.perm.append_right _)
 have hm:=(vx.1 (h.perm.mem_iff.1 hq)).1
 have hn:n<qs.length:=(jh.1 hp).1
 have h2:(qs.take n++ [p]).Pairwise (fun a b=>a.1<b.1):=by
  rw [<-take_next hp];exact hr.sublist (List.take_sublist _ _)
 exact (jW.1 h2).2.2 q hm p zm
theorem LofAt.ent (h:LofAt qs i qs.length R):IsEnt qs i (R.map (fun p=>(nmB qs p,p.1))):=
 ⟨R,by have:=h.perm;rwa [jX] at this,h.row.imp (fun {a b} q k=>nlt_irrefl (nlt_trans q k)),rfl⟩
theorem LofAt.twin (h:LofAt qs i qs.length R) (hj:R[j+1]? =some p) (hq:R[j]? =some q):qs.any (aheadB p)=decide (q.2.2=p.2.2):=by
 have hp:=h.perm
 rw [jX] at hp
 have mem:∀x,x∈R↔x∈qs/\x.2.1=i:=fun x=>by rw [hp.mem_iff,vx];simp
 have gp:=jm hj
 have gq:=jm hq
 have pw:=jF.1 h.row
 obtain ⟨lj,ej⟩:=jh.1 hj
 obtain ⟨lq,eq⟩:=jh.1 hq
 have hqp:NLt (keyE q) (keyE p):=by have:=pw j (j+1) lq lj zi;rwa [ej,eq] at this
 rw [uk,un,decide_eq_true_eq]
 constructor
 ·rintro ⟨x,hx,hb⟩
  unfold aheadB at hb
  simp only [vK,decide_eq_true_eq] at hb
  have hxR:x∈R:=(mem x).2 ⟨hx,by rw [hb.1];exact ((mem p).1 gp).2⟩
  obtain ⟨m,lm,em⟩:=vQ.1 hxR
  have hxp:NLt (keyE x) (keyE p):=.inr ⟨congrArg (fun b:ByteArray=>b.data.toList) hb.2.1,hb.2.2⟩
  have hm:m<j+1:=by
   rcases uc m (j+1) with z | z | z
   ·exact z
   ·subst z;rw [ej] at em;subst em;exact absurd hxp nlt_irrefl
   have:=pw (j+1) m lj lm z;rw [ej,em] at this;exact absurd (nlt_trans this hxp) nlt_irrefl
  by_cases z:m=j
  ·subst z;rw [eq] at em;rw [em];exact hb.2.1
  have h1:=pw m j lm lq zi
  rw [em,eq] at h1
  have n1:=nlt_le h1
  have n2:=nlt_le hqp
  have en:x.2.2.data.toList=p.2.2.data.toList:=congrArg (fun b:ByteArray=>b.data.toList) hb.2.1
  rw [en] at n1
  refine bytes_eq ?_
  by_cases e:q.2.2.data.toList=p.2.2.data.toList
  ·exact e
  rcases bytesTotal e with z | z
  ·exact absurd z n1
  exact absurd z n2
 intro e
 refine ⟨q,((mem q).1 gq).1,?_⟩
 unfold aheadB
 simp only [vK,decide_eq_true_eq]
 refine ⟨by rw [((mem q).1 gq).2,((mem p).1 gp).2],e,?_⟩
 rcases hqp with z | z
 ·have z':q.2.2.data.toList<p.2.2.data.toList:=z
  rw [e] at z';exact absurd z' (ue _)
 exact z.2
theorem LofAt.first (h:LofAt qs i qs.length R) (hj:R[0]? =some p):qs.any (aheadB p)=false:=by
 have hp:=h.perm
 rw [jX] at hp
 have mem:∀x,x∈R↔x∈qs/\x.2.1=i:=fun x=>by rw [hp.mem_iff,vx];simp
 have gp:=jm hj
 have pw:=jF.1 h.row
 obtain ⟨lj,ej⟩:=jh.1 hj
 cases e:qs.any (aheadB p) with
 | false=>rfl
 | true=>
  obtain ⟨x,hx,hb⟩:=un.1 e
  unfold aheadB at hb
  simp only [vK,decide_eq_true_eq] at hb
  have hxR:x∈R:=(mem x).2 ⟨hx,by rw [hb.1];exact ((mem p).1 gp).2⟩
  obtain ⟨m,lm,em⟩:=vQ.1 hxR
  have hxp:NLt (keyE x) (keyE p):=.inr ⟨congrArg (fun b:ByteArray=>b.data.toList) hb.2.1,hb.2.2⟩
  rcases ul m with z | z
  ·subst z;rw [ej] at em;subst em;exact absurd hxp nlt_irrefl
  have:=pw 0 m lj lm z;rw [ej,em] at this;exact absurd (nlt_trans this hxp) nlt_irrefl
end
section
open Go.RowKit Go.Lib Go.Sort
theorem infoRE:(prog.info? 87).map (fun i=>(i.zero,i.size,i.bytes))=some (some (.agg #[.string ⟨#[]⟩,.int .i64 0]),2,24):=zj
abbrev OwnE (w:World) (B:Nat) (v:Value) (es:List Enx):Prop:=w.ownsRow B 87 2 v es.length (flat encEn es)
theorem app_ent (ho:OwnE w B v es) (hn:es.length<=1000) (hB:B<=w.heap.size) (ap:Option Addr) (c:Nat) (ys:List Enx) (hy:ys.length<=1000) (hap:InRow encEn w ap ys) (hc:ap=none->c=0) (ty:TypeId):
  ∃v' w',(Builtin.append_ #[83,83] ty #[v,.slice ap ys.length c]).run prog w= .ok v' w'/\OwnE w' B v' (es++ys)/\w.grownBy w' v.ownBlock:=by
 obtain ⟨v',w',h1,h2,h3⟩:=append_row (enc:=encEn) (k:=2) (S:=83) (T:=87) underlying83 infoRE zi zi rfl encEn_len encEn_one ho zi hB ap c ys zi hap hc ty
 refine ⟨v',w',h1,?_,h3⟩
 unfold OwnE
 rw [jA,flat_append]
 exact h2
theorem ownE_nil (w:World) (B:Nat):OwnE w B (.slice none 0 0) []:=jQ _ _ _ _
theorem ownE_in (h:OwnE w B (.slice ao es.length cap) es):InRow encEn w ao es:=by
 rcases h.2 with ⟨h1,h2⟩ | ⟨g,cap',cur,hv,_⟩
 ·exact .inl (jC.1 h2)
 simp only [Value.slice.injEq] at hv
 obtain ⟨rfl,-,-⟩:=hv
 refine .inr ⟨g,0,rfl,fun j u hj=> ?_⟩
 have hl:=(jh.1 hj).1
 rw [flat_len encEn_len] at hl
 rw [jt,h.cellAt j hl];exact hj
theorem ownE_nilv (h:OwnE w B (.slice ao es.length cap) es):(ao=none/\es= []/\cap=0)\/∃g,ao=some ⟨g,0,none⟩/\es.length<=cap:=by
 rcases h.2 with ⟨h1,h2⟩ | ⟨g,cap',cur,hv,_,_,hc,_⟩
 ·simp only [Value.slice.injEq] at h1
  exact .inl ⟨h1.1,jC.1 h2,h1.2.2⟩
 simp only [Value.slice.injEq] at hv
 exact .inr ⟨g,hv.1,zi⟩
theorem inRow_take (h:InRow encEn w ao es) (k:Nat):InRow encEn w ao (es.take k):=by
 rcases h with h | ⟨g,o,h1,h2⟩
 ·exact .inl (by rw [h];simp)
 refine .inr ⟨g,o,h1,fun j u hj=>h2 j u ?_⟩
 have e:flat encEn es=flat encEn (es.take k)++flat encEn (es.drop k):=ya
 rw [e,vD (jh.1 hj).1];exact hj
theorem inRow_drop (h:InRow encEn w (some ⟨g,0,none⟩) es) (k:Nat) (hk:k<=es.length):InRow encEn w (some ⟨g,k*2,none⟩) (es.drop k):=by
 rcases h with h | ⟨g',o,h1,h2⟩
 ·exact .inl (by rw [h];simp)
 simp only [Option.some.injEq,Addr.mk.injEq] at h1
 obtain ⟨rfl,rfl,-⟩:=h1
 refine .inr ⟨g,k*2,rfl,fun j u hj=> ?_⟩
 have e:flat encEn es=flat encEn (es.take k)++flat encEn (es.drop k):=ya
 have:=h2 (k*2+j) u (by
  rw [e,uz (by rw [flat_len encEn_len,jz];omega),flat_len encEn_len,jz,Nat.min_eq_left hk,Nat.add_sub_cancel_left];exact hj)
 rwa [jt] at this
theorem inRow_new (w:World) (e:Enx) (ty:TypeId):InRow encEn (w.alloc (.cells (encEn e).toArray ty)) (some ⟨w.heap.size,0,none⟩) [e]:=by
 refine .inr ⟨w.heap.size,0,rfl,fun j u hj=> ?_⟩
 have hn:=heap_alloc_new w (.cells (encEn e).toArray ty)
 simp only [flat,List.flatMap_cons,List.flatMap_nil,vf] at hj
 simp only [World.cell?,jt]
 rw [hn]
 simpa using hj
def nk (p:Plc):Enx:=(p.2.2,p.1)
structure LofSt (w:World) (qs:List Plc) (i:Int) (n:Nat) (R:List Plc) (v:Value) (wr:World):Prop where
 lof:LofAt qs i n R
 len:R.length<=n
 row:OwnE wr w.heap.size v (R.map nk)
 below:Below w.heap.size w wr
theorem LofSt.later (h:LofSt w qs i n R v wr) (hb:Below wr.heap.size wr wx):LofSt w qs i n R v wx:=
 ⟨h.lof,h.len,owns_same h.row (fun q hq=>hb.block q (h.row.lt q hq).2),zh h.below hb⟩
theorem LofSt.two (h:LofSt w qs i n R (.slice ao R.length cap) wr) (hn:n<=300) (hk:k<=R.length) (ty:TypeId):
  ∃v1 w1,(Builtin.append_ #[83,83] ty #[.slice none 0 0,.slice ao k cap]).run prog wr= .ok v1 w1/\Aside (OwnE w1 wr.heap.size v1 ((R.take k).map nk)/\Below wr.heap.size wr w1):=by
 have hl:=h.len
 have hrow:OwnE wr w.heap.size (.slice ao (R.map nk).length cap) (R.map nk):=by rw [jG];exact h.row
 obtain ⟨v1,w1,h1,h2,h3⟩:=app_ent (ownE_nil wr wr.heap.size) zm ze ao cap ((R.map nk).take k) (by rw [jz,jG];omega) (inRow_take (ownE_in hrow) k) (fun e=>by
  rcases ownE_nilv hrow with q | ⟨g,q,_⟩
  ·exact q.2.2
  ·rw [e] at q;cases q) ty
 rw [jz,jG,Nat.min_eq_left hk] at h1
 rw [vn,<-List.map_take] at h2
 exact ⟨v1,w1,h1,h2,(jo _ wr).grown h3 ze zL⟩
theorem own_more {w1:World} {v1:Value} (h:OwnE w1 wr.heap.size v1 es/\Below wr.heap.size wr w1) (hl:es.length<=300) (hb:Below w1.heap.size w1 wx) (e:Enx) (ty:TypeId):
  ∃v2 w2,(Builtin.append_ #[83,83] ty #[v1,.slice (some ⟨wx.heap.size,0,none⟩) 1 1]).run prog (wx.alloc (.cells #[.string e.1,.int .i64 e.2] 87))= .ok v2 w2/\Aside (OwnE w2 wr.heap.size v2 (es++ [e])/\Below wr.heap.size wr w2):=by
 have hrow:OwnE (wx.alloc (.cells (encEn e).toArray 87)) wr.heap.size v1 es:=by
  refine owns_same h.1 (fun q hq=> ?_)
  have:=(h.1.lt q hq).2
  rw [jp _ _ _ qA,hb.block q this]
 have hs:wr.heap.size<=(wx.alloc (.cells (encEn e).toArray 87)).heap.size:=by rw [jI];have:=h.2.size;have:=hb.size;omega
 obtain ⟨v2,w2,h1,h2,h3⟩:=app_ent hrow zi hs (some ⟨wx.heap.size,0,none⟩) 1 [e] zm (inRow_new wx e _) (fun q=>by cases q) ty
 have hbw:Below wr.heap.size wr (wx.alloc (.cells (encEn e).toArray 87)):=(zh h.2 hb).alloc (by have:=h.2.size;have:=hb.size;omega) _
 exact ⟨v2,w2,h1,h2,hbw.grown h3 hs (fun k hk=>(h.1.lt k hk).1)⟩
theorem LofSt.three (h:LofSt w qs i n R (.slice ao R.length cap) wr) (hr:qs.Pairwise (fun a b=>a.1<b.1)) (hn:n<=300) (hp:qs[n]? =some p) (he:p.2.1=i) (hk:InsK R p k) {v2:Value} {w2:World} (h2:OwnE w2 wr.heap.size v2 ((R.take k).map nk++ [nk p])/\Below wr.heap.size wr w2) (ap:Option Addr) (c:Nat) (hap:InRow encEn w2 ap ((R.drop k).map nk)) (hc:ap=none->c=0) (ty:TypeId):
  ∃v3 w3,(Builtin.append_ #[83,83] ty #[v2,.slice ap (R.length - k) c]).run prog w2= .ok v3 w3/\Aside (LofSt w qs i (n+1) (R.take k++p::R.drop k) v3 w3/\Below wr.heap.size wr w3):=by
 have hl:=h.len
 have hkl:=hk.le
 obtain ⟨v3,w3,h3,h4,h5⟩:=app_ent h2.1 zk h2.2.size ap c ((R.drop k).map nk) zk hap hc ty
 rw [jG,jT] at h3
 have hb3:Below wr.heap.size wr w3:=h2.2.grown h5 h2.2.size (fun k hk=>(h2.1.lt k hk).1)
 refine ⟨v3,w3,h3,⟨h.lof.put hr hp he hk,?_,?_,zh h.below hb3⟩,hb3⟩
 ·simp;omega
 have e:(R.take k++p::R.drop k).map nk=(R.take k).map nk++ [nk p]++(R.drop k).map nk:=zm
 rw [e]
 exact owns_base h4 h.below.size
end
section
open Go.RowKit
open scoped Classical
def layP (p:Plc):List Plc->List Plc
 | []=>[p]
 | q::r=>if q.1<p.1 then q::layP p r else if q.1=p.1 then p::r else p::q::r
theorem layP_mem {p:Plc} :∀ {L:List Plc},L.Pairwise (fun a b=>a.1<b.1)->∀x,x∈layP p L↔x=p\/(x∈L/\x.1≠p.1)
 | [],_,x=>by simp [layP]
 | q::r,h,x=>by
  have hr:=jB.1 h
  unfold layP
  split
  ·rename_i k
   rw [jn,layP_mem hr.2 x,jn]
   constructor
   ·rintro (e | e | ⟨e,e'⟩)
    ·exact .inr ⟨.inl e,by rw [e];omega⟩
    ·exact .inl e
    exact .inr ⟨.inr e,e'⟩
   rintro (e | ⟨e | e,e'⟩)
   ·exact .inr (.inl e)
   ·exact .inl e
   exact .inr (.inr ⟨e,e'⟩)
  rename_i k
  split
  ·rename_i k'
   rw [jn,jn]
   constructor
   ·rintro (e | e)
    ·exact .inl e
    exact .inr ⟨.inr e,by have:=hr.1 x e;omega⟩
   rintro (e | ⟨e | e,e'⟩)
   ·exact .inl e
   ·exact absurd (by rw [e];exact k') e'
   exact .inr e
  rename_i k'
  rw [jn,jn]
  constructor
  ·rintro (e | e | e)
   ·exact .inl e
   ·exact .inr ⟨.inl e,by rw [e];omega⟩
   exact .inr ⟨.inr e,by have:=hr.1 x e;omega⟩
  rintro (e | ⟨e | e,e'⟩)
  ·exact .inl e
  ·exact .inr (.inl e)
  exact .inr (.inr e)
theorem layP_rise {p:Plc} :∀ {L:List Plc},L.Pairwise (fun a b=>a.1<b.1)->(layP p L).Pairwise (fun a b=>a.1<b.1)
 | [],_=>by simp [layP]
 | q::r,h=>by
  have hr:=jB.1 h
  unfold layP
  split
  ·rename_i k
   refine jB.2 ⟨fun x hx=> ?_,layP_rise hr.2⟩
   rcases (layP_mem hr.2 x).1 hx with e | ⟨e,_⟩
   ·rw [e];exact k
   exact hr.1 x e
  rename_i k
  split
  ·rename_i k'
   exact jB.2 ⟨fun x hx=>by have:=hr.1 x hx;omega,hr.2⟩
  rename_i k'
  refine jB.2 ⟨fun x hx=> ?_,h⟩
  rcases jn.1 hx with e | e
  ·rw [e];omega
  have:=hr.1 x e;omega
theorem layP_len (p:Plc):∀L:List Plc,(layP p L).length<=L.length+1
 | []=>by simp [layP]
 | q::r=>by
  have:=layP_len p r
  unfold layP
  split
  ·simp;omega
  split<;>simp
theorem places_fold:∀(ms:List Mov) (f:Sta) (L:List Plc),IsPlaces f L->(∀k p,f k=some p->p.1=k)->∃L',IsPlaces (foldS f ms) L'/\L'.length<=L.length+ms.length
 | [],f,L,h,_=>⟨L,h,zm⟩
 | m::ms,f,L,h,hk=>by
  by_cases hi:Idle f m.2
  ·obtain ⟨L',h1,h2⟩:=places_fold ms (step f m) L (by rw [step_idle hi];exact h) (by rw [step_idle hi];exact hk)
   exact ⟨L',h1,by simp only [jK];omega⟩
  have hs:IsPlaces (step f m) (layP m.2 L):=by
   rw [step_goes hi]
   refine ⟨layP_rise h.rise,fun x=> ?_⟩
   rw [layP_mem h.rise x]
   unfold upd
   by_cases e:x.1=m.2.1
   ·rw [if_pos e]
    constructor
    ·rintro (q | ⟨_,q⟩)
     ·rw [q]
     exact absurd e q
    intro q
    exact .inl (Option.some.inj q).symm
   rw [if_neg e,<-h.mem x]
   constructor
   ·rintro (q | ⟨q,_⟩)
    ·exact absurd (by rw [q]) e
    exact q
   exact fun q=>.inr ⟨q,e⟩
  obtain ⟨L',h1,h2⟩:=places_fold ms (step f m) (layP m.2 L) hs (fun k p q=>by
   rw [step_goes hi] at q
   unfold upd at q
   split at q
   ·rename_i e
    rw [<-Option.some.inj q];exact e.symm
   ·exact hk k p q)
  refine ⟨L',h1,?_⟩
  have:=layP_len m.2 L
  simp only [jK]
  omega
theorem places_exist (ms:List Mov):∃L,IsPlaces (madeBy ms) L/\L.length<=ms.length:=by
 obtain ⟨L,h1,h2⟩:=places_fold ms noSta [] ⟨List.Pairwise.nil,fun p=>by simp [noSta]⟩ (fun k p h=>xh)
 exact ⟨L,h1,by simpa using h2⟩
theorem RepAt.view {c:Nat->Nat} {br:Nat} {by_:Int} {R:Rws} (h:RepAt w c br by_ R) (hl:(allR R).length<=300):
  ∃bt bm n v ms qs,ViewAt w br bt bm n v (madeBy ms)/\ms.Perm (movsO (allR R))/\IsPlaces (madeBy ms) qs/\qs.length<=300/\ByStamp ms:=by
 obtain ⟨T,kv,bt,bx,bc,A,hm,hp,hR,_,_⟩:=h
 obtain ⟨bm,v,ms,hT,hpm,_,_,_⟩:=hm.tree
 obtain ⟨n,hn,hM⟩:=hT.map
 have hpA:ms.Perm (movsO (allR R)):=hpm.trans (hp.filterMap movO)
 have hml:ms.length<=300:=by
  rw [hpA.length_eq]
  exact jw (List.length_filterMap_le _ _) hl
 obtain ⟨qs,hq,hql⟩:=places_exist ms
 exact ⟨bt,bm,n,v,ms,qs,⟨hm.cell.c6,hT.cell,hM,zi,shown_of hR.well hpA hT.by_ hT.fine⟩,hpA,hq,zi,hT.by_⟩
end
section
open Go.RowKit Go.Lib Go.Sort Go.Maps
open scoped Classical
theorem infoPR:(prog.info? 25).map (fun i=>(i.zero,i.size,i.bytes))=some (some (.pointer none),1,8):=zj
def ptrs (br:Nat->Nat) (n:Nat):List Value:=(List.range n).map fun r=>.pointer (some ⟨br r,0,none⟩)
theorem ptrs_succ (br:Nat->Nat) (n:Nat):ptrs br (n+1)=ptrs br n++ [.pointer (some ⟨br n,0,none⟩)]:=by unfold ptrs;rw [uu,jY];rfl
theorem ptrs_get (br:Nat->Nat) (h:r<n):(ptrs br n)[r]? =some (.pointer (some ⟨br r,0,none⟩)):=by unfold ptrs;rw [jS,List.getElem?_range h];rfl
theorem ptrs_congr {br':Nat->Nat} (h:∀r,r<n->br r=br' r):ptrs br n=ptrs br' n:=by
 unfold ptrs
 exact uw (fun r hr=>by rw [h r (List.mem_range.1 hr)])
theorem Folk.congr {by_ by':Nat->Int} {R:Nat->Rws} (h:Folk B w n c br by_ R) (e:∀r,r<n->by_ r=by' r):Folk B w n c br by' R:=⟨fun r hr=>by rw [<-e r hr];exact h.rep r hr,h.apart⟩
def HistK (i:Nat) (K:Nat->Rws):Prop:=∃H:List OpX,H.length<=i/\∀r,r<4->∀x∈allR (K r),x∈H/\x.1<=(i:Int)
structure Crowd (B:Nat) (w:World) (g cap:Nat) (br:Nat->Nat) (K:Nat->Rws) (i:Nat) (sf:List Nat) (wr:World):Prop where
 folk:∃c,Folk B wr 4 c br (fun r=>(r:Int)) K/\∀r,r<4->∀k∈g::sf,c r k=0
 row:wr.ownsRow B 25 1 (.slice (some ⟨g,0,none⟩) 4 cap) 4 (ptrs br 4)
 below:Below B w wr
 base:B<=w.heap.size
 kin:FolkK 4 (fun r=>allR (K r))
 hist:HistK i K
 safe:∀k∈sf,k<wr.heap.size
section
variable {B:Nat} {w:World} {g cap:Nat} {br:Nat→Nat} {K:Nat→Rws} {i:Nat} {sf:List Nat} {wr:World}
theorem Crowd.later {w':World} (h:Crowd B w g cap br K i sf wr) (hb:Below wr.heap.size wr w'):Crowd B w g cap br K i sf w':=by
 obtain ⟨c,hf,hc⟩:=h.folk
 exact ⟨⟨c,hf.later hb,hc⟩,ownsHeld h.row (fun k hk=>hb.block k (h.row.lt k hk).2),h.below.trans (hb.mono (jw h.base h.below.size)),h.base,h.kin,h.hist,fun k hk=>jE (h.safe k hk) hb.size⟩
theorem Crowd.rows (h:Crowd B w g cap br K i sf wr) (hr:r<4):RowsK (K r):=by
 obtain ⟨c,hf,_⟩:=h.folk
 exact (hf.rep r hr).wellK
theorem Crowd.len (h:Crowd B w g cap br K i sf wr) (hr:r<4):(allR (K r)).length<=i:=by
 obtain ⟨H,h1,h2⟩:=h.hist
 have:=len_sub (h.rows hr).num.nodup (fun x hx=>(h2 r hr x hx).1)
 omega
theorem Crowd.time (h:Crowd B w g cap br K i sf wr) (hr:r<4) {T:Int} (hT:timeO (allR (K r)) T):T<=(i:Int):=by
 obtain ⟨H,h1,h2⟩:=h.hist
 rcases hT.2.1 with q | ⟨x,hx,q⟩
 ·omega
 have:=(h2 r hr x hx).2;omega
theorem Crowd.cell (h:Crowd B w g cap br K i sf wr) {r:Nat} (hr:r<4):wr.cell? ⟨g,r,none⟩=some (.pointer (some ⟨br r,0,none⟩)):=by
 rw [h.row.cellAt r zi,ptrs_get br hr]
theorem Crowd.glt (h:Crowd B w g cap br K i sf wr):g<wr.heap.size:=(h.row.lt g rfl).2
theorem Crowd.up (h:Crowd B w g cap br K i sf wr) (hij:i<=j):Crowd B w g cap br K j sf wr:=by
 obtain ⟨H,h1,h2⟩:=h.hist
 exact ⟨h.folk,h.row,h.below,h.base,h.kin,⟨H,zi,fun r hr x hx=>⟨(h2 r hr x hx).1,by have:=(h2 r hr x hx).2;omega⟩⟩,h.safe⟩
theorem Crowd.act (h:Crowd B w g cap br K i sf wr) {a:Nat} (ha:a<4) {w':World} {c:Nat->Nat->Nat} (hf:Folk B wr 4 c br (fun r=>(r:Int)) K) (hg:∀r,r<4->∀k∈g::sf,c r k=0) {c':Nat->Nat} {R':Rws} (hA:Acts wr (c a) w' c') (hR:RepOwn B w' c' (br a) (a:Int) R') {j:Nat} (hkin:FolkK 4 (fun r=>allR (setAt K a R' r))) (hh:HistK j (setAt K a R')):Crowd B w g cap br (setAt K a R') j sf w'/\∀k∈sf,k<wr.heap.size->w'.heap[k]? =wr.heap[k]? :=by
 refine ⟨⟨⟨setAt c a c',hf.act ha hA hR,fun r hr k hk=> ?_⟩,ownsHeld h.row (fun k hk=> ?_),h.below.trans ((hf.rep a ha).below hA (jw h.base h.below.size)),h.base,hkin,hh,fun k hk=>jE (h.safe k hk) hA.keeps.size⟩,fun k hk hkl=>hA.keeps.block k hkl (fun q=>q (hg a ha k (jv _ hk)))⟩
 ·by_cases e:r=a
  ·subst e
   rw [setAt_is]
   have hkl:k<wr.heap.size:=by
    rcases jn.1 hk with e | hk
    ·rw [e];exact h.glt
    exact h.safe k hk
   rw [hA.hue k hkl]
   exact hg r hr k hk
  rw [setAt_ne _ _ e];exact hg r hr k hk
 have:k=g:=by simpa [Value.ownBlock] using hk.symm
 subst this
 exact hA.keeps.block k h.glt (fun q=>q (hg a ha k jM))
theorem Crowd.guard (h:Crowd B w g cap br K i sf wr) (hb:Below wr.heap.size wr w') (hk:wr.heap.size<=k) (hk':k<w'.heap.size):Crowd B w g cap br K i (k::sf) w':=by
 obtain ⟨c,hf,hc⟩:=h.folk
 have h':=h.later hb
 refine ⟨⟨c,hf.later hb,fun r hr j hj=> ?_⟩,h'.row,h'.below,h'.base,h'.kin,h'.hist,fun j hj=> ?_⟩
 ·rcases jn.1 hj with e | hj
  ·exact hc r hr j (by rw [e];exact jM)
  rcases jn.1 hj with e | hj
  ·rw [e];exact (hf.rep r hr).high k hk
  exact hc r hr j (jv _ hj)
 rcases jn.1 hj with e | hj
 ·rw [e];exact hk'
 exact h'.safe j hj
theorem Crowd.less {sf':List Nat} (h:Crowd B w g cap br K i sf wr) (hs:∀k,k∈sf'->k∈sf):Crowd B w g cap br K i sf' wr:=by
 obtain ⟨c,hf,hc⟩:=h.folk
 exact ⟨⟨c,hf,fun r hr j hj=>hc r hr j (by rcases jn.1 hj with e | hj;exact jn.2 (.inl e);exact jv _ (hs j hj))⟩,h.row,h.below,h.base,h.kin,h.hist,fun j hj=>h.safe j (hs j hj)⟩
end
def CJoinOut (B:Nat) (w:World) (g cap:Nat) (br:Nat->Nat) (K:Nat->Rws) (i a:Nat) (sf:List Nat) (wr:World) (T:List OpX) (e:Ending) (w':World):Prop:=∃(n:Nat) (R':Rws),e= .returned (.tuple #[.int .i64 (n:Int),.nilIface])/\Aside (Crowd B w g cap br (setAt K a R') i sf w'/\(∀x,x∈allR R'↔x∈allR (K a)\/x∈T)/\∀k∈sf,w'.heap[k]? =wr.heap[k]?)
theorem setAt_fun :(fun r=>allR (setAt K a R' r))=(fun r=>if r=a then allR R' else allR (K r)):=by
 funext r
 unfold setAt
 split<;>rfl
theorem crowd_join {i:Nat} (h:Crowd B w g cap br K i sf wr) (hE:EnvT B ad w) (hi:i<=60) {b:Nat} (ha:a<4) (hb:b<4) (la:Option Addr) (lc:Nat) (l:List OpX) (hin:OpsIn wr la l) (hl:∀x,x∈l->x∈allR (K b)) (hl2:∀x,x∈allR (K b)->x∈allR (K a)\/x∈l) (hll:l.length<=60):
  Calls prog 10 #[.pointer (some ⟨br a,0,none⟩),.slice la l.length lc] wr (CJoinOut B w g cap br K i a sf wr (allR (K b))):=by
 obtain ⟨c,hf,hg⟩:=h.folk
 have hlen:=h.len ha
 refine (joined wr (c a) (br a) (a:Int) (K a) la lc (allR (K b)) l (hf.rep a ha) (hE.mono h.below) hin (h.kin.well b hb) (h.kin.compat a ha b hb) hl hl2 zi).mono ?_
 rintro e w' ⟨n,c',R',he,hA,hR',hm,hlen'⟩
 have hm':∀x,x∈allR R'↔x∈allR (K a)\/x∈allR (K b):=fun x=>by
  rw [hm x]
  constructor
  ·rintro (q | q)
   ·exact .inl q
   exact .inr (hl x q)
  rintro (q | q)
  ·exact .inl q
  exact hl2 x q
 have hact:=h.act (j:=i) ha hf hg hA hR' (by rw [setAt_fun];exact h.kin.join ha hb hm') ?_
 ·exact ⟨n,R',he,hact.1,hm',fun k hk=>hact.2 k hk (h.safe k hk)⟩
 obtain ⟨H,h1,h2⟩:=h.hist
 refine ⟨H,h1,fun r hr x hx=> ?_⟩
 by_cases e:r=a
 ·subst e
  rw [setAt_is] at hx
  rcases (hm' x).1 hx with q | q
  ·exact h2 r hr x q
  exact h2 b hb x q
 rw [setAt_ne _ _ e] at hx
 exact h2 r hr x hx
theorem crowd_own {i:Nat} (h:Crowd B w g cap br K i sf wr) (hE:EnvT B ad w) (hi:i<=60) (ha:a<4) (la:Option Addr) (lc:Nat) (T:Int) (x:OpX) (hin:OpsIn wr la [x]) (hT:timeO (allR (K a)) T) (hx:NextOp (K a) a T x):
  Calls prog 10 #[.pointer (some ⟨br a,0,none⟩),.slice la 1 lc] wr fun e w'=>∃R',e= .returned (.tuple #[.int .i64 1,.nilIface])/\Aside (Crowd B w g cap br (setAt K a R') (i+1) sf w'/\∀k∈sf,w'.heap[k]? =wr.heap[k]?):=by
 obtain ⟨c,hf,hg⟩:=h.folk
 have hlen:=h.len ha
 refine (joined_own wr (c a) (br a) a (K a) la lc T x (hf.rep a ha) (hE.mono h.below) ha hin hx hT.1 zi).mono ?_
 rintro e w' ⟨c',R',he,hA,hR',hm,_⟩
 have hw:=hx.well (h.rows ha) ha hT.1
 have hact:=h.act (j:=i+1) ha hf hg hA hR' (by rw [setAt_fun];exact h.kin.make ha hx.by_ hm hw.1 hw.2) ?_
 ·exact ⟨R',he,hact.1,fun k hk=>hact.2 k hk (h.safe k hk)⟩
 obtain ⟨H,h1,h2⟩:=h.hist
 have ht:=h.time ha hT
 refine ⟨x::H,zk,fun r hr y hy=> ?_⟩
 by_cases e:r=a
 ·subst e
  rw [setAt_is] at hy
  rcases (hm y).1 hy with q | q
  ·subst q;exact ⟨jM,by have:=hx.time;omega⟩
  exact ⟨jv _ (h2 r hr y q).1,by have:=(h2 r hr y q).2;omega⟩
 rw [setAt_ne _ _ e] at hy
 exact ⟨jv _ (h2 r hr y hy).1,by have:=(h2 r hr y hy).2;omega⟩
theorem crowd_make {i:Nat} (h:Crowd B w g cap br K i sf wr) (hE:EnvT B ad w) (hcy:Aside (Cyc ad)) (hi:i<=60) (ha:a<4) (x:OpX) (hs1:x.2.2.2.2.2.2.1.size<=1000000) (hs2:x.2.2.2.2.2.2.2.size<=1000000) (hk:x.2.2.2.1<256) (h2: -9223372036854775808<=nodeO x/\nodeO x<=9223372036854775807) (h4: -9223372036854775808<=otherO x/\otherO x<=9223372036854775807):
  Calls prog 14 #[.pointer (some ⟨br a,0,none⟩),encO x] wr (Make1Out ad wr (K a) a):=by
 obtain ⟨c,hf,hg⟩:=h.folk
 have hlen:=h.len ha
 exact make1_any wr (c a) (br a) a (K a) x (hf.rep a ha) (hE.mono h.below) hcy ha (fun T hT=>by have:=h.time ha hT;omega) zi hs1 hs2 hk h2 h4
theorem crowd_vec {i:Nat} (h:Crowd B w g cap br K i sf wr) (hi:i<=60) {b:Nat} (hb:b<4):
  Calls prog 18 #[.pointer (some ⟨br b,0,none⟩)] wr fun e w'=>e= .returned (.agg #[.int .i64 ((K b 0).length:Int),.int .i64 ((K b 1).length:Int),.int .i64 ((K b 2).length:Int),.int .i64 ((K b 3).length:Int)])/\Below wr.heap.size wr w':=by
 obtain ⟨c,hf,hg⟩:=h.folk
 have hlen:=h.len hb
 exact rvector_any wr (c b) (br b) (b:Int) (K b) (hf.rep b hb).rep zi
def lenV (R:Rws):Nat->Int:=fun j=>((R j).length:Int)
theorem diff_new {R:Rws} (h':RowsK R') (hR:RowsK R) (hc:Compat (allR R') (allR R)) {ys:List OpX} (hs:StableOf (allR R) ys):(∀x,x∈ys.filter (fun x=> !heldV (lenV R') x)->x∈allR R)/\(∀x,x∈allR R->x∈allR R'\/x∈ys.filter (fun x=> !heldV (lenV R') x))/\(ys.filter (fun x=> !heldV (lenV R') x)).length<=(allR R).length:=by
 have hp:=(stable_by hs).1
 refine ⟨fun x hx=>hp.mem_iff.1 (vx.1 hx).1,fun x hx=> ?_,?_⟩
 ·by_cases hh:heldV (lenV R') x=true
  ·left
   obtain ⟨j,hj,hb,hbn⟩:=by_nat (hR.well.ok x hx)
   unfold heldV lenV at hh
   rw [decide_eq_true_iff] at hh
   have hbn':x.2.1.toNat=j:=hbn
   rw [hbn'] at hh
   have h1:=num_pos (hR.well.ok x hx)
   have h2:numO x=x.2.2.1:=rfl
   have hlt:(x.2.2.1 - 1).toNat<(R' j).length:=zi
   have hm:=h'.num j hj _ _ (ji hlt)
   have e:=hc _ (mem_allR.2 ⟨j,hj,vJ hlt⟩) x hx (by rw [hm.1,hb]) (by rw [hm.2.1];omega)
   rw [<-e]
   exact mem_allR.2 ⟨j,hj,vJ hlt⟩
  exact .inr (vx.2 ⟨hp.mem_iff.2 hx,by simpa using hh⟩)
 rw [<-hp.length_eq]
 exact vF _ _
theorem crowd_diff {i:Nat} (h:Crowd B w g cap br K i sf wr) (hi:i<=60) {b:Nat} (ha:a<4) (hb:b<4):
  Calls prog 24 #[.pointer (some ⟨br b,0,none⟩),.agg #[.int .i64 ((K a 0).length:Int),.int .i64 ((K a 1).length:Int),.int .i64 ((K a 2).length:Int),.int .i64 ((K a 3).length:Int)]] wr fun e w'=>∃ao cap l,e= .returned (.slice ao l.length cap)/\Aside (OpsIn w' ao l/\(∀x,x∈l->x∈allR (K b))/\(∀x,x∈allR (K b)->x∈allR (K a)\/x∈l)/\l.length<=60/\Below wr.heap.size wr w'):=by
 obtain ⟨c,hf,hg⟩:=h.folk
 have hlen:=h.len hb
 refine (rdiff_any wr (c b) (br b) (b:Int) (K b) (lenV (K a)) (hf.rep b hb).rep zi).mono ?_
 rintro e w' ⟨val,ys,he,h2,h1,h3⟩
 obtain ⟨d1,d2,d3⟩:=diff_new (h.rows ha) (h.rows hb) (h.kin.compat a ha b hb) h2
 rcases h1 with ⟨rfl,rfl⟩ | ⟨gb,cp,rfl,_,hO⟩
 ·exact ⟨none,0,[],he,.inl rfl,fun x hx=>yy,fun x hx=>by simpa using d2 x hx,zm,h3⟩
 refine ⟨_,cp,_,he,.inr ⟨gb,0,rfl,fun j u hj=> ?_⟩,d1,d2,zi,h3⟩
 rw [jt]
 exact hO.cell j u hj
