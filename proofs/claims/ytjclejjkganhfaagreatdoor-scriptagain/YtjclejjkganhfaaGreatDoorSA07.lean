import Derived.Test.YtjclejjkganhfaaGreatDoorHeldTk
import Derived.Test.YtjclejjkganhfaaGreatDoorSA02
import Derived.Test.YtjclejjkganhfaaGreatDoorSA03
import Derived.Test.YtjclejjkganhfaaGreatDoorSA04
import Derived.OrdersIn
import Derived.TacticsIn
import Derived.Deep.CutRange
import Derived.Deep.DeepCutAuto
set_option linter.unusedSimpArgs false
set_option linter.unusedVariables false
set_option maxRecDepth 100000
set_option maxHeartbeats 64000000
namespace Go.Proofs.YtjclejjkganhfaaGreatDoor
open Go.Proofs.Tryz
variable {l:Array Bool} {L:List Ltr}
section
open Maps
abbrev WG:=Int×Int
abbrev zdK:=WG->Option OpX
def noN:zdK:=fun _=>none
def No(k:WG):Value:=.agg #[qI k.1,qI k.2]
theorem UK{p q}(h:No p=No q):p=q:=by
 grind [No]
def mH(x:OpX):Value:=.agg (qVa x)
def lQ:OpX:=(0,0,0,0,0,0,⟨#[]⟩,⟨#[]⟩)
def Nt(x:OpX):DataW Unit:=.agg [.lit (.int .i64 x.1),.lit (.int .i64 x.2.1),.lit (.int .i64 x.2.2.1),.lit (.int .u8 (x.2.2.2.1:Int)),.lit (.int .i64 x.2.2.2.2.1),.lit (.int .i64 x.2.2.2.2.2.1),.lit (.string x.2.2.2.2.2.2.1.data.toList),.lit (.string x.2.2.2.2.2.2.2.data.toList)]
theorem Un{p q}(h:Nt p=Nt q):p=q:=by
 obtain ⟨t,b,n,k,nd,o,⟨⟨s⟩⟩,⟨⟨v⟩⟩⟩:=p;obtain ⟨t',b',n',k',nd',o',⟨⟨s'⟩⟩,⟨⟨v'⟩⟩⟩:=q
 grind [Nt]
def opL(l:List Value):Option (DataW Unit×List MemPlace):=match l with
 | [.int .i64 t,.int .i64 b,.int .i64 n,.int .u8 k,.int .i64 nd,.int .i64 o,.string s,.string v]=>if 0<=k then some (Nt (t,b,n,k.toNat,nd,o,s,v),[]) else none
 | _=>none
def opR(v:Value):Option (DataW Unit×List MemPlace):=match v with
 | .agg cs=>opL cs.toList
 | _=>none
theorem XX(x):opR (mH x)=some (Nt x,[]):=by
 simp [opR,mH,opL]
theorem zbA{l}{z}(h:opL l=some z):∃x:OpX,l=nD x/\z=(Nt x,[]):=by
 unfold opL at h
 grind [nD,Int.toNat_of_nonneg]
theorem zaM{v}{z}(h:opR v=some z):∃x,v=mH x/\z=(Nt x,[]):=by
 unfold opR at h;split at h
 ·rename_i cs;obtain ⟨x,e,rfl⟩:=zbA h;refine ⟨x,?_,rfl⟩;exact congrArg _ (Array.ext' e)
 cases h
def WfN(k:WG):Prop:=(Lit.int .i64 k.1).wf=true/\(Lit.int .i64 k.2).wf=true
def Mx(k:WG):Lit:=.string (keyBytes [.int .i64 k.1,.int .i64 k.2])
section
variable {P:Program} {K I:TypeId} {f g:Field}
theorem Tf(hu:P.underlying K=some (.struct #[f,g]))(f1:f.type=I)(f2:f.offset=0)(f3:(f.name != "_")=true)(g1:g.type=I)(g2:g.offset=1)(g3:(g.name != "_")=true)(hI:P.underlying I=some (.int .i64))(cK:P.cellsOf K=2)(cI:P.cellsOf I=1)(hT:P.keyType K=true)(e)(he:P.types.size=e+1){k}(h:WfN k):keyOf P K (No k)=some (Mx k):=by
 obtain ⟨h1,h2⟩:=h
 have hf:(No k).formed P K=true:=by simp [Value.formed,No,hu,cK]
 unfold keyOf;rw [hu];dsimp only;rw [hT,hf];simp only [Bool.and_self,if_true];rw [pw hu,he];simp [No,Value.cells,cK,cI,f1,f2,f3,g1,g2,g3,tG hI,h1,h2,Mx]
end
theorem XJ:300<prog.types.size:=of_decide_eq_true zk
theorem UC:(match prog.underlying 300 with | some (.array _ _) | some (.struct _)=>true | _=>false)=true:=zk
theorem lawN:Keyed prog 300:=Keyed.of_law (deep_law_laid Wa (m:=2) zj XJ zk UC)
theorem zdi:prog.keyType 300=true:=zk
theorem SS:prog.cellsOf 300=2:=zk
theorem Ed{k}(h:WfN k):keyOf prog 300 (No k)=some (Mx k):=by
 obtain ⟨e,he⟩:=II;exact Tf underlying300 rfl rfl zo rfl rfl zo underlying3 SS Cr zdi e he h
theorem Rr{a b}(ha:WfN a)(hb:WfN b)(h:a≠b):Mx a≠Mx b:=fun e=>h (UK (lawN.inj (Ed ha) (by rw [e];exact Ed hb)))
theorem zaB{k} :WideAt.IsKeyLit (Mx k):=trivial
theorem zb8{k}(h0: -2^63<=k.1)(h1:k.1<2^63)(h2: -2^63<=k.2)(h3:k.2<2^63):WfN k:=⟨QD h0 h1,QD h2 h3⟩
def U8(D:DataW Unit)(f:zdK):Prop:=∀k,WfN k->match f k with
 | none=>has D (Mx k)=false
 | some c=>∀z,D.atKey (Mx k) z=Nt c
theorem U8.Y3{D}{f}(h:U8 D f){k}(hk:WfN k)(hf:f k=none):has D (Mx k)=false:=by
 exact kk3
theorem U8.held{D}{f}(h:U8 D f){k}(hk:WfN k){c}(hf:f k=some c)(z):D.atKey (Mx k) z=Nt c:=by
 exact kk3
theorem U8.has{D}{f}(h:U8 D f){k}(hk:WfN k):Maps.has D (Mx k)=(f k).isSome:=by
 cases hf:f k with
 | none=>rw [h.Y3 hk hf];rfl
 | some p=>rw [has_true_of_atKey (h.held hk hf)];rfl
theorem U8.at{D}{f}(h:U8 D f){k}(hk:WfN k):D.atKey (Mx k) (Nt lQ)=Nt ((f k).getD lQ):=by
 cases hf:f k with
 | none=>rw [atKey_of_not_has (h.Y3 hk hf)];rfl
 | some p=>rw [h.held hk hf];rfl
theorem Mf{D}{f}(h:U8 D f)(hD:IsMap D){k}(hk:WfN k)(c):U8 (D.put (Mx k) (Nt c)) (fun x=>if x=k then some c else f x):=by
 intro x hx;dsimp only;by_cases e:x=k
 ·simp_all [if_pos,atKey_put_same,zaB]
 rw [if_neg e]
 cases hf:f x with
 | none=>rw [has_put_other (Rr hx hk e)];exact h.Y3 hx hf
 | some q=>intro z;rw [atKey_put_other (Rr hx hk e)];exact h.held hx hf z
def L3(w:qW)(b n:Nat)(f:zdK):Prop:=∃D,w.ownsMap prog 300 opR b n D/\U8 D f
theorem L3.lt{w}{b n}{f}(h:L3 w b n f):b<w.heap.size:=by
 obtain ⟨D,h,_⟩:=h;exact h.lt
theorem L3.same{w w'}{b n}{f}(h:L3 w b n f)(e:w'.heap[b]? =w.heap[b]?):L3 w' b n f:=by
 exact ko2
theorem Jo(w:qW):L3 (w.alloc (.map #[] 0)) w.heap.size 0 noN:=
 ⟨_,YY w prog 300 opR,fun _ _=>rfl⟩
theorem zb4(w):(zeroValue 88).run prog w= .ok (mH lQ) w:=zeroValue88 w
theorem L3.A{w}{b n}{f}(h:L3 w b n f){k}(hk:WfN k):
  (Instr.lookup 297 (.map (some b)) (No k) true).run prog w= .ok (.tuple #[mH ((f k).getD lQ),.bool (f k).isSome]) w:=by
 obtain ⟨D,h,r⟩:=h;obtain ⟨v,ps,ae,hv⟩:=h.look_ok lawN underlying297 (zb4 w) (XX lQ) (Ed hk);obtain ⟨p,rfl,hp⟩:=zaM hv;rw [r.at hk,Prod.mk.injEq] at hp;rw [ae,r.has hk,Un hp.1]
theorem L3.store{w}{b n}{f}(h:L3 w b n f)(hn:n<maxLen){k}(hk:WfN k)(c):
  ∃w',(Instr.mapUpdate 297 (.map (some b)) (No k) (mH c)).run prog w= .ok () w'/\L3 w' b (n+1) (fun x=>if x=k then some c else f x)/\w.mapTurned w' b:=by
 obtain ⟨D,h,r⟩:=h;obtain ⟨w',ae,h',ht⟩:=h.store lawN underlying297 hn (Ed hk) (XX c);exact ⟨w',ae,⟨_,h',Mf r h.isMap hk c⟩,ht⟩
end
section
section
section
variable {P:Program} {ops:Array Oper} {Q:Exit→Act→World→Prop} {md:Region.Mode} {S:World→Prop} {z:Nat}
def FD(md:Region.Mode)(ops:Array Oper)(z i:Nat):Bool:=match ops[z]? with
 | some oz=>oz.after.any fun e=>Region.binds md e &&e.on==i
 | none=>false
theorem Hf{i}(h:FD md ops z i=true){oz}(hz:ops[z]? =some oz):∃e∈oz.after,Region.binds md e=true/\e.on=i:=by
 unfold FD at h
 grind
def nF(P:Program)(md:Region.Mode)(ops:Array Oper)(Q:Exit->Act->World->Prop)(S:World->Prop)(z:Nat):Nat->Array Bool->Act->World->Prop
 | 0,listed,a,w=>Region.ready md ops listed= []/\Q .normal a w
 | fuel+1,listed,a,w=>
  (Region.ready md ops listed= []->Q .normal a w)/\
  ∀i∈Region.ready md ops listed,wpOp P ops Q i (fun a' w'=>(S w'\/(listed.setIfInBounds i true).getD z false=true)/\nF P md ops Q S z fuel (listed.setIfInBounds i true) a' w') a w
theorem Av:∀(fuel:Nat) (listed:Array Bool) (a:Act) (w:qW),nF P md ops Q S z fuel listed a w->wpAny P md ops Q fuel listed a w
 | 0,_,_,_,h=>h
 | fuel+1,_,_,_,h=>⟨h.1,fun i hi=>wpOp_mono (fun a' w' h'=>Av fuel _ a' w' h'.2) (h.2 i hi)⟩
theorem tX{i z}(h:i≠z):(l.setIfInBounds i true).getD z false=l.getD z false:=by
 simp_all
theorem wS{i z}(h:l.getD z false=true):(l.setIfInBounds i true).getD z false=true:=by
 by_cases e:i=z
 ·subst e
  have hl:i<l.size:=by
   rcases Yv i l.size with h' | h'
   ·exact h'
   simp [Array.getElem?_eq_none h'] at h
  simp [hl]
 simp_all
theorem Ai{T}{i}(jB:i≠z){oi}{v}(hi:ops[i]? =some oi)(hsel:∀(j:Nat) (o:Oper) cs b,ops[j]? =some o->o.op≠ .select cs b)
  (hQ:∀c a w,Q (.panic c) (a.put oi.dst v) w->Q (.panic c) a w) (hT:(∀w,T w)\/((∀w,S w->T w)/\FD md ops z i=true)):
  ∀(fuel:Nat) (listed:Array Bool) (a:Act) (w:qW),
   (∀j oj,ops[j]? =some oj->j≠i->listed.getD j true=false->(∀e∈oj.after,Region.binds md e=true->e.on≠i)->oi.apart ops oj=true)->
   i∈Region.ready md ops listed->YieldsIf P ops T oi v a->(S w\/listed.getD z false=true)->((∀w,T w)\/listed.getD z false=false)->
   nF P md ops Q S z fuel (listed.setIfInBounds i true) (a.put oi.dst v) w->nF P md ops Q S z (fuel+1) listed a w:=by
 have hTw:∀(listed:Array Bool) (w:qW),(S w\/listed.getD z false=true)->((∀w,T w)\/listed.getD z false=false)->T w:=fun listed w h1 h2=>by
  grind
 intro fuel
 induction fuel with
 | zero=>
  intro listed a w _ hr hy hS hz H;refine ⟨fun h=>zM,fun j hj=> ?_⟩;by_cases dD:j=i
  ·exact ko4
  have:=ready_mono hj dD;rw [H.1] at this
  cases this
 | succ fuel ih=>
  intro listed a w fW hr hy hS hz H;refine ⟨fun h=>zM,fun j hj=> ?_⟩;by_cases dD:j=i
  ·exact ko4
  have h1:=H.2 j (ready_mono hj dD);obtain ⟨hjun,oj,hoj,hall⟩:=mem_ready.1 hj
  have hnot:∀e∈oj.after,Region.binds md e=true->e.on≠i:=fun e he hb heq=>by
   have h1:=hall e he hb;have h0:=(mem_ready.1 hr).1;rw [heq] at h1
   rcases Yv i listed.size with h' | h'
   ·simp [h'] at h0 h1;rw [h0] at h1;cases h1
   simp [Array.getElem?_eq_none h'] at h1
  have hz':(∀w,T w)\/(listed.setIfInBounds j true).getD z false=false:=by
   rcases hT with hT | ⟨_,hw⟩
   ·exact .inl hT
   rcases hz with hz | hz
   ·exact .inl hz
   right;rw [tX]
   ·exact hz
   intro e;subst e;obtain ⟨x,hx,hb,ho⟩:=Hf hw hoj;exact hnot x hx hb ho
  have h2:=wpOp_putIf hoj (fW j oj hoj dD hjun hnot) (fun cs b=>hsel i oi cs b hi) (fun cs b=>hsel j oj cs b hoj) hQ hy h1
  have hfree':∀k ok,ops[k]? =some ok->k≠i->(listed.setIfInBounds j true).getD k true=false->
    (∀e∈ok.after,Region.binds md e=true->e.on≠i)->oi.apart ops ok=true:=fun k ok hk hki hun hno=>by
   refine fW k ok hk hki ?_ hno;by_cases hjk:j=k
   ·subst hjk;exact hjun
   rw [getD_set_ne true hjk] at hun;exact hun
  refine wpOp_mono (fun a' w' h3=> ?_) h2
  have hC:=h3.2.1.imp id (fun h=>by
   rw [Array.setIfInBounds_comm _ _ (Ne.symm dD),tX jB] at h
   exact h)
  refine ⟨hC,ih (listed.setIfInBounds j true) a' w' hfree' (ready_mono hr (Ne.symm dD)) h3.1 hC hz' ?_⟩
  grind [Array.setIfInBounds_comm]
theorem mS{i}(jB:i≠z)(jZ:FD md ops z i=true){oi}{v}{fuel}{listed}{a}{w}(hi:ops[i]? =some oi)
  (hs:Region.noSelect ops=true) (hf:Region.free md ops listed i=true) (hr:(Region.ready md ops listed).contains i=true) (hzl:listed.getD z false=false)
  (hQ:∀c a w,Q (.panic c) (a.put oi.dst v) w->Q (.panic c) a w) (hy:YieldsIf P ops S oi v a) (hS:S w)
  (h:nF P md ops Q S z fuel (listed.setIfInBounds i true) (a.put oi.dst v) w):nF P md ops Q S z (fuel+1) listed a w:=
 Ai jB hi (Region.noSelect_spec hs) hQ (.inr ⟨fun _ h=>h,jZ⟩) fuel listed a w (Region.free_spec hi hf) (by simpa using hr) hy (.inl hS) (.inr hzl) h
theorem lX{i}(jB:i≠z){oi}{v}{fuel}{listed}{a}{w}(hi:ops[i]? =some oi)
  (hs:Region.noSelect ops=true) (hf:Region.free md ops listed i=true) (hr:(Region.ready md ops listed).contains i=true)
  (hQ:∀c a w,Q (.panic c) (a.put oi.dst v) w->Q (.panic c) a w) (hy:YieldsIf P ops (fun _=>True) oi v a) (hS:S w)
  (h:nF P md ops Q S z fuel (listed.setIfInBounds i true) (a.put oi.dst v) w):nF P md ops Q S z (fuel+1) listed a w:=
 Ai jB hi (Region.noSelect_spec hs) hQ (.inl fun _=>trivial) fuel listed a w (Region.free_spec hi hf) (by simpa using hr) hy (.inl hS) (.inl fun _=>trivial) h
theorem mY{i}{o}{fuel}{listed}{a}{w}(hr:Region.ready md ops listed= [i])(ho:ops[i]? =some o)
  (h:∀K:Act->World->Prop,(∀a' w',(S w'\/i=z/\z<listed.size)->nF P md ops Q S z fuel (listed.setIfInBounds i true) a' w'->K a' w')->if Region.wanted o (yielded ops a.tmps)=true then Oper.wp P o a w K Q else K (a.put o.dst undef) w):nF P md ops Q S z (fuel+1) listed a w:=by
 refine ⟨fun h0=>vm,fun j hj=> ?_⟩;rw [hr] at hj;simp only [Zc] at hj;subst hj
 have:=h (fun a' w'=>(S w'\/(listed.setIfInBounds j true).getD z false=true)/\nF P md ops Q S z fuel (listed.setIfInBounds j true) a' w') (fun a' w' h1 h2=>⟨h1.imp id (fun h=>by
  obtain ⟨e,hl⟩:=h
  subst e
  simp [hl]),h2⟩)
 unfold wpOp
 grind
theorem ma{listed}{a}{w}(hr:Region.ready md ops listed= [])(h:Q .normal a w):
  ∀fuel,nF P md ops Q S z fuel listed a w
 | 0=>⟨hr,h⟩
 | _+1=>⟨fun _=>h,by rw [hr];simp⟩
theorem nT{id}{a}{w}(hm:P.follows .mixedOrders=true)(hS:S w.drew)
  (h:S w.drew->nF P .any ops Q S z ops.size (Array.replicate ops.size false) a w.drew):(Code.region id ops true).wp P Q a w:=
 wp_region_any hm (Av _ _ _ _ (h hS))
end
end
section
section
variable {P:Program} {ops:Array Oper} {Q:Exit→Act→World→Prop} {md:Region.Mode} {S:World→Prop}
theorem Ey{l n}{o:Oper}(hd:∀c,o.op≠ .defer c){a}{w}{K}(h:o.wp P a w K Q):o.wpIn (Fence.wide.inRound l) n P a w K Q:=by
 refine ⟨fun _ _=>trivial,?_⟩;have e:Oper.semAt (Fence.wide.inRound l).round a.eval o=execOp a.eval o:=Oper.semAt_some l a.eval o hd;rw [e];unfold Oper.wp at h;generalize (execOp a.eval o).run P w=r at*
 cases r with
 | ok x w'=>
  cases x<;>simp only [Oper.upon,Oper.uponIn] at h |-
  case value v=>exact h
  case skip=>exact h
  case defer d=>exact h
  case enter f args=>exact ⟨fun h=>qd,CallsIn.inRound l (callsIn_wide.2 h)⟩
  case row row args=>
   refine ⟨fun h=>qd,fun c cs _=> ?_⟩;obtain ⟨v,w'',r,s⟩:=h c cs;exact ⟨v,w'',r,stepsIn_wide.2 s⟩
 | halt x w'=>
  cases x<;>simp only [Oper.upon,Oper.uponIn] at h |-
  omega
def FK(ops:Array Oper):Bool:=ops.all fun o=>match o.op with | .defer _=>false | _=>true
theorem IY(h:FK ops=true){i:Nat}{o}(hi:ops[i]? =some o):∀c,o.op≠ .defer c:=by
 intro c e;obtain ⟨hl,he⟩:=uN.1 hi;have:=(Array.all_eq_true.1 h) i hl
 simp_all
theorem oB{l n}(hd:FK ops=true)(hno:¬LetsOut Q):∀(fuel:Nat) (listed:Array Bool) (a:Act) (w:qW),wpAny P md ops Q fuel listed a w->wpAnyIn (Fence.wide.inRound l) n P md ops Q fuel listed a w
 | 0,_,_,_,h=>h
 | fuel+1,listed,a,w,h=>by
  refine ⟨h.1,fun i hi=> ?_⟩;have h1:=h.2 i hi;unfold wpOp at h1;unfold wpOpIn
  cases ho:ops[i]? with
  | none=>
   rw [ho] at h1;exact oB hd hno fuel _ a w h1
  | some o=>
   rw [ho] at h1
   dsimp only at h1 |-
   split
   ·rename_i hw;rw [if_pos hw] at h1
    rcases h1 with h1 | h1
    ·have h2:=Ey (l:=l) (n:=n) (IY hd ho) h1;have h3:=wpOpIn_mono (F:=Fence.wide.inRound l) (n:=n) (P:=P) (ops:=ops) (Q:=Q) (i:=i) (a:=a) (w:=w) (fun a' w' h'=>oB (l:=l) (n:=n) hd hno fuel (listed.setIfInBounds i true) a' w' h') (K:=wpAny P md ops Q fuel (listed.setIfInBounds i true)) (by unfold wpOpIn;rw [ho];dsimp only;rw [if_pos hw];exact h2);unfold wpOpIn at h3;rw [ho] at h3;dsimp only at h3;rw [if_pos hw] at h3;exact h3
    simp_all
   rename_i hw;rw [if_neg hw] at h1;exact ⟨fun _ _=>trivial,oB hd hno fuel _ _ w h1⟩
theorem rh{l n id}{a}{w}(hm:P.follows .mixedOrders=true)(hd:FK ops=true)(hno:¬LetsOut Q)(hS:S w.drew)
  (h:S w.drew->wpAnyH P .any ops Q S ops.size (Array.replicate ops.size false) a w.drew):(Code.region id ops true).wpIn (Fence.wide.inRound l) n P Q a w:=
 wpIn_region_any hm (oB hd hno _ _ _ _ (wpAny_of_held _ _ _ _ (h hS)))
end
end
end
section
open RowKit Lib Go.Sort
section
variable {P:Program} {ops:Array Oper} {Q:Exit→Act→World→Prop} {md:Region.Mode} {S:World→Prop} {z:Nat}
theorem Lb{i j}{oi oj}{fuel}{listed}{a}{w}(hr:Region.ready md ops listed= [i,j])(hoi:ops[i]? =some oi)(hoj:ops[j]? =some oj)
  (h1:∀K:Act->World->Prop,(∀a' w',(S w'\/i=z/\z<listed.size)->nF P md ops Q S z fuel (listed.setIfInBounds i true) a' w'->K a' w')->if Region.wanted oi (yielded ops a.tmps)=true then Oper.wp P oi a w K Q else K (a.put oi.dst undef) w)
  (h2:∀K:Act->World->Prop,(∀a' w',(S w'\/j=z/\z<listed.size)->nF P md ops Q S z fuel (listed.setIfInBounds j true) a' w'->K a' w')->if Region.wanted oj (yielded ops a.tmps)=true then Oper.wp P oj a w K Q else K (a.put oj.dst undef) w):nF P md ops Q S z (fuel+1) listed a w:=by
 refine ⟨fun h0=>zM,fun k hk=> ?_⟩;rw [hr] at hk;simp only [uZ,ZS,or_false] at hk
 rcases hk with rfl | rfl
 ·have:=h1 (fun a' w'=>(S w'\/(listed.setIfInBounds k true).getD z false=true)/\nF P md ops Q S z fuel (listed.setIfInBounds k true) a' w') (fun a' w' h1 h2=>⟨h1.imp id (fun h=>by
   obtain ⟨e,hl⟩:=h
   subst e
   simp [hl]),h2⟩)
  unfold wpOp
  grind
 have:=h2 (fun a' w'=>(S w'\/(listed.setIfInBounds k true).getD z false=true)/\nF P md ops Q S z fuel (listed.setIfInBounds k true) a' w') (fun a' w' h1 h2=>⟨h1.imp id (fun h=>by
  obtain ⟨e,hl⟩:=h
  subst e
  simp [hl]),h2⟩)
 unfold wpOp
 grind
end
structure Ln4 (ad:qF) (w:qW):Prop where
 c1:w.cell? (qB 0)=some (.iface 437 (.pointer (some (ad 1))))
 c2:w.cell? (qB 2)=some (.iface 437 (.pointer (some (ad 2))))
 c5:w.cell? (qB 5)=some (.iface 437 (.pointer (some (ad 5))))
 c6:w.cell? (qB 6)=some (.iface 437 (.pointer (some (ad 6))))
theorem Ln4.later{ad}{w w'}(h:Ln4 ad w)(hb:qL w w'):Ln4 ad w':=
 ⟨pH hb h.c1,pH hb h.c2,pH hb h.c5,pH hb h.c6⟩
def CL(id behind:Int):Prop:=4<=id/\id<4294967300/\0<=behind/\behind<id
theorem Gz{ad}(w)(p)(id behind)(c:Nat)(hE:Ln4 ad w)(hi: -9223372036854775808<=id/\id<=9223372036854775807)(h:¬CL id behind):
  qC 227 #[qP p,qI id,qI behind,.int .u8 (c:Int)] w (qR (.iface 437 (.pointer (some (ad 2)))) w):=by
 have HE:Aside (Ln4 ad w):=hE;have cQ:0<w.heap.size:=uP w (qB _) hE.c1;by_cases h1:4<=id/\id<4294967300
 ·have fV:=Pv id w h1.1 h1.2;by_cases h2:behind<0
  ·have d2:=decide_eq_true h2;exact kb9
  have d2:=decide_eq_false h2;have d3:decide (id<=behind)=true:=decide_eq_true (by unfold CL at h;omega);exact kb9
 have fV:=zb3 id w _ _ hE.c1 cQ zj hi.1 hi.2;exact kb9
theorem Hl{ad}(w)(l9 p)(v)(L)(id behind)(c:Nat)(hE:Ln4 ad w)(hT:B6 l9 w p v L)(hL:L.length<=1000)(h:CL id behind)(hx:id∈L.map (·.1)):
  qC 227 #[qP p,qI id,qI behind,.int .u8 (c:Int)] w (qR (.iface 437 (.pointer (some (ad 6)))) w):=by
 have HE:Aside (Ln4 ad w):=hE;have HT:Aside (B6 l9 w p v L):=hT;have fV:=Pv id w h.1 h.2.1;have d2:decide (behind<0)=false:=decide_eq_false vT;have d3:decide (id<=behind)=false:=decide_eq_false vR;obtain ⟨i,hi,-,bl⟩:=Hi hx;have HI:=Lib.hid hi;go_enter func227,ntmps227;go_wp2_with fail;refine fV.mono ?_;rintro e w1 ⟨rfl,hb⟩
 have B2:Aside (∀o,qL w (w1.alloc o)):=fun o=>hb.alloc hb.size o
 go_wp2_with fail;refine (pI _ l9 p v L id (HT.o.later (B2.o _)) hL).mono ?_;rintro e w2 ⟨rfl,hb2⟩;rw [HI.o];have B3:Aside (qL w w2):=(B2.o _).trans (hb2.mono (B2.o _).size);have c6:=(HE.o.later B3.o).c6;go_wp2;go_ret;exact ⟨rfl,B3.o⟩
theorem IN{ad}(w)(l9 p)(v)(L)(id behind)(c:Nat)(hE:Ln4 ad w)(hT:B6 l9 w p v L)(hL:L.length<=1000)(h:CL id behind)(hx:id∉L.map (·.1))(h0:behind≠0)(hy:behind∉L.map (·.1)):
  qC 227 #[qP p,qI id,qI behind,.int .u8 (c:Int)] w (qR (.iface 437 (.pointer (some (ad 5)))) w):=by
 have HE:Aside (Ln4 ad w):=hE;have HT:Aside (B6 l9 w p v L):=hT;have fV:=Pv id w h.1 h.2.1;have d2:decide (behind<0)=false:=decide_eq_false vT;have d3:decide (id<=behind)=false:=decide_eq_false vR;have d4:(behind !=0)=true:=xn;have HI:=Lib.hid (sX hx);have HJ:=Lib.hid (sX hy);go_enter func227,ntmps227;go_wp2_with fail;refine fV.mono ?_;rintro e w1 ⟨rfl,hb⟩
 have B2:Aside (∀o,qL w (w1.alloc o)):=fun o=>hb.alloc hb.size o
 go_wp2_with fail;refine (pI _ l9 p v L id (HT.o.later (B2.o _)) hL).mono ?_;rintro e w2 ⟨rfl,hb2⟩;rw [HI.o];have B3:Aside (qL w w2):=(B2.o _).trans (hb2.mono (B2.o _).size);go_wp2_with fail;refine (pI _ l9 p v L behind (HT.o.later B3.o) hL).mono ?_;rintro e w3 ⟨rfl,hb3⟩;rw [HJ.o];have B4:Aside (qL w w3):=zi B3.o hb3;have c5:=(HE.o.later B4.o).c5;go_wp2;go_ret;exact ⟨rfl,B4.o⟩
theorem zba{w:qW}{l9 n k}{v}{e}{xs}(h:w.ownsRow l9 e k v (n+1) xs):∃g cap,v=qG g (n+1) cap:=by
 rcases h.2 with ⟨_,h2⟩ | ⟨g,cap,cur,rfl,_⟩
 ·omega
 simp_all
theorem B6.ne{l9}{w}{p}{v}{L}(h:B6 l9 w p v L):∀g,v.ownBlock=some g->g≠p/\g<w.heap.size/\l9<=g:=fun g hg=>by
 have h1:=h.row.lt g hg;have h2:=h.low;omega
theorem Dn(X)(l9 p vb k)(v)(L)(x)(hT:B6 l9 X p v L)(aj:l9<=X.heap.size)(hL:L.length<=900)(hk:k<=L.length)(fN:X.heap[vb]? =some (.cells #[qI x.1,.int .u8 (x.2.1:Int),.bool (!x.2.2)] 334 (0,0)))(hvn:some vb≠v.ownBlock):
  qC 280 #[v,qN k,qG vb 1 1] X
   fun e w'=>∃g' cap',e= .returned (qG g' (L.length+1) cap')/\w'.cell? (qB p)=some v/\w'.frozen? (qB p)=false/\Aside (w'.ownsRow l9 334 3 (qG g' (L.length+1) cap') (L.length+1) (mN Hd (L.take k++x::L.drop k))/\m7 (fun k=>some k=v.ownBlock) X w'/\(some g'=v.ownBlock\/X.heap.size<=g')/\w'.heap[p]? =some (.cells #[v] 332 (0,0))):=by
 refine (Ma X l9 L.length k v (mN Hd L) (Hd x) hT.row zj vb rfl (fun j u hj=> ?_) (Kj x) (sJ Kj L) hvn ?_ (fun j=> ?_) aj hk).mono ?_
 ·simp only [World.cell?,fN];rw [<-hj];simp [Hd]
 ·simp [World.shape?,fN]
 ·simp [World.frozen?,fN]
 rintro e w' ⟨v',rfl,ho,hkp,hv'⟩;obtain ⟨g',cap',rfl⟩:=zba ho;have hp:=hkp.block p hT.lt (fun e=>(hT.ne p e.symm).1 rfl);have dl:=hp.trans hT.cell;rw [<-Ki rF L k hk] at ho;refine ⟨g',cap',rfl,by simp [World.cell?,dl],by simp [World.frozen?,dl],ho,hkp,?_,dl⟩
 rcases hv' with e | e
 ·exact .inl e
 right
 have:g'=X.heap.size:=by simpa [Value.ownBlock] using e
 omega
theorem Lx{w wc}(hb:qL w wc)(cs)(t):∃Y,Y=(wc.alloc (.cells cs t)).drew/\qL w Y/\Y.heap[wc.heap.size]? =some (.cells cs t (0,0))/\wc.heap.size<Y.heap.size:=by
 refine ⟨_,rfl,(hb.alloc hb.size _).drew,?_,?_⟩
 ·exact heap_alloc_new wc _
 simp_all
def VQ(l9:Nat)(w:qW)(p:Nat)(v:Value)(M:List Ltr)(w':qW):Prop:=
 ∃v',B6 l9 w' p v' M/\m7 (fun k=>k=p\/some k=v.ownBlock) w w'/\(v'.ownBlock=v.ownBlock\/∀g,v'.ownBlock=some g->w.heap.size<=g)
theorem zbz{l9}{w X w5}{p k g' cap'}{v}{L M}{x}(hT:B6 l9 w p v L)(hB:qL w X)(hM:M=L.take k++x::L.drop k)(hlen:M.length=L.length+1)
  (hn:(M.map (·.1)).Nodup) (lJ:∀l∈M,l.1≠0) (fe:∀l∈M,l.2.1<256)
  (h5:w5.ownsRow l9 334 3 (qG g' (L.length+1) cap') (L.length+1) (mN Hd (L.take k++x::L.drop k))/\m7 (fun k=>some k=v.ownBlock) X w5/\(some g'=v.ownBlock\/X.heap.size<=g')/\w5.heap[p]? =some (.cells #[v] 332 (0,0))):
  VQ l9 w p v M (w5.setCell (qB p) (qG g' (L.length+1) cap')):=by
 obtain ⟨ho,hkp,hg,hp⟩:=h5;obtain ⟨w6,gj⟩:=za (w5.setCell (qB p) (qG g' (L.length+1) cap'));rw [<-gj]
 have fw:m7 (fun k=>k=p) w5 w6:=by rw [gj];exact lZ p [_] 0 w5
 have ce:=ho.lt g' rfl;have ip:=hT.low
 have kJ:w6.heap[p]? =some (.cells #[qG g' (L.length+1) cap'] 332 (0,0)):=by rw [gj];exact heap_setCell_same w5 p 0 _ _ _ hp
 have hr6:=FI (w':=w6) ho (fun g hg'=>by
  cases hg'
  exact fw.block g' ce.2 (fun e=>zj))
 have hKw:m7 (fun k=>k=p\/some k=v.ownBlock) w X:=(lW hB).mono (fun k hk e=>zj);refine ⟨_,⟨kJ,zM,hT.low,hn,lJ,fe⟩,(hKw.then hkp (fun _ _ e=>.inr e)).then fw (fun _ _ e=>.inl e),?_⟩
 rcases hg with h | h
 ·exact .inl h
 refine .inr (fun g hg=> ?_)
 have e:g'=g:=by simpa [Value.ownBlock] using hg
 have:=hB.size;omega
theorem Ni(w)(l9 p)(v)(L)(id behind)(c:Nat)(hT:B6 l9 w p v L)(aj:l9<=w.heap.size)(hL:L.length<=900)(h:CL id behind)(hc:c<256)(hx:id∉L.map (·.1))(hy:behind=0\/behind∈L.map (·.1)):
  qC 227 #[qP p,qI id,qI behind,.int .u8 (c:Int)] w fun e w'=>e= .returned .nilIface/\VQ l9 w p v (put behind (id,c,false) L) w':=by
 have HT:Aside (B6 l9 w p v L):=hT;have fV:=Pv id w h.1 h.2.1;have d2:decide (behind<0)=false:=decide_eq_false vT;have d3:decide (id<=behind)=false:=decide_eq_false vR;have HI:=Lib.hid (sX hx);have HX:Aside (id∉L.map (·.1)):=hx
 obtain ⟨bf,k,hbf,hbk,hk,hpl⟩:∃(bf:Int) (k:Nat),Aside (DD behind L=bf/\((bf= -1/\behind=0)\/0<=bf))/\IntKind.i64.wrap (bf+1)=(k:Int)/\k<=L.length/\Aside (k+ot id (L.drop k)=tV behind id L):=by
  unfold tV;by_cases h0:behind=0
  ·refine ⟨-1,0,⟨sX (fun hm=> ?_),.inl ⟨rfl,h0⟩⟩,zo,uW _,?_⟩
   ·obtain ⟨l,hl,e⟩:=Zm.1 hm;exact hT.pos l hl (by rw [e,h0])
   show _=_
   rw [if_pos h0];simp
  obtain ⟨i,hi,hf,bl⟩:=Hi (hy.resolve_left h0);refine ⟨i,i+1,⟨hi,.inr zj⟩,?_,zj,?_⟩
  ·rw [IntKind.wrap_i64];omega
  show _=_
  rw [if_neg h0,hf]
 have HM:Aside (put behind (id,c,false) L=L.take (tV behind id L)++(id,c,false)::L.drop (tV behind id L)/\(put behind (id,c,false) L).length=L.length+1/\((put behind (id,c,false) L).map (·.1)).Nodup/\(∀l∈put behind (id,c,false) L,l.1≠0)/\(∀l∈put behind (id,c,false) L,l.2.1<256)/\tV behind id L<=L.length):=by
  refine ⟨(QT hy).2,zaA hy,OA hy hT.I7 hx,fun l hl=> ?_,fun l hl=> ?_,(QT (x:=(id,c,false)) hy).1⟩
  ·rcases uZ.1 ((BE hy).mem_iff.1 hl) with rfl | hl
   ·have:=h.1;omega
   exact hT.pos l hl
  rcases uZ.1 ((BE hy).mem_iff.1 hl) with rfl | hl
  ·exact hc
  exact hT.aaq l hl
 obtain ⟨M,hM⟩:∃M,put behind (id,c,false) L=M:=⟨_,rfl⟩
 rw [hM] at HM |-
 obtain ⟨q,hq⟩:∃q,tV behind id L=q:=⟨_,rfl⟩
 rw [hq] at HM hpl;clear hM hq hT hy hx h;go_enter func227,ntmps227;go_wp2_with fail;refine fV.mono ?_;rintro e w1 ⟨rfl,hb⟩
 have B2:Aside (∀o,qL w (w1.alloc o)):=fun o=>hb.alloc hb.size o
 clear hb fV;go_wp2_with fail;refine (pI _ l9 p v L id (HT.o.later (B2.o _)) zj).mono ?_;rintro e w2 ⟨rfl,hb2⟩;rw [HI.o];have B3:Aside (qL w w2):=(B2.o _).trans (hb2.mono (B2.o _).size);clear hb2 B2;go_wp2_with fail;refine (pI _ l9 p v L behind (HT.o.later B3.o) zj).mono ?_;rintro e w3 ⟨rfl,hb3⟩;rw [hbf.o.1];have B4:Aside (qL w w3):=zi B3.o hb3;clear hb3 B3;go_upto_region 7 with fail;go_cut [42] (fun s42 wx=>s42= .bool false/\wx=w3)
 case first=>
  rcases hbf.o.2 with ⟨rfl,rfl⟩ | hp
  ·go_wp2;go_meet;exact kh6
  have dp:decide (bf<0)=false:=decide_eq_false zj;go_wp2;go_meet;exact kh6
 obtain ⟨rfl,rfl⟩:=hcut;go_upto_region 9 with fail;have hpc:=KA wc.drew l9 p k v L id (HT.o.later B4.o.drew) zj hk HX.o;rw [hpl.o] at hpc;obtain ⟨Y,hY,BY,hYb,hYs⟩:=Lx B4.o #[qI id,.int .u8 (c:Int),.bool true] 334;have hpy:=KA Y l9 p k v L id (HT.o.later BY) zj hk HX.o;rw [hpl.o] at hpy;have fG:=(HT.o.later B4.o.drew).c0;refine nT (S:=fun w'=>w'.cell? (qB p)=some v) (z:=17) zk fG (fun aa=> ?_);refine lX (i:=0) (v:= ?v0) zo rfl zk zk zk (fun _ _ _ h=>h) (Or.inl ⟨zt,?hy0⟩) aa ?rest0
 case hy0=>(intro w' _;go_simp;try with_reducible rfl)
 refine qn ?_;refine lX (i:=1) (v:= ?v1) zo rfl zk zk zk (fun _ _ _ h=>h) (Or.inl ⟨zt,?hy1⟩) aa ?rest1
 case hy1=>(intro w' _;go_simp;try with_reducible rfl)
 refine qn ?_;refine lX (i:=2) (v:= ?v2) zo rfl zk zk zk (fun _ _ _ h=>h) (Or.inl ⟨zt,?hy2⟩) aa ?rest2
 case hy2=>(intro w' _;go_simp;try with_reducible rfl)
 refine qn ?_;refine lX (i:=3) (v:= ?v3) zo rfl zk zk zk (fun _ _ _ h=>h) (Or.inl ⟨zt,?hy3⟩) aa ?rest3
 case hy3=>(intro w' _;go_simp;try with_reducible rfl)
 refine qn ?_;refine mS (i:=4) (v:= ?v4) zo zk rfl zk zk zk zk (fun _ _ _ h=>h) (Or.inl ⟨zt,?hy4⟩) aa ?rest4
 case hy4=>(intro w' ab;go_simp;try with_reducible rfl)
 refine qn ?_;refine lX (i:=5) (v:= ?v5) zo rfl zk zk zk (fun _ _ _ h=>h) (Or.inl ⟨zt,?hy5⟩) aa ?rest5
 case hy5=>(intro w' _;go_simp;try with_reducible rfl)
 refine qn ?_;refine lX (i:=6) (v:= ?v6) zo rfl zk zk zk (fun _ _ _ h=>h) (Or.inl ⟨zt,?hy6⟩) aa ?rest6
 case hy6=>(intro w' _;go_simp;try with_reducible rfl)
 refine qn ?_;refine lX (i:=7) (v:= ?v7) zo rfl zk zk zk (fun _ _ _ h=>h) (Or.inl ⟨zt,?hy7⟩) aa ?rest7
 case hy7=>(intro w' _;go_simp;try with_reducible rfl)
 refine qn ?_;refine lX (i:=8) (v:= ?v8) zo rfl zk zk zk (fun _ _ _ h=>h) (Or.inl ⟨zt,?hy8⟩) aa ?rest8
 case hy8=>(intro w' _;go_simp;try with_reducible rfl)
 refine qn ?_;refine lX (i:=10) (v:= ?v10) zo rfl zk zk zk (fun _ _ _ h=>h) (Or.inl ⟨zt,?hy10⟩) aa ?rest10
 case hy10=>(intro w' _;go_simp;try with_reducible rfl)
 refine qn ?_;refine lX (i:=11) (v:= ?v11) zo rfl zk zk zk (fun _ _ _ h=>h) (Or.inl ⟨zt,?hy11⟩) aa ?rest11
 case hy11=>(intro w' _;go_simp;try with_reducible rfl)
 refine qn ?_;refine lX (i:=12) (v:= ?v12) zo rfl zk zk zk (fun _ _ _ h=>h) (Or.inl ⟨zt,?hy12⟩) aa ?rest12
 case hy12=>(intro w' _;go_simp;try with_reducible rfl)
 refine qn ?_;refine Lb (i:=9) (j:=13) zk rfl rfl (fun K hK=> ?pa) (fun K hK=> ?al)
 case pa=>
  go_simp;refine hpc.mono ?_;rintro e w4 ⟨rfl,hb4⟩;have B5:=zi B4.o.drew hb4;refine hK _ _ (.inl (HT.o.later B5).c0) ?_;clear hK K;refine qn ?_;obtain ⟨X,hX⟩:=za (w4.alloc (.cells #[qI id,.int .u8 (c:Int),.bool true] 334))
  have BX:qL w X:=by rw [hX];exact B5.alloc B5.size _
  have TX:Aside (B6 l9 X p v L/\qL w X):=⟨HT.o.later BX,BX⟩
  have hlay:=Dn X l9 p w4.heap.size q v L (id,c,false) TX.o.1 (by have:=BX.size;omega) hL HM.o.2.2.2.2.2 (by rw [hX];exact heap_alloc_new w4 _) (fun e=>by have h1:=((HT.o.later B5).ne _ e.symm).2.1;omega);refine mY (i:=13) zk rfl (fun K hK=> ?_);go_simp;rw [<-hX];refine hK _ _ (.inl TX.o.1.c0) ?_;clear hK K hX;refine qn ?_;refine mY (i:=14) zk rfl (fun K hK=> ?_);go_simp;refine hlay.mono ?_;rintro e w5 ⟨g',cap',rfl,u1,u2,H5⟩;refine hK _ _ (.inl u1) ?_;clear hK K;refine qn ?_;refine lX (i:=15) (v:= ?v15) zo rfl zk zk zk (fun _ _ _ h=>h) (Or.inl ⟨zt,?hy15⟩) u1 ?rest15
  case hy15=>(intro w' _;go_simp;try with_reducible rfl)
  refine qn ?_;refine lX (i:=16) (v:= ?v16) zo rfl zk zk zk (fun _ _ _ h=>h) (Or.inl ⟨zt,?hy16⟩) u1 ?rest16
  case hy16=>(intro w' _;go_simp;try with_reducible rfl)
  exact kc8
 case al=>
  go_simp;rw [<-hY];refine hK _ _ (.inl (HT.o.later BY).c0) ?_;clear hK K hY;refine qn ?_;refine mY (i:=9) zk rfl (fun K hK=> ?_);go_simp;refine hpy.mono ?_;rintro e X ⟨rfl,hbX⟩;have BX:=zi BY hbX
  have TX:Aside (B6 l9 X p v L/\qL w X):=⟨HT.o.later BX,BX⟩
  have hlay:=Dn X l9 p wc.heap.size q v L (id,c,false) TX.o.1 (by have:=BX.size;omega) hL HM.o.2.2.2.2.2 ((hbX.block _ hYs).trans hYb) (fun e=>by have h1:=((HT.o.later B4.o).ne _ e.symm).2.1;omega);refine hK _ _ (.inl TX.o.1.c0) ?_;clear hK K;refine qn ?_;refine mY (i:=14) zk rfl (fun K hK=> ?_);go_simp;refine hlay.mono ?_;rintro e w5 ⟨g',cap',rfl,u1,u2,H5⟩;refine hK _ _ (.inl u1) ?_;clear hK K;refine qn ?_;refine lX (i:=15) (v:= ?vb15) zo rfl zk zk zk (fun _ _ _ h=>h) (Or.inl ⟨zt,?hyb15⟩) u1 ?restb15
  case hyb15=>(intro w' _;go_simp;try with_reducible rfl)
  refine qn ?_;refine lX (i:=16) (v:= ?vb16) zo rfl zk zk zk (fun _ _ _ h=>h) (Or.inl ⟨zt,?hyb16⟩) u1 ?restb16
  case hyb16=>(intro w' _;go_simp;try with_reducible rfl)
  exact kc8
theorem zcQ:(prog.info? 5).map (fun i=>(i.zero,i.size,i.bytes))=some (some (.int .u8 0),1,1):=zk
def tW(l:qU):List Value:=l.map fun c=>.int .u8 (c.toNat:Int)
theorem Eb(a b):tW (a++b)=tW a++tW b:=by simp [tW]
theorem EC{w}{l9}{v}{n}{l}(h:w.ownsRow l9 5 1 v n (tW l))(hl:l.length=n):
  Sem.run prog (convert 141 9 v) w= .ok (.string ⟨l.toArray⟩) w:=by
 rcases Nat.eq_zero_or_pos n with h0 | h0
 ·have cU:l= []:=Zi.1 zj;subst cU
  rcases h.2 with ⟨hv,_⟩ | ⟨g,cap,cur,hv,_⟩
  ·exact kl3
  grind [run_convert_bytes_back,underlying141,underlying5,underlying9]
 obtain ⟨g,cap,rfl⟩:∃g cap,v=qG g n cap:=by
  rcases h.2 with ⟨_,h2⟩ | ⟨g,cap,cur,hv,_⟩
  ·omega
  exact ⟨g,cap,hv⟩
 have hc:=h.cells (g:=g) rfl
 grind [run_convert_bytes_back,underlying141,underlying5,underlying9,tW,uL]
def rA(L:List Ltr):qU:=(nX L).map fun l=>UInt8.ofNat l.2.1
theorem DV{k}{l:Ltr}(h:L[k]? =some l):nX (L.take (k+1))=nX (L.take k)++(if l.2.2 then [] else [l]):=by
 unfold nX;rw [ZF,h,Yc]
 grind
theorem Mv{k:Nat}{a}{c}{g}(h:L[k]? =some (a,c,g)):rA (L.take (k+1))=rA (L.take k)++(if g then [] else [UInt8.ofNat c]):=by
 grind [rA,DV]
theorem wP(L):(rA L).length<=L.length:=by
 grind [rA,nX,Zj,Yi]
theorem TU(w)(l9 p)(v)(L)(h:B6 l9 w p v L)(hL:L.length<=1000):
  qC 182 #[qP p] w (qR (.string ⟨(rA L).toArray⟩) w):=by
 obtain ⟨i0,hi,aD,aw,aJ⟩:=info_parts zcQ;obtain ⟨ao,cap,rfl⟩:=wJ h.row;have c0:=h.c0
 have HI:Aside (Q2 w ao L/\∀l∈L,l.2.1<256):=⟨Dj h.row,h.aaq⟩
 go_enter func182,ntmps182;go_wp2;go_loopg [3,11] L.length (fun kx s3 iP wr=>∃(k:Nat) (ov:Value),ov=s3/\iP=qN k/\k<=L.length/\L.length - k<=kx/\Aside (wr.ownsRow w.heap.size 5 1 ov (rA (L.take k)).length (tW (rA (L.take k)))/\qL w wr))
 case atStart=>exact ⟨0,_,rfl,rfl,uW _,uM _,⟨Zk _ _ _ _,uO _ w⟩⟩
 case round=>
  obtain ⟨k,ov,rfl,rfl,hk,aY,A⟩:=hrel;by_cases hlt:k<L.length
  ·have aq:qlt k L.length=true:=by simp;omega
   have ek:((k:Int)).toNat=k:=zj;have pk:(0:Int)<=(k:Int):=zj;have bk:(k:Int)<(L.length:Int):=zj
   obtain ⟨⟨a,c,gn⟩,hl⟩:∃l,Aside (L[k]? =some l):=⟨L[k],uL hlt⟩
   obtain ⟨blk,off,rfl,f0,f1,f2⟩:=(HI.o.1.later A.o.2).at hl.o;have HN:=Lib.hid (Mv hl.o);have hc256:c<256:=HI.o.2 _ (uR hl.o)
   obtain ⟨T,hT⟩:∃T,Aside (rA (L.take k)=T):=⟨_,rfl⟩
   have A':Aside (wr.ownsRow w.heap.size 5 1 ov T.length (tW T)/\qL w wr):=by have:=A.o;rw [hT.o] at this;exact this
   have hTl:T.length<=1000:=by have:=wP (L.take k);rw [hT.o,Zp] at this;omega
   obtain ⟨u,hu⟩:=za wr;subst hu
   cases gn with
   | true=>
    have f2':u.cell? (qA blk (off+k*3+2))=some (.bool false):=f2;go_wp2;go_roundg (L.length - (k+1))
    case measure=>omega
    case rel=>
     refine ⟨k+1,_,rfl,zJ,zj,uM _,?_⟩
     have e:rA (L.take (k+1))=T:=by rw [HN.o,hT.o];simp
     rw [e];exact ⟨A'.o.1.alloc _,A'.o.2.alloc A'.o.2.size _⟩
   | false=>
    have f2':u.cell? (qA blk (off+k*3+2))=some (.bool true):=f2
    obtain ⟨cb,hcb⟩:∃cb:UInt8,Aside (UInt8.ofNat c=cb):=⟨_,rfl⟩
    have hcn:(c:Int)=(cb.toNat:Int):=by rw [<-hcb.o];simp;omega
    rw [hcn] at f1;go_wp2_with (at_builtin;refine wpList_append_own _ rfl _ _ 141 rfl w.heap.size 5 i0 _ 1 1 underlying141 hi aD aw aJ rfl zj _ _ _ rfl ((A'.o.1.alloc _).alloc _) (qB (u.heap.size+1)) 1 1 [.int .u8 (cb.toNat:Int)] rfl ?qb1 ?qb2 ?qb3 ?qb4 ?qb5 ?qb6 ?_)
    case qb1=>rfl
    case qb2=>exact YJ (cs:= #[.int .u8 (cb.toNat:Int)]) (t:=5) (fr:=(0,0)) (by
     have:=heap_alloc_new (u.alloc (.cells #[qI a,.int .u8 (cb.toNat:Int),.bool true] 334)) (.cells #[.int .u8 (cb.toNat:Int)] 5)
     rwa [Zv] at this)
    case qb3=>simp [Value.oneCell']
    case qb4=>simp only [maxLen];omega
    case qb5=>omega
    case qb6=>have:=A'.o.2.size;simp;omega
    intro v2 u2 hown ag hnil
    have W1:=(A'.o.2.alloc A'.o.2.size (.cells #[qI a,.int .u8 (cb.toNat:Int),.bool true] 334))
    have W2:=(W1.alloc W1.size _).grown ag (by have:=A'.o.2.size;simp;omega) (fun k hk=>(A'.o.1.lt k hk).1)
    have R2:Aside (u2.ownsRow w.heap.size 5 1 v2 (rA (L.take (k+1))).length (tW (rA (L.take (k+1))))/\qL w u2):=by
     have e:rA (L.take (k+1))=T++ [cb]:=by rw [HN.o,hT.o,<-hcb.o];rfl
     rw [e,Eb,uS];exact ⟨hown,W2⟩
    go_wp2;go_roundg (L.length - (k+1))
    case measure=>omega
    case rel=>exact ⟨k+1,_,rfl,zJ,zj,uM _,R2⟩
  have aq:qlt k L.length=false:=zl;have ek:L.take k=L:=Zl zj;rw [ek] at A;have i7:=EC A.o.1 rfl;go_wp2;go_ret;exact ⟨rfl,A.o.2⟩
theorem JG{ad}(w)(l9 p)(v)(L)(id)(hE:Ln4 ad w)(hT:B6 l9 w p v L)(hL:L.length<=1000)(hx:id∉L.map (·.1)):
  qC 228 #[qP p,qI id] w (qR (.iface 437 (.pointer (some (ad 5)))) w):=by
 have HE:Aside (Ln4 ad w):=hE;have hf:=pI w l9 p v L id hT hL;rw [sX hx] at hf;go_enter func228,ntmps228;go_wp2_with fail;refine hf.mono ?_;rintro e w1 ⟨rfl,hb1⟩;have B1:Aside (qL w w1):=hb1;have c5:=(HE.o.later hb1).c5;go_wp2;go_ret;exact ⟨rfl,B1.o⟩
theorem Ol(w)(l9 p i)(v)(L)(id)(hT:B6 l9 w p v L)(hL:L.length<=1000)(hf:oP id L=some i):
  qC 228 #[qP p,qI id] w fun e w'=>e= .returned .nilIface/\B6 l9 w' p v (L.set i (id,0,true))/\m7 (fun k=>some k=v.ownBlock) w w':=by
 obtain ⟨⟨a,c,gn⟩,hl,rfl⟩:=oI hf;have bl:=(uK.1 hl).1;have hfa:=pI w l9 p v L a hT hL;rw [show DD a L=(i:Int) by unfold DD;rw [hf]] at hfa;obtain ⟨ao,cap,rfl⟩:=wJ hT.row
 obtain ⟨g,rfl⟩:∃g,ao=some (qB g):=by
  rcases hT.row.2 with ⟨_,h2⟩ | ⟨g,cap',cur,hv,_⟩
  ·omega
  cases hv;exact ⟨g,rfl⟩
 have HT:Aside (B6 l9 w p (qG g L.length cap) L):=hT;have HL:Aside (L[i]? =some (a,c,gn)):=hl;have d0:decide ((i:Int)<0)=false:=zq;have ei:((i:Int)).toNat=i:=zj;have bi:(i:Int)<(L.length:Int):=zj;have pi:(0:Int)<=(i:Int):=zj;go_enter func228,ntmps228;go_wp2_with fail;refine hfa.mono ?_;rintro e w1 ⟨rfl,hb1⟩
 have H1:Aside (B6 l9 w1 p (qG g L.length cap) L/\qL w w1):=⟨HT.o.later hb1,hb1⟩
 have c0:=H1.o.1.c0;obtain ⟨blk,off,hbo,f0,f1,f2⟩:=(Dj H1.o.1.row).at HL.o
 have hoff:blk=g/\off=0:=by
  rcases Dj H1.o.1.row with h | ⟨b',o',h1,_⟩
  ·rw [h] at bl;simp at bl
  simp only [Option.some.injEq,Addr.mk.injEq,and_true] at hbo;omega
 obtain ⟨rfl,rfl⟩:=hoff;rw [Ze] at f0 f1 f2
 have z0:∀j,w1.frozen? (qA blk j)=false:=fun j=>H1.o.1.row.frozenAt j
 have hne:=(H1.o.1.ne blk rfl).1
 have iO:Aside (B6 l9 (w1.setCells blk (i*3) [qI a,.int .u8 0,.bool false]) p (qG blk L.length cap) (L.set i (a,0,true))/\m7 (fun k=>some k=some blk) w (w1.setCells blk (i*3) [qI a,.int .u8 0,.bool false])):=by
  have hkp:=lZ blk [qI a,.int .u8 0,.bool false] (i*3) w1;have cO:=H1.o.1.row
  have hself:L.set i (a,c,gn)=L:=by
   have h:=List.set_getElem_self bl;rw [(uK.1 HL.o).2] at h;exact h
  have e1:mN Hd L=(mN Hd L).take (i*3)++Hd (a,c,gn)++(mN Hd L).drop ((i+1)*3):=by
   rw [<-Bt rF L i bl (a,c,gn),hself]
  have e2:=Bt rF L i bl (a,0,true)
  have el:((mN Hd L).take (i*3)).length=i*3:=by rw [Zp,mv rF];omega
  rw [e1] at cO;have ho:=Hu (vs:=[qI a,.int .u8 0,.bool false]) cO rfl;rw [el] at ho
  have hm:∀l∈L.set i (a,0,true),l∈L\/l=(a,0,true):=fun l hl=>List.mem_or_eq_of_mem_set hl
  refine ⟨⟨(hkp.block p H1.o.1.lt (fun e=>hne e.symm)).trans H1.o.1.cell,?_,H1.o.1.low,?_,fun l hl=> ?_,fun l hl=> ?_⟩,?_⟩
  ·rw [YN,e2];exact ho
  ·rw [zbD HL.o];exact H1.o.1.I7
  ·rcases hm l hl with h | rfl
   ·exact H1.o.1.pos l h
   exact H1.o.1.pos (a,c,gn) (uR HL.o)
  ·rcases hm l hl with h | rfl
   ·exact H1.o.1.aaq l h
   show 0<256
   omega
  exact ((lW H1.o.2).mono (fun k hk e=>zj)).then hkp (fun k _ e=>by rw [e])
 go_wp2;go_ret;exact ⟨rfl,iO.o⟩
def atL(n:Int)(L:List Ltr):Int×Bool:=if 0<=n then (match (nX L)[n.toNat]? with
 | some l=>(l.1,true)
 | none=>(0,false)) else (0,false)
theorem zbo{n}{L}{k}{l}(h:L[k]? =some l)(hg:l.2.2=false)(hn:n=((nX (L.take k)).length:Int)):atL n L=(l.1,true):=by
 have hk:=(uK.1 h).1
 have e:nX L=nX (L.take (k+1))++nX (L.drop (k+1)):=by
  unfold nX;rw [<-Yc,ZA]
 simp_all [atL,if_pos,Int.toNat_natCast,DV]
theorem TC{n}{L}(h:∀j:Nat,j<(nX L).length->n≠(j:Int)):atL n L=(0,false):=by
 grind [atL,List.getElem?_eq_none]
theorem zcU(w)(l9 p)(v)(L)(n)(h:B6 l9 w p v L)(hL:L.length<=1000)(hn: -9223372036854775808<=n/\n<=9223372036854775807):
  qC 324 #[qP p,qI n] w (qR (.tuple #[qI (atL n L).1,.bool (atL n L).2]) w):=by
 obtain ⟨ao,cap,rfl⟩:=wJ h.row;have c0:=h.c0;have HI:Aside (Q2 w ao L):=Dj h.row
 obtain ⟨r1,r2,hr⟩:∃r1 r2,Aside (atL n L=(r1,r2)):=⟨_,_,rfl⟩
 rw [hr.o]
 show Calls _ _ _ _ (qR (.tuple #[qI r1,.bool r2]) w)
 go_enter func324,ntmps324;go_wp2;go_loopg [1,13] L.length (fun kx s1 gO wr=>∃(k:Nat) (m:Int),s1=qI m/\gO=qN k/\k<=L.length/\L.length - k<=kx/\Aside (m=IntKind.i64.wrap (n - ((nX (L.take k)).length:Int))/\(∀j:Nat,j<(nX (L.take k)).length->n≠(j:Int))/\qL w wr))
 case atStart=>exact ⟨0,_,rfl,rfl,uW _,uM _,⟨by rw [IntKind.wrap_i64];simp [nX];omega,fun j hj=>by simp [nX] at hj,uO _ w⟩⟩
 case round=>
  obtain ⟨k,m,rfl,rfl,hk,aY,A⟩:=hrel;by_cases hlt:k<L.length
  ·have aq:qlt k L.length=true:=by simp;omega
   have ek:((k:Int)).toNat=k:=zj;have pk:(0:Int)<=(k:Int):=zj;have bk:(k:Int)<(L.length:Int):=zj
   obtain ⟨⟨a,c,gn⟩,hl⟩:∃l,Aside (L[k]? =some l):=⟨L[k],uL hlt⟩
   obtain ⟨blk,off,rfl,f0,f1,f2⟩:=(HI.o.later A.o.2.2).at hl.o;have HN:=Lib.hid (DV hl.o)
   have HS:=Lib.hid (show (nX (L.take k)).length<=1000 by
    have:(nX (L.take k)).length<=(L.take k).length:=Yi _ _
    rw [Zp] at this;omega)
   obtain ⟨u,hu⟩:=za wr;subst hu
   have HB:Aside (∀o,qL w (u.alloc o)):=fun o=>A.o.2.2.alloc A.o.2.2.size o
   cases gn with
   | true=>
    have f2':u.cell? (qA blk (off+k*3+2))=some (.bool false):=f2;go_wp2;go_roundg (L.length - (k+1))
    case measure=>omega
    case rel=>
     have e:nX (L.take (k+1))=nX (L.take k):=by rw [HN.o];simp
     exact ⟨k+1,m,rfl,zJ,zj,uM _,⟨by rw [e];exact A.o.1,by rw [e];exact A.o.2.1,HB.o _⟩⟩
   | false=>
    have f2':u.cell? (qA blk (off+k*3+2))=some (.bool true):=f2;by_cases hm:m=0
    ·have dm:(m==0)=true:=by simp [hm]
     have hnk:n=((nX (L.take k)).length:Int):=by
      have h1:=A.o.1;have h2:=HS.o;rw [hm,IntKind.wrap_i64] at h1;omega
     have aI:=zbo hl.o rfl hnk;rw [hr.o] at aI;have HR:=Lib.hid aI;go_wp2;go_ret2;exact ⟨by cases HR.o;rfl,HB.o _⟩
    have dm:(m==0)=false:=by simp [hm]
    have hne:n≠((nX (L.take k)).length:Int):=by
     intro e;have h1:=A.o.1;rw [e,IntKind.wrap_i64] at h1;omega
    have HNE:=Lib.hid hne;go_wp2;go_roundg (L.length - (k+1))
    case measure=>omega
    case rel=>
     have e:(nX (L.take (k+1))).length=(nX (L.take k)).length+1:=by rw [HN.o];simp
     refine ⟨k+1,_,rfl,zJ,zj,uM _,⟨?_,fun j hj=> ?_,HB.o _⟩⟩
     ·have h1:=A.o.1;have h2:=HS.o;rw [e,h1,IntKind.wrap_i64,IntKind.wrap_i64];unfold wrap64;omega
     rw [e] at hj
     rcases Yv j (nX (L.take k)).length with h | h
     ·exact A.o.2.1 j h
     obtain rfl:j=(nX (L.take k)).length:=zj;exact HNE.o
  have aq:qlt k L.length=false:=zl;have et:L.take k=L:=Zl zj;have aI:=TC (n:=n) (L:=L) (by have:=A.o.2.1;rwa [et] at this);rw [hr.o] at aI;have HR:=Lib.hid aI;go_wp2;go_ret2;exact ⟨by cases HR.o;rfl,A.o.2.2⟩
end
section
open RowKit Lib Go.Sort
open scoped Classical
def Y9(l9:Nat)(w:qW)(p:Nat)(v:Value)(M:List Ltr)(w':qW):Prop:=
 ∃v',B6 l9 w' p v' M/\m7 (fun k=>k=p\/some k=v.ownBlock) w w'/\(v'.ownBlock=v.ownBlock\/∀g,v'.ownBlock=some g->w.heap.size<=g)
theorem Y9.y{l9}{w w'}{p}{v}{L}(h:B6 l9 w p v L)(hb:qL w w'):Y9 l9 w p v L w':=
 ⟨v,h.later hb,(lW hb).mono (fun k hk e=>zj),.inl rfl⟩
theorem Y9.acH{l9}{w w'}{p}{v}{M}(h:VQ l9 w p v M w'):Y9 l9 w p v M w':=by
 obtain ⟨v',h1,h2,h3⟩:=h;exact ⟨v',h1,h2,h3⟩
def Fq(id behind:Int)(L:List Ltr):Nat:=
 if 4<=id/\id<4294967300/\0<=behind/\behind<id then (if id∈L.map (·.1) then 7 else if behind=0\/behind∈L.map (·.1) then 0 else 6) else 3
def zd2(id behind:Int)(c:Nat)(L:List Ltr):List Ltr:=if Fq id behind L=0 then put behind (id,c,false) L else L
def zei(ad:qF)(c:Nat):Value:=if c=0 then .nilIface else .iface 437 (.pointer (some (ad (c - 1))))
theorem MW{ad}(w)(l9 p)(v)(L)(id behind)(c:Nat)(hE:Ln4 ad w)(hT:B6 l9 w p v L)(aj:l9<=w.heap.size)(hL:L.length<=900)(hi: -9223372036854775808<=id/\id<=9223372036854775807)(hc:c<256):
  qC 227 #[qP p,qI id,qI behind,.int .u8 (c:Int)] w fun e w'=>e= .returned (zei ad (Fq id behind L))/\Y9 l9 w p v (zd2 id behind c L) w':=by
 unfold zd2 Fq;by_cases h1:4<=id/\id<4294967300/\0<=behind/\behind<id
 ·rw [if_pos h1];by_cases h2:id∈L.map (·.1)
  ·rw [if_pos h2,if_neg zj];refine (Hl w l9 p v L id behind c hE hT zj h1 h2).mono ?_;exact kh9
  rw [if_neg h2];by_cases h3:behind=0\/behind∈L.map (·.1)
  ·rw [if_pos h3,if_pos rfl];refine (Ni w l9 p v L id behind c hT aj hL h1 hc h2 h3).mono ?_;rintro e w' ⟨rfl,hp⟩;exact ⟨rfl,Y9.acH hp⟩
  rw [if_neg h3,if_neg zj];refine (IN w l9 p v L id behind c hE hT zj h1 h2 (fun e=>h3 (.inl e)) (fun e=>h3 (.inr e))).mono ?_;exact kh9
 rw [if_neg h1,if_neg zj];refine (Gz w p id behind c hE hi h1).mono ?_;exact kh9
def XZ(id:Int)(L:List Ltr):Nat:=match oP id L with
 | none=>6
 | some _=>0
def zdv(id:Int)(L:List Ltr):List Ltr:=match oP id L with
 | none=>L
 | some i=>L.set i (id,0,true)
theorem Le{ad}(w)(l9 p)(v)(L)(id)(hE:Ln4 ad w)(hT:B6 l9 w p v L)(hL:L.length<=1000):
  qC 228 #[qP p,qI id] w fun e w'=>e= .returned (zei ad (XZ id L))/\Y9 l9 w p v (zdv id L) w':=by
 unfold XZ zdv
 cases hf:oP id L with
 | none=>
  refine (JG w l9 p v L id hE hT hL (fun hm=> ?_)).mono ?_
  ·obtain ⟨l,hl,e⟩:=Zm.1 hm;exact An hf l hl e
  exact kh9
 | some i=>
  refine (Ol w l9 p i v L id hT hL hf).mono ?_;rintro e w' ⟨rfl,h1,h2⟩;exact ⟨rfl,v,h1,h2.mono (fun k _ e=>.inr e),.inl rfl⟩
end
section
open RowKit Maps
def x9(w:qW)(b:Nat)(p:Plc):Prop:=w.heap[b]? =some (.cells #[qI p.1,qI p.2.1,.string p.2.2] 212 (0,0))
theorem x9.lt{w}{b}{p}(h:x9 w b p):b<w.heap.size:=(uN.1 h).1
theorem x9.c0{w}{b}{p}(h:x9 w b p):w.cell? (qB b)=some (qI p.1):=qV
theorem x9.c1{w}{b}{p}(h:x9 w b p):w.cell? (qA b 1)=some (qI p.2.1):=qV
theorem x9.c2{w}{b}{p}(h:x9 w b p):w.cell? (qA b 2)=some (.string p.2.2):=qV
theorem x9.fz{w}{b}{p}(h:x9 w b p)(o):w.frozen? (qA b o)=false:=by unfold x9 at h;simp [World.frozen?,h]
theorem x9.same{w w'}{b}{p}(h:x9 w b p)(e:w'.heap[b]? =w.heap[b]?):x9 w' b p:=e.trans h
theorem x9.abP{w}{b}{p}(h:x9 w b p)(q):x9 (((w.setCell (qB b) (qI q.1)).setCell (qA b 1) (qI q.2.1)).setCell (qA b 2) (.string q.2.2)) b q:=by
 have h0:=heap_setCell_same w b 0 _ _ (qI q.1) h;have h1:=heap_setCell_same _ b 1 _ _ (qI q.2.1) h0;exact heap_setCell_same _ b 2 _ _ (.string q.2.2) h1
theorem x9.aaJ{w w'}{B b}(q:Plc)(h:Below B w w')(hb:B<=b):Below B w (((w'.setCell (qB b) (qI q.1)).setCell (qA b 1) (qI q.2.1)).setCell (qA b 2) (.string q.2.2)):=
 ((h.setCell (p:=(qB b)) hb _).setCell (p:=(qA b 1)) hb _).setCell (p:=(qA b 2)) hb _
theorem sE.m8{w w'}{b n}{f}(h:sE prog 3 w b n f){B}(hb:Below B w w')(hB:b<B):sE prog 3 w' b n f:=h.same (hb.block b hB)
theorem wX(w)(bt bm n)(f)(l8 of)(z)(hz:z=true↔Ins f l8 of)(ht:w.cell? (qB bt)=some (.map (some bm)))(hm:sE prog 3 w bm n f)(G:AV f)(hk:Wf l8):
  qC 143 #[qP bt,qI l8,qI of] w (qR (.bool z) w):=by
 have hbt:bt<w.heap.size:=block_lt_of_cell ht;obtain ⟨d,hd⟩:=G.abS;have hl:=hm.looks hk;unfold pS at hl;go_enter func143,ntmps143;go_wp2;obtain ⟨w0,hw0⟩:=za (w.alloc (.cells #[qI ((f l8).getD mM).1,qI ((f l8).getD mM).2.1,.string ((f l8).getD mM).2.2] 212))
 have iT:x9 w0 w.heap.size ((f l8).getD mM):=by rw [hw0];exact heap_alloc_new w _
 have hb0:qL w w0:=by rw [hw0];exact zh w _
 rw [<-hw0];clear hw0 hl;go_loopg [7,8] (d l8+1) (fun kx s7 s8 wr=>∃(b7:Nat) (cur:Int),s7=qP b7/\s8= .bool (f cur).isSome/\w.heap.size<=b7/\x9 wr b7 ((f cur).getD mM)/\Wf cur/\(Ins f cur of↔Ins f l8 of)/\qL w wr/\(∀p,f cur=some p->d cur<kx))
 case atStart=>exact ⟨w.heap.size,l8,rfl,rfl,uM _,iT,hk,Iff.rfl,hb0,fun _ _=>Nat.lt_succ_self _⟩
 case round=>
  obtain ⟨b7,cur,rfl,rfl,hb7,hp,hkc,hi,hb,aY⟩:=hrel;clear iT hb0 w0;have gF:=(hb.cell (p:=(qB bt)) hbt).trans ht;have hm1:=hm.m8 hb hm.lt
  cases hf:f cur with
  | none=>
   have hno:z=false:=by
    cases z with
    | false=>rfl
    | true=>exact absurd (hi.2 (hz.1 rfl)) (FE hf)
   subst hno;rw [hf] at hp;simp only [YB];go_wp2;go_ret;exact ⟨rfl,hb⟩
  | some p=>
   rw [hf] at hp;simp only [YC];have hc1:wr.cell? (qA b7 1)=some (qI p.2.1):=hp.c1;by_cases he:p.2.1=of
   ·have hyes:=hz.2 (hi.1 ((FB hf).2 (.inl he)));subst hyes;have q0:=decide_eq_true he;go_wp2;go_ret;exact ⟨rfl,hb⟩
   have q0:=decide_eq_false he;have cC:=(tF (G.Y5 cur p hf)).2;have fB:=hp.c0;have hc2:=hp.c2;go_wp2;obtain ⟨w1,hw1⟩:=za (wr.alloc (.cells #[qI p.1,qI p.2.1,.string p.2.2] 212))
   have bR:x9 w1 wr.heap.size p:=by rw [hw1];exact heap_alloc_new wr _
   have hb1:qL w w1:=by rw [hw1];exact hb.alloc hb.size _
   have aG:=hb.size;rw [<-hw1];obtain ⟨b8,hb8⟩:=za wr.heap.size
   rw [<-hb8] at bR aG |-
   have kg:=(hb1.cell (p:=(qB bt)) hbt).trans ht;have bJ:=hm.m8 hb1 hm.lt;have ir:=bJ.looks cC;have hl3:=(show sE prog 3 w1.drew bm n f from bJ).looks cC;unfold pS at ir hl3;have d0:=bR.c0;have d1:=bR.c1;have d2:=bR.c2;have z0:=bR.fz 0;have z1:=bR.fz 1;have z2:=bR.fz 2
   have F:Aside (x9 w1 b8 p/\qL w w1/\w.heap.size<=b8/\Wf p.2.1):=⟨bR,hb1,aG,cC⟩
   clear hp fB hc1 hc2 bR hb1 bJ hm1 gF hw1 hb8 aG cC;go_region;go_wp2;go_roundg (d cur)
   case measure=>exact aY p hf
   case rel=>exact ⟨b8,p.2.1,rfl,rfl,F.o.2.2.1,F.o.1.abP _,F.o.2.2.2,(by rw [<-hi,FB hf];exact ⟨.inr,fun h=>h.resolve_left he⟩),(x9.aaJ _ F.o.2.1 F.o.2.2.1).drew,fun _ _=>hd cur p hf⟩
end
section
open Shelf RowKit Lib
theorem JD:(prog.info? 348).map (fun i=>(i.zero,i.size,i.bytes))=some (some (.agg #[qI 0,qI 0,qI 0,qI 0,.string ⟨#[]⟩,qI 0,qI 0,.string ⟨#[]⟩]),8,80):=zk
def zbM(w:qW)(l9:Nat)(v:Value)(n:Nat)(ys:List Value)(e:Ending)(w':qW):Prop:=
 ∃v',e= .returned v'/\w'.ownsRow l9 348 8 v' (n+1) ys/\m7 (fun k=>some k=v.ownBlock) w w'/\(v'.ownBlock=v.ownBlock\/v'.ownBlock=some w.heap.size)
theorem NR(w)(l9)(v)(n:Nat)(xs vs)(hown:w.ownsRow l9 348 8 v n xs)(hn:n<=1000)(vb)(hv:vs.length=8)
  (aW:∀j u,vs[j]? =some u->w.cell? (qA vb j)=some u) (cN:∀u∈vs,u.oneCell'=true) (aj:l9<=w.heap.size):
  qC 276 #[v,qI n,qG vb 1 1] w (zbM w l9 v n (xs++vs)):=by
 obtain ⟨i0,hi,aD,aw,aJ⟩:=info_parts JD
 obtain ⟨v',w',ae,ho,hg,hb⟩:=CF (P:=prog) w l9 186 186 348 i0 _ 8 80 underlying186 hi aD aw aJ rfl zj v n xs hown (qB vb) 1 1 zj vs zj
  (fun j u hj=>vG) cN zB zj aj
 have iB:Aside (zbM w l9 v n (xs++vs) (.returned v') w'):=⟨v',rfl,ho,lS hg,hb⟩
 rcases hown.2 with ⟨rfl,rfl⟩ | ⟨g,cap,cur,rfl,hbg,hgb,hnc,hcm,hcs,htake⟩
 ·clear hown ho hg hb aW cN;go_enter func276,ntmps276;exact kk1
 clear hown ho hg hb aW cN htake hcs hgb hbg;go_enter func276,ntmps276;go_wp2_with (at_builtin;refine Lib.wpList_append_run _ rfl _ _ _ _ rfl _ _ rfl rfl _ _ ae ?_)
 all_goals (go_ret;exact iB.o)
theorem Ju(w)(l9 g n cap i)(xs vs)(hown:w.ownsRow l9 348 8 (qG g n cap) n xs)(hn:n<=1000)(vb)(hv:vs.length=8)
  (aW:∀j u,vs[j]? =some u->w.cell? (qA vb j)=some u) (cN:∀u∈vs,u.oneCell'=true) (fI:∀u∈xs,u.oneCell'=true) (fN:vb≠g) (lI:w.shape? vb=some (348,8)) (hfa:∀j,w.frozen? (qA vb j)=false)
  (hi:i<n) (au:n+1<=cap):
  qC 276 #[qG g n cap,qI i,qG vb 1 1] w (zbM w l9 (qG g n cap) n (xs.take (i*8)++vs++xs.drop (i*8))):=by
 have hL:Aside (∀W:World,W.heap=w.heap->W.os=w.os->W.tape=w.tape->W.output=w.output->zbM w l9 (qG g n cap) n (xs.take (i*8)++vs++xs.drop (i*8)) (.returned (qG g (n+1) cap)) ((W.setCells g ((i+1)*8) (xs.drop (i*8))).setCells g (i*8) vs)):=by
  intro W h0 h2 h3 h4;have ie:W.ownsRow l9 348 8 (qG g n cap) n xs:=uz;have k1:=(lZ g (xs.drop (i*8)) ((i+1)*8) W).trans (lZ g vs (i*8) _);exact kf8
 obtain ⟨dS,h2⟩:=hown
 rcases h2 with ⟨hc,_⟩ | ⟨g',cap',cur,hc,hbg,hgb,hnc,hcm,hcs,htake⟩
 ·cases hc
 cases hc
 have hcm':cap<=9223372036854775807:=by simp only [maxLen] at hcm;omega
 have hsp:∀j,j<(n+1)*8->(w.cell? (qA g j)).isSome=true:=fun j hj=>by
  have:j<cur.size:=by rw [hcs];omega
  simp [World.cell?,hgb,this]
 have hfz:∀j,w.frozen? (qA g j)=false:=fun j=>by simp [World.frozen?,hgb]
 have hcell:∀j u,xs[j]? =some u->w.cell? (qA g j)=some u:=fun j u hj=>by
  exact kd4
 have hsb:w.shape? g=some (348,cap*8):=by simp [World.shape?,hgb,hcs]
 have hsz:(prog.info? 348).map (·.size)=some 8:=by
  obtain ⟨i0,dY,_,h1,_⟩:=info_parts JD;rw [dY];simp [h1]
 have hov:∀lb cb,(callFunc 332 #[qG vb 1 1,.slice (some (qA g ((i+1)*8))) lb cb]).run prog w= .ok (.value (.bool false)) w:=fun lb cb=>by
  rw [run_callFunc_extern func332 zk zk zk (e:=Extern.SlicesOverlaps.overlaps #[186,186] #[4]) zk,
   Lib.run_overlaps_apart w 186 4 348 underlying186 8 sizeOf348 (qB vb) (qA g ((i+1)*8)) 1 1 lb cb fN 348 348 8 (cap*8) lI hsb zj (hfa 0) (hfa 8)]
  rfl
 have bG:(xs.drop (i*8)).length=n*8 - i*8:=xa
 have iD:∀ty dc sc,(Builtin.copy_ #[186,186] ty #[.slice (some (qA g ((i+1)*8))) (n - i) dc,.slice (some (qA g (i*8))) (n+1 - i) sc]).run prog w.drew= .ok (goInt ((n - i:Nat):Int)) (w.drew.setCells g ((i+1)*8) (xs.drop (i*8))):=fun ty dc sc=>by
  have hmin:Nat.min (n+1 - i) (n - i)=n - i:=yk
  have:=np (P:=prog) w.drew 186 186 ty 348 8 g ((i+1)*8) (n - i) dc (qA g (i*8)) (n+1 - i) sc (xs.drop (i*8)) underlying186 hsz xG
   (fun j u hj=>by rw [Addr.add_lit];exact hcell _ u (by rwa [ZT] at hj))
   (fun j hj=>hsp _ xz) (fun j _=>hfz _) (fun u hu=>fI u (YU hu))
  simp_all
 obtain ⟨W1,bM⟩:=za (w.drew.setCells g ((i+1)*8) (xs.drop (i*8)))
 have lG:∀j,j<(n+1)*8->(W1.cell? (qA g j)).isSome=true:=fun j hj=>by
  rw [bM];exact isSome_setCells g (xs.drop (i*8)) ((i+1)*8) w.drew (fun t ht=>hsp ((i+1)*8+t) (by rw [bG] at ht;omega)) _ (hsp j hj)
 have hcp2:∀(W:qW),(∀x,W.cell? x=W1.cell? x)->(∀x,W.frozen? x=W1.frozen? x)->∀ty dc,(Builtin.copy_ #[186,186] ty #[.slice (some (qA g (i*8))) (n+1 - i) dc,qG vb 1 1]).run prog W= .ok (goInt 1) (W.setCells g (i*8) vs):=fun W eT iH ty dc=>by
  have hmin:Nat.min 1 (n+1 - i)=1:=yk
  have:=np (P:=prog) W 186 186 ty 348 8 g (i*8) (n+1 - i) dc (qB vb) 1 1 vs underlying186 hsz vI
   (fun j u hj=>by
    rw [Addr.add_lit,Ze,eT,bM,Yb g _ _ _ _ (fun h _=>absurd h fN)]
    exact aW j u hj)
   (fun j hj=>by rw [eT];exact lG _ zj) (fun j _=>by rw [iH,bM,Yy];exact hfz _) cN
  simp_all
 rw [<-bM] at iD;have hw1:IntKind.i64.wrap ((i:Int)+1)=(i:Int)+1:=zw;have hw2:IntKind.i64.wrap ((n:Int)+1)=(n:Int)+1:=zw;have hb1:(0:Int)<=(i:Int)+1:=zj;have ar:i<=n:=zj;have htn:((i:Int)+1).toNat=i+1:=zj;have htn2:((n:Int)+1).toNat=n+1:=zj;have hb2:¬(cap=i+1):=zj;have hb3:(i:Int)<=(n:Int)+1:=zj;have hb4:¬(cap=i):=zj;have hb5:¬((cap:Int)<(n:Int)+1):=zj;go_enter func276,ntmps276;go_wp2_with (simp only [hov]);have mixed:prog.follows .mixedOrders=true:=zk;go_region_law_o (refine step_copy_runI rfl _ _ 186 186 rfl _ _ yn yn (iD _ _ _) ?_);go_wp2_with (at_builtin;refine wpList_copy_runI _ rfl _ _ 186 186 rfl _ _ rfl rfl (hcp2 _ (fun _=>rfl) (fun _=>rfl) _ _) ?_);go_ret;subst bM;exact hL.o w.drew rfl rfl rfl rfl
theorem Jt(w)(l9 g n cap i)(xs vs)(hown:w.ownsRow l9 348 8 (qG g n cap) n xs)(hn:n<=1000)(vb)(hv:vs.length=8)
  (aW:∀j u,vs[j]? =some u->w.cell? (qA vb j)=some u) (cN:∀u∈vs,u.oneCell'=true) (fI:∀u∈xs,u.oneCell'=true) (aj:l9<=w.heap.size)
  (hi:i<n) (au:cap<n+1):
  qC 276 #[qG g n cap,qI i,qG vb 1 1] w (zbM w l9 (qG g n cap) n (xs.take (i*8)++vs++xs.drop (i*8))):=by
 obtain ⟨dS,h2⟩:=hown
 rcases h2 with ⟨hc,_⟩ | ⟨g',cap',cur,hc,hbg,hgb,hnc,hcm,hcs,htake⟩
 ·cases hc
 cases hc
 obtain ⟨i0,dY,aD,fL,cQ⟩:=info_parts JD
 have hcell:∀j u,xs[j]? =some u->w.cell? (qA g j)=some u:=fun j u hj=>by
  exact kd4
 have dE:=(uN.1 hgb).1;have hvw:vb<w.heap.size:=block_lt_of_cell (aW 0 _ (uL zj))
 have hsz:(prog.info? 348).map (·.size)=some 8:=by rw [dY];simp [fL]
 have aV:(xs.take (i*8)).length=i*8:=by rw [Zp,dS];omega
 have bG:(xs.drop (i*8)).length=n*8 - i*8:=xa
 have hold:(Builtin.firstCells i0.size i (qG g i cap)).run prog w.drew= .ok (xs.take (i*8)).toArray w.drew:=by
  rw [fL]
  exact run_firstCells_some w.drew 8 i (qB g) i cap (xs.take (i*8)) aV (fun j u hj=>by
   simp_all [Addr.add_lit,Ze,Yj])
 have hik:i+(n+1 - i)=n+1:=zj;have gr:(n:Int)+1 - (i:Int)=((n+1 - i:Nat):Int):=zj;obtain ⟨Z,hZ⟩:=za ((Value.agg #[qI 0,qI 0,qI 0,qI 0,.string ⟨#[]⟩,qI 0,qI 0,.string ⟨#[]⟩]).cells)
 have hZs:Z.size=8:=by rw [hZ];rfl
 obtain ⟨G,hG⟩:=za (grownCap w (n+1) cap 348)
 have hGn:n+1<=G:=by rw [hG];exact grownCap_ge w _ _ _
 have hGm:G<=maxLen:=by rw [hG];exact grownCap_le_maxLen w (n+1) cap 348 yu
 obtain ⟨be,fH⟩:∃be:Array Value,be=(xs.take (i*8)).toArray++Builtin.zeroCells Z (n+1 - i)++Builtin.zeroCells Z (G - (n+1)):=⟨_,rfl⟩
 have hrz:∀ty,(Builtin.append_ #[186,3] ty #[qG g i cap,qI ((n:Int)+1 - (i:Int))]).run prog w= .ok (qG w.heap.size (n+1) G) (w.drew.alloc (.cells be 348)):=fun ty=>by
  grind [Lib.run_append_grow_zeros,underlying186,underlying3,growslice_fits]
 have hRs:be.size=G*8:=by
  exact km9
 have hRl:∃Y,be.toList=xs.take (i*8)++Y:=⟨(Builtin.zeroCells Z (n+1 - i)++Builtin.zeroCells Z (G - (n+1))).toList,by rw [fH];simp⟩
 obtain ⟨W1,bM⟩:=za (w.drew.alloc (.cells be 348));rw [<-bM] at hrz
 have hN:∀j,j<(n+1)*8->(W1.cell? (qA w.heap.size j)).isSome=true:=fun j hj=>by
  exact kl5
 have hNf:∀j,W1.frozen? (qA w.heap.size j)=false:=fun j=>by rw [bM];exact World.frozen?_alloc_at (w:=w.drew) be _ w.heap.size j rfl
 have hOb:∀j u,w.cell? (qA g j)=some u->W1.cell? (qA g j)=some u:=fun j u h=>by rw [bM,Qd (w:=w.drew) _ g j dE];exact h
 have hOv:∀j u,w.cell? (qA vb j)=some u->W1.cell? (qA vb j)=some u:=fun j u h=>by rw [bM,Qd (w:=w.drew) _ vb j hvw];exact h
 have hcpA:∀(W:qW),(∀x,W.cell? x=W1.cell? x)->(∀x,W.frozen? x=W1.frozen? x)->∀ty dc,(Builtin.copy_ #[186,186] ty #[.slice (some (qA w.heap.size (i*8))) (n+1 - i) dc,qG vb 1 1]).run prog W= .ok (goInt 1) (W.setCells w.heap.size (i*8) vs):=fun W eT iH ty dc=>by
  have hmin:Nat.min 1 (n+1 - i)=1:=yk
  have:=np (P:=prog) W 186 186 ty 348 8 w.heap.size (i*8) (n+1 - i) dc (qB vb) 1 1 vs underlying186 hsz vI
   (fun j u hj=>xR)
   (fun j hj=>by rw [eT];exact hN _ zj) (fun j _=>by rw [iH];exact hNf _) cN
  simp_all
 have hgN:g≠w.heap.size:=zj
 have hcpB:∀(W:qW),(∀x,W.cell? x=(W1.setCells w.heap.size (i*8) vs).cell? x)->(∀x,W.frozen? x=(W1.setCells w.heap.size (i*8) vs).frozen? x)->∀ty dc sc,(Builtin.copy_ #[186,186] ty #[.slice (some (qA w.heap.size ((i+1)*8))) (n - i) dc,.slice (some (qA g (i*8))) (n - i) sc]).run prog W= .ok (goInt ((n - i:Nat):Int)) (W.setCells w.heap.size ((i+1)*8) (xs.drop (i*8))):=fun W eT iH ty dc sc=>by
  have hmin:Nat.min (n - i) (n - i)=n - i:=by simp [Nat.min_def]
  have:=np (P:=prog) W 186 186 ty 348 8 w.heap.size ((i+1)*8) (n - i) dc (qA g (i*8)) (n - i) sc (xs.drop (i*8)) underlying186 hsz xG
   (fun j u hj=>by
    rw [Addr.add_lit,eT,Yb _ _ _ _ _ (fun h _=>absurd h hgN)]
    exact hOb _ u (hcell _ u (by rwa [ZT] at hj)))
   (fun j hj=>by rw [eT];exact isSome_setCells w.heap.size vs (i*8) W1 (fun t ht=>hN _ zj) _ (hN _ xz))
   (fun j _=>by rw [iH,Yy];exact hNf _) (fun u hu=>fI u (YU hu))
  simp_all
 have hL:Aside (∀W:World,W.heap=W1.heap->W.os=w.os->W.tape=w.tape->W.output=w.output->zbM w l9 (qG g n cap) n (xs.take (i*8)++vs++xs.drop (i*8)) (.returned (qG w.heap.size (n+1) G)) ((W.setCells w.heap.size (i*8) vs).setCells w.heap.size ((i+1)*8) (xs.drop (i*8)))):=by
  intro W h0 h2 h3 h4;have hgW:W.heap[w.heap.size]? =some (.cells be 348 (0,0)):=ux;obtain ⟨Y,hY⟩:=hRl;have k1:=(lZ w.heap.size vs (i*8) W).trans (lZ w.heap.size (xs.drop (i*8)) ((i+1)*8) _);exact kd7
 have hGi:¬(G=i):=zj;have hGim:¬(G=i+1):=zj;have hci:¬(cap=i):=zj;have hw1:IntKind.i64.wrap ((i:Int)+1)=(i:Int)+1:=zw;have hw2:IntKind.i64.wrap ((n:Int)+1)=(n:Int)+1:=zw;have hw3:IntKind.i64.wrap ((n:Int)+1 - (i:Int))=(n:Int)+1 - (i:Int):=zw;have hb1:(0:Int)<=(i:Int)+1:=zj;have ar:i<=n:=zj;have hin2:i<=cap:=zj;have htn:((i:Int)+1).toNat=i+1:=zj;have hb5:((cap:Int)<(n:Int)+1):=zj
 have ee:∀x,((w.alloc (.cells be 348)).drew).cell? x=(w.drew.alloc (.cells be 348)).cell? x:=fun x=>rfl
 have hE2:∀x,((w.alloc (.cells be 348)).drew).frozen? x=(w.drew.alloc (.cells be 348)).frozen? x:=fun x=>rfl
 subst bM
 have hF1:∀x,(((w.alloc (.cells be 348)).drew.setCells w.heap.size (i*8) vs).drew).cell? x=((w.drew.alloc (.cells be 348)).setCells w.heap.size (i*8) vs).cell? x:=fun x=>rfl
 have hF2:∀x,(((w.alloc (.cells be 348)).drew.setCells w.heap.size (i*8) vs).drew).frozen? x=((w.drew.alloc (.cells be 348)).setCells w.heap.size (i*8) vs).frozen? x:=fun x=>rfl
 clear htake hcs hgb hcell hcm dS bG aV aW cN fI hbg hold fH hG hRs hRl hN hNf hOb hOv hik gr hGm hZ hZs dE hvw;go_enter func276,ntmps276
 go_wp2_with (first
  | (at_builtin;refine Lib.wpList_append_run _ rfl _ _ _ _ rfl _ _ rfl rfl _ _ (hrz _) ?_)
  | (at_builtin;refine wpList_copy_runI _ rfl _ _ 186 186 rfl _ _ rfl rfl (hcpA _ ee hE2 _ _) ?_))
 have mixed:prog.follows .mixedOrders=true:=zk;go_region_law_o (refine step_copy_runI rfl _ _ 186 186 rfl (.slice (some (qA w.heap.size ((i+1)*8))) (n - i) (G - (i+1))) (.slice (some (qA g (i*8))) (n - i) (cap - i)) yn yn (hcpB _ hF1 hF2 3 (G - (i+1)) (cap - i)) ?_);go_wp2;go_ret;rw [drew_setCells];exact hL.o ((w.alloc (.cells be 348)).drew.drew) rfl rfl rfl rfl
theorem LE(w)(l9 n i:Nat)(v)(xs vs)(hown:w.ownsRow l9 348 8 v n xs)(hn:n<=1000)(vb)(hv:vs.length=8)
  (aW:∀j u,vs[j]? =some u->w.cell? (qA vb j)=some u) (cN:∀u∈vs,u.oneCell'=true) (fI:∀u∈xs,u.oneCell'=true) (fN:some vb≠v.ownBlock) (lI:w.shape? vb=some (348,8)) (hfa:∀j,w.frozen? (qA vb j)=false) (aj:l9<=w.heap.size) (hi:i<=n):
  qC 276 #[v,qI i,qG vb 1 1] w (zbM w l9 v n (xs.take (i*8)++vs++xs.drop (i*8))):=by
 by_cases he:i=n
 ·subst he;have e1:xs.take (i*8)=xs:=Zl xN;have e2:xs.drop (i*8)= []:=YA xN;rw [e1,e2,Ye];exact NR w l9 v i xs vs hown hn vb hv aW cN aj
 have hown':=hown
 rcases hown.2 with ⟨rfl,rfl⟩ | ⟨g,cap,cur,rfl,-⟩
 ·omega
 by_cases au:n+1<=cap
 ·exact Ju w l9 g n cap i xs vs hown hn vb hv aW cN fI (fun e=>fN uH) lI hfa zj au
 exact Jt w l9 g n cap i xs vs hown hn vb hv aW cN fI aj zj zj
end
section
open RowKit
theorem oH{w w'}{b o}{v}(hb:qL w w')(h:w.cell? (qA b o)=some v):w'.cell? (qA b o)=some v:=by
 exact kg9
theorem mE{w w':qW}{l9 n}{e}{k}{v}{xs}(h:w.ownsRow l9 e k v n xs)(hs:∀g,v.ownBlock=some g->w'.heap[g]? =w.heap[g]?):w'.ownsRow l9 e k v n xs:=by
 refine ⟨h.1,?_⟩
 rcases h.2 with h0 | ⟨g,cap,cur,rfl,h1,hg,h2⟩
 ·exact .inl h0
 exact kl7
theorem JK{w:qW}{l9 base' n}{e}{k}{v}{xs}(h:w.ownsRow l9 e k v n xs)(hb:base'<=l9):w.ownsRow base' e k v n xs:=by
 refine ⟨h.1,h.2.imp (fun e=>e) ?_⟩;rintro ⟨g,cap,cur,h1,h2,h3⟩;exact ⟨g,cap,cur,h1,zj,h3⟩
theorem mC{w:qW}{l9 n k}{v}{e}{xs}(h:w.ownsRow l9 e k v n xs):∃ao cap,v= .slice ao n cap:=by
 rcases h.2 with ⟨h1,h2⟩ | ⟨g,cap,cur,rfl,_⟩
 ·subst h2;exact ⟨_,_,h1⟩
 simp_all
section
variable {α:Type} {enc:α→List Value} {k:Nat}
def N7(enc:α->List Value)(w:qW)(ao:qO)(zs:List α):Prop:=zs= []\/∃blk off,ao=some (qA blk off)/\∀j u,(mN enc zs)[j]? =some u->w.cell? (qA blk (off+j))=some u
theorem N7.kept{w w'}{ao}{zs}(h:N7 enc w ao zs)(hk:∀g o,ao=some (qA g o)->w'.heap[g]? =w.heap[g]?):N7 enc w' ao zs:=by
 rcases h with h | ⟨g,o,h1,h2⟩
 ·exact .inl h
 exact .inr ⟨g,o,h1,fun j u hj=>by grind [uV]⟩
theorem N7.e(hlen:∀x,(enc x).length=k){w}{ao}{zs}(h:N7 enc w ao zs){i}{x}(hi:zs[i]? =some x):∃blk off,ao=some (qA blk off)/\∀c u,(enc x)[c]? =some u->w.cell? (qA blk (off+i*k+c))=some u:=by
 rcases h with h | ⟨b,o,h1,h2⟩
 ·subst h;simp at hi
 refine ⟨b,o,h1,fun c u hc=> ?_⟩
 have bH:c<k:=by have:=(uK.1 hc).1;rwa [hlen] at this
 simp_all [Yx,me]
theorem zdc(hlen:∀x,(enc x).length=k){w}{l9}{T}{ao}{cap}{L}(h:w.ownsRow l9 T k (.slice ao L.length cap) L.length (mN enc L)):N7 enc w ao L:=by
 have h':=h
 rcases h.2 with ⟨h1,h2⟩ | ⟨g,cap',cur,hv,_⟩
 ·exact .inl (Zi.1 h2)
 cases hv
 refine .inr ⟨g,0,rfl,fun j u hj=> ?_⟩;have hl:=(uK.1 hj).1;rw [mv hlen] at hl;rw [Ze,h'.cellAt j hl,hj]
theorem oR{P}{S T}{z}{bytes}(hS:P.underlying S=some (.slice T))(bX:(P.info? T).map (fun i=>(i.zero,i.size,i.bytes))=some (some z,k,bytes))(hb1:bytes<=1000)(iW:0<k)(hzc:z.cells.size=k)
  (hlen:∀x,(enc x).length=k) (eG:∀x,∀v∈enc x,v.oneCell'=true)
  {w} {l9 n} {v} {xs} (ho:w.ownsRow l9 T k v n xs) (hn:n<=2000) (aj:l9<=w.heap.size) (ap) (c) (ys) (hy:ys.length<=2000) (jc:N7 enc w ap ys) (hc:ap=none->c=0) (ty):
  ∃v' w',(Builtin.append_ #[S,S] ty #[v,.slice ap ys.length c]).run P w= .ok v' w'/\w'.ownsRow l9 T k v' (n+ys.length) (xs++mN enc ys)/\w.grownBy w' v.ownBlock:=by
 obtain ⟨i0,hi,aD,aw,aJ⟩:=info_parts bX
 cases ap with
 | none=>
  have h0:ys= []:=by
   rcases jc with h | ⟨_,_,h,_⟩
   ·exact h
   cases h
  subst h0;rw [hc rfl];refine ⟨v,w,run_append_owned_none w l9 _ ty _ i0 k hS hi v n xs ho,by simpa [mN] using ho,⟨rfl,rfl,rfl,uM _,fun _ _ _=>rfl⟩⟩
 | some a=>
  have hl:=mv hlen ys
  obtain ⟨v',w',h1,h2,h3,-⟩:=run_append_own (P:=P) w l9 S ty T i0 _ k bytes hS hi aD aw aJ hzc zj v n xs ho a ys.length c (mN enc ys) hl (fun j u hj=>by
   rcases jc with h | ⟨b,o,h,hcell⟩
   ·subst h;simp [mN] at hj
   ·cases h
    rw [Addr.add_lit]
    exact hcell j u hj) (sJ eG ys) zB (by have:=Nat.mul_le_mul (show n+ys.length<=4000 by omega) hb1;omega) aj
  grind
end
theorem FM(u):(Lib.decDigits u).length<=u+1:=by
 induction u using Nat.strongRecOn with
 | ind u ih=>
  by_cases h:u<10
  ·rw [Lib.decDigits,dif_pos h];simp
  rw [Lib.decDigits,dif_neg h]
  grind
theorem PD(u:Nat)(hu:u<=9223372036854775808):∀(w:qW),
  qC 27 #[qI (-(u:Int))] w (qR (.string ⟨(Lib.decDigits u).toArray⟩) w):=by
 induction u using Nat.strongRecOn with
 | ind u ih=>
  intro w;have IH:=Lib.hid ih;by_cases h:u<10
  ·have hd:decide (-10< -(u:Int))=true:=by simp;omega
   have HE:Hid (Lib.decDigits u= [Xr (48+u)]):=Lib.hid (by rw [Lib.decDigits,dif_pos h];rfl);go_enter func27,ntmps27;go_wp2_with fail;refine (Kb (48+u) w zj).mono ?_;rintro e w1 ⟨rfl,hb⟩;go_wp2;go_ret;exact ⟨by rw [HE.o];rfl,hb⟩
  have hd:decide (-10< -(u:Int))=false:=zl;have HE:Hid (Lib.decDigits u=Lib.decDigits (u / 10)++ [Xr (48+u % 10)]):=Lib.hid (by rw [Lib.decDigits,dif_neg h];rfl);have hlen:=Lib.hid (FM (u / 10));go_enter func27,ntmps27;go_wp2_with fail;refine (IH.o (u / 10) zj zj w).mono ?_;rintro e w1 ⟨rfl,hb1⟩;go_wp2_with fail;refine (Kb (48+u % 10) w1 zj).mono ?_;rintro e w2 ⟨rfl,hb2⟩;have B2:qL w w2:=zi hb1 hb2;have hadd:=Hk (Lib.decDigits (u / 10)) [Xr (48+u % 10)] (by have:=hlen.o;simp;omega);go_wp2;go_ret;exact ⟨by rw [HE.o];rfl,B2⟩
theorem OE(n)(h:n<0):Lib.itoa n=45::Lib.decDigits n.natAbs:=by rw [Lib.itoa,if_pos h]
theorem Qj(n)(h:0<=n):Lib.itoa n=Lib.decDigits n.natAbs:=by
 rw [Lib.itoa,if_neg zj];congr 1;omega
theorem DO(n)(w)(h0: -9223372036854775808<=n)(h1:n<=9223372036854775807):
  qC 17 #[qI n] w (qR (.string ⟨(Lib.itoa n).toArray⟩) w):=by
 by_cases h:n<0
 ·obtain ⟨u,rfl⟩:∃u:Nat,n= -(u:Int):=⟨n.natAbs,zj⟩
  have HE:Hid (Lib.itoa (-(u:Int))=45::Lib.decDigits u):=Lib.hid (by rw [OE _ h];simp);have hd:decide (-(u:Int)<0)=true:=xo
  have hadd:=Hk [45] (Lib.decDigits u) (by
   have:=Lib.itoa_length_le _ h0 h1
   rw [HE.o] at this
   simp at this |-
   omega)
  exact kh8
 obtain ⟨u,rfl⟩:∃u:Nat,n=(u:Int):=⟨n.natAbs,zj⟩
 have HE:Hid (Lib.itoa (u:Int)=Lib.decDigits u):=Lib.hid (by rw [Qj _ zj];simp);have hd:decide ((u:Int)<0)=false:=zq;exact kh8

end