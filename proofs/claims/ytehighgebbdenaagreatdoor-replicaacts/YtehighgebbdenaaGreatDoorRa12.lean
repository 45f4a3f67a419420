import Derived.Test.YtehighgebbdenaaGreatDoorRa11
set_option linter.unusedVariables false
set_option maxRecDepth 100000
set_option maxHeartbeats 64000000
section
namespace Go.Proofs.YtehighgebbdenaaGreatDoor
open Go.RowKit
open scoped Classical
variable {T by_:Int} {A B:List OpX} {bc br bt bx i p:Nat} {c':Nat→Nat} {kv:Nat→Value} {R:Rws} {w w':World}
structure mt (c:Nat->Nat) (i:Nat) (w:World) (c':Nat->Nat) (w':World):Prop where
 block:∀k,k<w.heap.size->c k=i->w'.heap[k]? =w.heap[k]?
 hue:∀k,k<w.heap.size->c' k=c k
def cR (nd:Int):Nat:=20+nd.toNat
def RepCell (w:World) (br:Nat) (T by_:Int) (kv:Nat->Value) (bt bx bc:Nat):Prop:=w.heap[br]? =some (.cells #[.int .i64 T,.int .i64 by_,kv 0,kv 1,kv 2,kv 3,.pointer (some ⟨bt,0,none⟩),.map (some bx),.pointer (some ⟨bc,0,none⟩)] 70 (0,0))
theorem RepCell.lt (h:RepCell w br T by_ kv bt bx bc):br<w.heap.size:=(vO.1 h).1
theorem RepCell.same (h:RepCell w br T by_ kv bt bx bc) (e:w'.heap[br]? =w.heap[br]?):RepCell w' br T by_ kv bt bx bc:=e.trans h
theorem RepCell.c0 (h:RepCell w br T by_ kv bt bx bc):w.cell? ⟨br,0,none⟩=some (.int .i64 T):=zR
theorem RepCell.c1 (h:RepCell w br T by_ kv bt bx bc):w.cell? ⟨br,1,none⟩=some (.int .i64 by_):=zR
theorem RepCell.c2 (h:RepCell w br T by_ kv bt bx bc):w.cell? ⟨br,2,none⟩=some (kv 0):=zR
theorem RepCell.c3 (h:RepCell w br T by_ kv bt bx bc):w.cell? ⟨br,3,none⟩=some (kv 1):=zR
theorem RepCell.c4 (h:RepCell w br T by_ kv bt bx bc):w.cell? ⟨br,4,none⟩=some (kv 2):=zR
theorem RepCell.c5 (h:RepCell w br T by_ kv bt bx bc):w.cell? ⟨br,5,none⟩=some (kv 3):=zR
theorem RepCell.c6 (h:RepCell w br T by_ kv bt bx bc):w.cell? ⟨br,6,none⟩=some (.pointer (some ⟨bt,0,none⟩)):=zR
theorem RepCell.c7 (h:RepCell w br T by_ kv bt bx bc):w.cell? ⟨br,7,none⟩=some (.map (some bx)):=zR
theorem RepCell.c8 (h:RepCell w br T by_ kv bt bx bc):w.cell? ⟨br,8,none⟩=some (.pointer (some ⟨bc,0,none⟩)):=zR
theorem RepCell.fz (h:RepCell w br T by_ kv bt bx bc) (o:Nat):w.frozen? ⟨br,o,none⟩=false:=by unfold RepCell at h;simp [World.frozen?,h]
def RowsAt (w:World) (c:Nat->Nat) (kv:Nat->Value) (R:Rws):Prop:=∀i,i<4->w.ownsRow 0 38 8 (kv i) (R i).length (cellsOf (R i))/\∀g,(kv i).ownBlock=some g->c g=10+i
theorem RowsAt.one {c:Nat->Nat} (h:RowsAt w c kv R) (hi:i<4) (hk:mt c (10+i) w c' w'):w'.ownsRow 0 38 8 (kv i) (R i).length (cellsOf (R i))/\∀g,(kv i).ownBlock=some g->c' g=10+i:=by
 obtain ⟨h1,h2⟩:=h i hi;refine ⟨cY h1 (fun g hg=>hk.block g (h1.lt g hg).2 (h2 g hg)),fun g hg=> ?_⟩;rw [hk.hue g (h1.lt g hg).2];exact h2 g hg
theorem RowsAt.kept {c:Nat->Nat} (h:RowsAt w c kv R) (hk:∀i,i<4->mt c (10+i) w c' w'):RowsAt w' c' kv R:=fun i hi=>h.one hi (hk i hi)
theorem RowsAt.ops {c:Nat->Nat} (h:RowsAt w c kv R) (hi:i<4):OpsAt w (kv i) (R i):=dI (h i hi).1
def TreeC (w:World) (c:Nat->Nat) (bt:Nat) (A:List OpX):Prop:=∃bm v ms,TreeAt 0 w bt bm v ms/\ms.Perm (ai A)/\c bt=2/\c bm=2/\∀g,v.ownBlock=some g->c g=2
theorem TreeC.kept {c:Nat->Nat} (h:TreeC w c bt A) (hk:mt c 2 w c' w'):TreeC w' c' bt A:=by
 obtain ⟨bm,v,ms,h1,h2,h3,h4,h5⟩:=h;obtain ⟨l1,l2,l3⟩:=h1.lt;exact ⟨bm,v,ms,h1.same (hk.block _ l1 h3) (hk.block _ l2 h4) (fun g hg=>hk.block g (l3 g hg) (h5 g hg)),h2,(hk.hue _ l1).trans h3,(hk.hue _ l2).trans h4,fun g hg=>(hk.hue g (l3 g hg)).trans (h5 g hg)⟩
theorem TreeC.perm {c:Nat->Nat} (h:TreeC w c bt A) (e:A.Perm B):TreeC w c bt B:=by
 obtain ⟨bm,v,ms,h1,h2,h3⟩:=h;exact ⟨bm,v,ms,h1,h2.trans (e.filterMap _),h3⟩
def LineC (w:World) (c:Nat->Nat) (p:Nat) (nd:Int) (A:List OpX):Prop:=∃v L,LineAt (p+1) w p v L/\LineIs A nd L/\c p=cR nd/\∀g,v.ownBlock=some g->c g=cR nd
theorem LineAt.kin {base:Nat} {v:Value} {L:List Ltr} (h:LineAt base w p v L) {g:Nat} (hg:v.ownBlock=some g):g<w.heap.size:=(h.row.lt g hg).2
theorem LineC.kept {c:Nat->Nat} {nd:Int} (h:LineC w c p nd A) (hk:mt c (cR nd) w c' w'):LineC w' c' p nd A:=by
 obtain ⟨v,L,h1,h2,h3,h4⟩:=h;refine ⟨v,L,⟨(hk.block p h1.lt h3).trans h1.cell,fe h1.row (fun g hg=>hk.block g (h1.kin hg) (h4 g hg)),h1.low,h1.nodup,h1.pos,h1.small⟩,h2,(hk.hue _ h1.lt).trans h3,fun g hg=>(hk.hue g (h1.kin hg)).trans (h4 g hg)⟩
def TextC (w:World) (c:Nat->Nat) (bx:Nat) (A:List OpX):Prop:=∃n tx,n<=A.length/\TMapAt w bx n tx/\c bx=3/\(∀nd,(tx nd).isSome=true↔KnownN A nd)/\∀nd p,tx nd=some p->LineC w c p nd A
theorem TextC.kept {w w':World} {c c':Nat->Nat} {bx:Nat} {A:List OpX} (h:TextC w c bx A) (hk:mt c 3 w c' w') (hl:∀nd,KnownN A nd->mt c (cR nd) w c' w'):TextC w' c' bx A:=by
 obtain ⟨n,tx,h1,h2,h3,h4,h5⟩:=h;exact ⟨n,tx,h1,h2.same (hk.block _ h2.lt h3),(hk.hue _ h2.lt).trans h3,h4,fun nd p hp=>(h5 nd p hp).kept (hl nd ((h4 nd).1 xN))⟩
theorem TextC.perm {w:World} {c:Nat->Nat} {bx:Nat} {A B:List OpX} (h:TextC w c bx A) (e:A.Perm B):TextC w c bx B:=by
 obtain ⟨n,tx,h1,h2,h3,h4,h5⟩:=h;refine ⟨n,tx,by rw [<-e.length_eq];exact h1,h2,h3,fun nd=>(h4 nd).trans ⟨fun q=>q.mono (fun x hx=>e.mem_iff.1 hx),fun q=>q.mono (fun x hx=>e.mem_iff.2 hx)⟩,fun nd p hp=> ?_⟩;obtain ⟨v,L,k1,k2,k3⟩:=h5 nd p hp;exact ⟨v,L,k1,k2.perm e,k3⟩
def CellC (w:World) (c:Nat->Nat) (bc:Nat) (A:List OpX):Prop:=∃cm A',CellsAt w bc cm A.length (dh A')/\A'.Perm A/\c bc=4/\c cm=4
theorem CellC.kept {c:Nat->Nat} (h:CellC w c bc A) (hk:mt c 4 w c' w'):CellC w' c' bc A:=by
 obtain ⟨cm,A',h1,h2,h3,h4⟩:=h;exact ⟨cm,A',h1.same (hk.block _ h1.lt.1 h3) (hk.block _ h1.lt.2 h4),h2,(hk.hue _ h1.lt.1).trans h3,(hk.hue _ h1.lt.2).trans h4⟩
theorem CellC.perm {c:Nat->Nat} (h:CellC w c bc A) (e:A.Perm B):CellC w c bc B:=by
 obtain ⟨cm,A',h1,h2,h3⟩:=h;exact ⟨cm,A',by rw [<-e.length_eq];exact h1,h2.trans e,h3⟩
structure RepMid (w:World) (c:Nat->Nat) (br:Nat) (T by_:Int) (kv:Nat->Value) (bt bx bc:Nat) (R:Rws) (A:List OpX):Prop where
 cell:RepCell w br T by_ kv bt bx bc
 hue:c br=1
 rows:RowsAt w c kv R
 tree:TreeC w c bt A
 text:TextC w c bx A
 marks:CellC w c bc A
 time:du A T
theorem RepMid.kept {w w':World} {c c':Nat->Nat} {br:Nat} {T by_:Int} {kv:Nat->Value} {bt bx bc:Nat} {R:Rws} {A:List OpX} (h:RepMid w c br T by_ kv bt bx bc R A) (hk:∀i,i≠0->mt c i w c' w'):RepMid w' c' br T by_ kv bt bx bc R A:=by
 have k1:=hk 1 zo;exact ⟨h.cell.same (k1.block _ h.cell.lt h.hue),(k1.hue _ h.cell.lt).trans h.hue,h.rows.kept (fun i _=>hk _ zo),h.tree.kept (hk 2 zo),h.text.kept (hk 3 zo) (fun nd _=>hk _ yw),h.marks.kept (hk 4 zo),h.time⟩
theorem RepMid.later {c:Nat->Nat} (h:RepMid w c br T by_ kv bt bx bc R A) (hb:Below w.heap.size w w'):RepMid w' c br T by_ kv bt bx bc R A:=
 h.kept (fun i _=>⟨fun k hk _=>hb.block k hk,fun k _=>rfl⟩)
def RepAt (w:World) (c:Nat->Nat) (br:Nat) (by_:Int) (R:Rws):Prop:=∃T kv bt bx bc A,RepMid w c br T by_ kv bt bx bc R A/\A.Perm (aR R)/\RowsK R/\0<=by_/\by_<4
theorem RepAt.kept {w w':World} {c c':Nat->Nat} {br:Nat} {by_:Int} {R:Rws} (h:RepAt w c br by_ R) (hk:∀i,i≠0->mt c i w c' w'):RepAt w' c' br by_ R:=by
 obtain ⟨T,kv,bt,bx,bc,A,h1,h2⟩:=h;exact ⟨T,kv,bt,bx,bc,A,h1.kept hk,h2⟩
theorem RepAt.later {c:Nat->Nat} (h:RepAt w c br by_ R) (hb:Below w.heap.size w w'):RepAt w' c br by_ R:=
 h.kept (fun i _=>⟨fun k hk _=>hb.block k hk,fun k _=>rfl⟩)
structure Acts (w:World) (c:Nat->Nat) (w':World) (c':Nat->Nat):Prop where
 keeps:Keeps (fun k=>c k≠0) w w'
 hue:∀k,k<w.heap.size->c' k=c k
theorem Acts.refl (w:World) (c:Nat->Nat):Acts w c w c:=⟨Keeps.refl _ _,fun _ _=>rfl⟩
theorem Acts.of_below (c:Nat->Nat) (hb:Below w.heap.size w w'):Acts w c w' c:=⟨(aW hb).mono (fun k hk e=>absurd hk zo),fun _ _=>rfl⟩
theorem Acts.trans {w w1 w2:World} {c c1 c2:Nat->Nat} (h:Acts w c w1 c1) (k:Acts w1 c1 w2 c2):Acts w c w2 c2:=
 ⟨h.keeps.then k.keeps (fun i hi e=>by rw [h.hue i hi] at e;exact e),fun i hi=>(k.hue i (um hi h.keeps.size)).trans (h.hue i hi)⟩
end Go.Proofs.YtehighgebbdenaaGreatDoor
end
section
namespace Go.Proofs.YtehighgebbdenaaGreatDoor
open Go
variable {a:Act} {l listed:Array Bool} {fuel i z:Nat} {oi:Oper} {v:Value} {w:World}
section
variable {P:Program} {ops:Array Oper} {Q:Exit→Act→World→Prop} {md:Region.Mode} {S:World→Prop} {z:Nat}
def oX (md:Region.Mode) (ops:Array Oper) (z i:Nat):Bool:=match ops[z]? with
 | some oz=>oz.after.any fun e=>Region.binds md e &&e.on==i
 | none=>false
theorem pU (h:oX md ops z i=true) {oz:Oper} (hz:ops[z]? =some oz):∃e∈oz.after,Region.binds md e=true/\e.on=i:=by
 unfold oX at h;rw [hz] at h;obtain ⟨e,he,h2⟩:=Array.any_eq_true'.1 h;rw [uB] at h2;exact ⟨e,he,h2.1,by simpa using h2.2⟩
def cU (P:Program) (md:Region.Mode) (ops:Array Oper) (Q:Exit->Act->World->Prop) (S:World->Prop) (z:Nat):Nat->Array Bool->Act->World->Prop
 | 0,listed,a,w=>Region.ready md ops listed= []/\Q .normal a w
 | fuel+1,listed,a,w=>
  (Region.ready md ops listed= []->Q .normal a w)/\
  ∀i∈Region.ready md ops listed,wpOp P ops Q i (fun a' w'=>(S w'\/(listed.setIfInBounds i true).getD z false=true)/\cU P md ops Q S z fuel (listed.setIfInBounds i true) a' w') a w
theorem nH:∀(fuel:Nat) (listed:Array Bool) (a:Act) (w:World),cU P md ops Q S z fuel listed a w->wpAny P md ops Q fuel listed a w
 | 0,_,_,_,h=>h
 | fuel+1,_,_,_,h=>⟨h.1,fun i hi=>wpOp_mono (fun a' w' h'=>nH fuel _ a' w' h'.2) (h.2 i hi)⟩
theorem eL (h:i≠z):(l.setIfInBounds i true).getD z false=l.getD z false:=by
 simp only [Array.getD_eq_getD_getElem?];rw [Array.getElem?_setIfInBounds_ne h]
theorem iP (h:l.getD z false=true):(l.setIfInBounds i true).getD z false=true:=by
 by_cases e:i=z
 ·subst e
  have hl:i<l.size:=by
   rcases uJ i l.size with h' | h'
   ·exact h'
   simp [Zn h'] at h
  simp [hl]
 rw [eL e];exact h
theorem kH {T:World->Prop} (hiz:i≠z) (hi:ops[i]? =some oi) (hsel:∀(j:Nat) (o:Oper) cs b,ops[j]? =some o->o.op≠ .select cs b)
  (hQ:∀c a w,Q (.panic c) (a.put oi.dst v) w->Q (.panic c) a w) (hT:(∀w,T w)\/((∀w,S w->T w)/\oX md ops z i=true)):
  ∀(fuel:Nat) (listed:Array Bool) (a:Act) (w:World),
   (∀j oj,ops[j]? =some oj->j≠i->listed.getD j true=false->(∀e∈oj.after,Region.binds md e=true->e.on≠i)->oi.apart ops oj=true)->
   i∈Region.ready md ops listed->YieldsIf P ops T oi v a->(S w\/listed.getD z false=true)->((∀w,T w)\/listed.getD z false=false)->
   cU P md ops Q S z fuel (listed.setIfInBounds i true) (a.put oi.dst v) w->cU P md ops Q S z (fuel+1) listed a w:=by
 have hTw:∀(listed:Array Bool) (w:World),(S w\/listed.getD z false=true)->((∀w,T w)\/listed.getD z false=false)->T w:=fun listed w h1 h2=>by
  rcases hT with hT | hT
  ·exact hT w
  rcases h2 with h2 | h2
  ·exact h2 w
  rcases h1 with h1 | h1
  ·exact hT.1 w h1
  rw [h2] at h1;cases h1
 intro fuel
 induction fuel with
 | zero=>
  intro listed a w _ hr hy hS hz H;refine ⟨fun h=>(by rw [h] at hr;cases hr),fun j hj=> ?_⟩;by_cases hji:j=i
  ·exact kr6
  have:=ready_mono hj hji;rw [H.1] at this
  cases this
 | succ fuel ih=>
  intro listed a w hfree hr hy hS hz H;refine ⟨fun h=>(by rw [h] at hr;cases hr),fun j hj=> ?_⟩;by_cases hji:j=i
  ·exact kr6
  have h1:=H.2 j (ready_mono hj hji);obtain ⟨hjun,oj,hoj,hall⟩:=mem_ready.1 hj
  have hnot:∀e∈oj.after,Region.binds md e=true->e.on≠i:=fun e he hb heq=>by
   have h1:=hall e he hb;have h0:=(mem_ready.1 hr).1;rw [heq] at h1
   rcases uJ i listed.size with h' | h'
   ·simp [h'] at h0 h1;rw [h0] at h1;cases h1
   simp [Zn h'] at h1
  have hz':(∀w,T w)\/(listed.setIfInBounds j true).getD z false=false:=by
   rcases hT with hT | ⟨_,hw⟩
   ·exact .inl hT
   rcases hz with hz | hz
   ·exact .inl hz
   right;rw [eL]
   ·exact hz
   intro e;subst e;obtain ⟨x,hx,hb,ho⟩:=pU hw hoj;exact hnot x hx hb ho
  have h2:=wpOp_putIf hoj (hfree j oj hoj hji hjun hnot) (fun cs b=>hsel i oi cs b hi) (fun cs b=>hsel j oj cs b hoj) hQ hy h1
  have hfree':∀k ok,ops[k]? =some ok->k≠i->(listed.setIfInBounds j true).getD k true=false->
    (∀e∈ok.after,Region.binds md e=true->e.on≠i)->oi.apart ops ok=true:=fun k ok hk hki hun hno=>by
   refine hfree k ok hk hki ?_ hno;by_cases hjk:j=k
   ·subst hjk;exact hjun
   rw [getD_set_ne true hjk] at hun;exact hun
  refine wpOp_mono (fun a' w' h3=> ?_) h2
  have hC:S w'\/(listed.setIfInBounds j true).getD z false=true:=h3.2.1.imp id (fun h=>by
   rw [Array.setIfInBounds_comm _ _ (Ne.symm hji),eL hiz] at h
   exact h)
  refine ⟨hC,ih (listed.setIfInBounds j true) a' w' hfree' (ready_mono hr (Ne.symm hji)) h3.1 hC hz' ?_⟩;rw [Array.setIfInBounds_comm _ _ hji];exact h3.2.2
theorem aw (hiz:i≠z) (hzz:oX md ops z i=true) (hi:ops[i]? =some oi)
  (hs:Region.noSelect ops=true) (hf:Region.free md ops listed i=true) (hr:(Region.ready md ops listed).contains i=true) (hzl:listed.getD z false=false)
  (hQ:∀c a w,Q (.panic c) (a.put oi.dst v) w->Q (.panic c) a w) (hy:YieldsIf P ops S oi v a) (hS:S w)
  (h:cU P md ops Q S z fuel (listed.setIfInBounds i true) (a.put oi.dst v) w):cU P md ops Q S z (fuel+1) listed a w:=
 kH hiz hi (Region.noSelect_spec hs) hQ (.inr ⟨fun _ h=>h,hzz⟩) fuel listed a w (Region.free_spec hi hf) (by simpa using hr) hy (.inl hS) (.inr hzl) h
theorem aX (hiz:i≠z) (hi:ops[i]? =some oi)
  (hs:Region.noSelect ops=true) (hf:Region.free md ops listed i=true) (hr:(Region.ready md ops listed).contains i=true)
  (hQ:∀c a w,Q (.panic c) (a.put oi.dst v) w->Q (.panic c) a w) (hy:YieldsIf P ops (fun _=>True) oi v a) (hS:S w)
  (h:cU P md ops Q S z fuel (listed.setIfInBounds i true) (a.put oi.dst v) w):cU P md ops Q S z (fuel+1) listed a w:=
 kH hiz hi (Region.noSelect_spec hs) hQ (.inl fun _=>trivial) fuel listed a w (Region.free_spec hi hf) (by simpa using hr) hy (.inl hS) (.inl fun _=>trivial) h
theorem aF {o:Oper} (hr:Region.ready md ops listed= [i]) (ho:ops[i]? =some o)
  (h:∀K:Act->World->Prop,(∀a' w',(S w'\/i=z/\z<listed.size)->cU P md ops Q S z fuel (listed.setIfInBounds i true) a' w'->K a' w')->if Region.wanted o (yielded ops a.tmps)=true then Oper.wp P o a w K Q else K (a.put o.dst undef) w):cU P md ops Q S z (fuel+1) listed a w:=by
 refine ⟨fun h0=>qk,fun j hj=> ?_⟩;rw [hr] at hj;simp only [uq] at hj;subst hj
 have:=h (fun a' w'=>(S w'\/(listed.setIfInBounds j true).getD z false=true)/\cU P md ops Q S z fuel (listed.setIfInBounds j true) a' w') (fun a' w' h1 h2=>⟨h1.imp id (fun h=>by
  obtain ⟨e,hl⟩:=h
  subst e
  simp [hl]),h2⟩)
 unfold wpOp;simp only [ho];split
 ·rename_i hw;exact ki4
 rename_i hw;exact kk6
theorem bu (hr:Region.ready md ops listed= []) (h:Q .normal a w):
  ∀fuel,cU P md ops Q S z fuel listed a w
 | 0=>⟨hr,h⟩
 | _+1=>⟨fun _=>h,by rw [hr];simp⟩
theorem bs {id:Nat} (hm:P.follows .mixedOrders=true) (hS:S w.drew)
  (h:S w.drew->cU P .any ops Q S z ops.size (Array.replicate ops.size false) a w.drew):(Code.region id ops true).wp P Q a w:=
 wp_region_any hm (nH _ _ _ _ (h hS))
end
end Go.Proofs.YtehighgebbdenaaGreatDoor
namespace Go.Proofs.YtehighgebbdenaaGreatDoor
open Go
variable {a:Act} {l n:Nat} {o:Oper} {w:World}
section
variable {P:Program} {ops:Array Oper} {Q:Exit→Act→World→Prop} {md:Region.Mode} {S:World→Prop}
theorem ow (hd:∀c,o.op≠ .defer c) {K:Act->World->Prop} (h:o.wp P a w K Q):o.wpIn (Fence.wide.inRound l) n P a w K Q:=by
 refine ⟨fun _ _=>trivial,?_⟩;have e:Oper.semAt (Fence.wide.inRound l).round a.eval o=execOp a.eval o:=Oper.semAt_some l a.eval o hd;rw [e];unfold Oper.wp at h;generalize (execOp a.eval o).run P w=r at*
 cases r with
 | ok x w'=>
  cases x<;>simp only [Oper.upon,Oper.uponIn] at h |-
  case value v=>exact h
  case skip=>exact h
  case defer d=>exact h
  case enter f args=>exact ⟨fun h=>qF,CallsIn.inRound l (callsIn_wide.2 h)⟩
  case row row args=>
   refine ⟨fun h=>qF,fun c cs _=> ?_⟩;obtain ⟨v,w'',r,s⟩:=h c cs;exact ⟨v,w'',r,stepsIn_wide.2 s⟩
 | halt x w'=>
  cases x<;>simp only [Oper.upon,Oper.uponIn] at h |-
  case panic u=>exact h
def so (ops:Array Oper):Bool:=ops.all fun o=>match o.op with | .defer _=>false | _=>true
theorem pJ (h:so ops=true) {i:Nat} (hi:ops[i]? =some o):∀c,o.op≠ .defer c:=by
 intro c e;obtain ⟨hl,he⟩:=vO.1 hi;have:=(Array.all_eq_true.1 h) i hl;rw [he,e] at this
 cases this
theorem eT {l n:Nat} (hd:so ops=true) (hno:¬LetsOut Q):∀(fuel:Nat) (listed:Array Bool) (a:Act) (w:World),wpAny P md ops Q fuel listed a w->wpAnyIn (Fence.wide.inRound l) n P md ops Q fuel listed a w
 | 0,_,_,_,h=>h
 | fuel+1,listed,a,w,h=>by
  refine ⟨h.1,fun i hi=> ?_⟩;have h1:=h.2 i hi;unfold wpOp at h1;unfold wpOpIn
  cases ho:ops[i]? with
  | none=>
   rw [ho] at h1;exact eT hd hno fuel _ a w h1
  | some o=>
   rw [ho] at h1
   dsimp only at h1 |-
   split
   ·rename_i hw;rw [if_pos hw] at h1
    rcases h1 with h1 | h1
    ·have h2:=ow (l:=l) (n:=n) (pJ hd ho) h1;have h3:=wpOpIn_mono (F:=Fence.wide.inRound l) (n:=n) (P:=P) (ops:=ops) (Q:=Q) (i:=i) (a:=a) (w:=w) (fun a' w' h'=>eT (l:=l) (n:=n) hd hno fuel (listed.setIfInBounds i true) a' w' h') (K:=wpAny P md ops Q fuel (listed.setIfInBounds i true)) (by unfold wpOpIn;rw [ho];dsimp only;rw [if_pos hw];exact h2);unfold wpOpIn at h3;rw [ho] at h3;dsimp only at h3;rw [if_pos hw] at h3;exact h3
    exact absurd h1.2 hno
   rename_i hw;rw [if_neg hw] at h1;exact ⟨fun _ _=>trivial,eT hd hno fuel _ _ w h1⟩
theorem fl {id:Nat} (hm:P.follows .mixedOrders=true) (hd:so ops=true) (hno:¬LetsOut Q) (hS:S w.drew)
  (h:S w.drew->wpAnyH P .any ops Q S ops.size (Array.replicate ops.size false) a w.drew):(Code.region id ops true).wpIn (Fence.wide.inRound l) n P Q a w:=
 wpIn_region_any hm (eT hd hno _ _ _ _ (wpAny_of_held _ _ _ _ (h hS)))
end
end Go.Proofs.YtehighgebbdenaaGreatDoor
end
section
namespace Go.Proofs.YtehighgebbdenaaGreatDoor
open Go.Proofs.Tryz
open Go.RowKit Go.Lib Go.Sort
variable {ad:Nat→Addr} {w:World}
section
variable {P:Program} {ops:Array Oper} {Q:Exit→Act→World→Prop} {md:Region.Mode} {S:World→Prop} {z:Nat}
theorem Ak {i j:Nat} {oi oj:Oper} {fuel:Nat} {listed:Array Bool} {a:Act} (hr:Region.ready md ops listed= [i,j]) (hoi:ops[i]? =some oi) (hoj:ops[j]? =some oj)
  (h1:∀K:Act->World->Prop,(∀a' w',(S w'\/i=z/\z<listed.size)->cU P md ops Q S z fuel (listed.setIfInBounds i true) a' w'->K a' w')->if Region.wanted oi (yielded ops a.tmps)=true then Oper.wp P oi a w K Q else K (a.put oi.dst undef) w)
  (h2:∀K:Act->World->Prop,(∀a' w',(S w'\/j=z/\z<listed.size)->cU P md ops Q S z fuel (listed.setIfInBounds j true) a' w'->K a' w')->if Region.wanted oj (yielded ops a.tmps)=true then Oper.wp P oj a w K Q else K (a.put oj.dst undef) w):cU P md ops Q S z (fuel+1) listed a w:=by
 refine ⟨fun h0=>qk,fun k hk=> ?_⟩;rw [hr] at hk;simp only [vT,ZI,or_false] at hk
 rcases hk with rfl | rfl
 ·have:=h1 (fun a' w'=>(S w'\/(listed.setIfInBounds k true).getD z false=true)/\cU P md ops Q S z fuel (listed.setIfInBounds k true) a' w') (fun a' w' h1 h2=>⟨h1.imp id (fun h=>by
   obtain ⟨e,hl⟩:=h
   subst e
   simp [hl]),h2⟩)
  unfold wpOp;simp only [hoi];split
  ·rename_i hw;exact ki4
  rename_i hw;exact kk6
 have:=h2 (fun a' w'=>(S w'\/(listed.setIfInBounds k true).getD z false=true)/\cU P md ops Q S z fuel (listed.setIfInBounds k true) a' w') (fun a' w' h1 h2=>⟨h1.imp id (fun h=>by
  obtain ⟨e,hl⟩:=h
  subst e
  simp [hl]),h2⟩)
 unfold wpOp;simp only [hoj];split
 ·rename_i hw;exact ki4
 rename_i hw;exact kk6
end
structure Ln4 (ad:Nat->Addr) (w:World):Prop where
 c1:w.cell? ⟨2,0,none⟩=some (.iface 399 (.pointer (some (ad 1))))
 c2:w.cell? ⟨4,0,none⟩=some (.iface 399 (.pointer (some (ad 2))))
 c5:w.cell? ⟨0,0,none⟩=some (.iface 399 (.pointer (some (ad 5))))
 c6:w.cell? ⟨7,0,none⟩=some (.iface 399 (.pointer (some (ad 6))))
theorem Ln4.later {w':World} (h:Ln4 ad w) (hb:Below w.heap.size w w'):Ln4 ad w':=
 ⟨cn hb h.c1,cn hb h.c2,cn hb h.c5,cn hb h.c6⟩
def lK (id behind:Int):Prop:=4<=id/\id<4294967300/\0<=behind/\behind<id
theorem rC (w:World) (p:Nat) (id behind:Int) (c:Nat) (hE:Ln4 ad w) (hi: -9223372036854775808<=id/\id<=9223372036854775807) (h:¬lK id behind):
  Calls prog 126 #[.pointer (some ⟨p,0,none⟩),.int .i64 id,.int .i64 behind,.int .u8 (c:Int)] w fun e w'=>e= .returned (.iface 399 (.pointer (some (ad 2))))/\Below w.heap.size w w':=by
 have HE:Aside (Ln4 ad w):=hE;have hzb:2<w.heap.size:=vR w ⟨_,0,none⟩ hE.c1;by_cases h1:4<=id/\id<4294967300
 ·have hof:=DW id w h1.1 h1.2;by_cases h2:behind<0
  ·have d2:decide (behind<0)=true:=decide_eq_true h2;exact kb8
  have d2:decide (behind<0)=false:=decide_eq_false h2;have d3:decide (id<=behind)=true:=decide_eq_true (by unfold lK at h;omega);exact kb8
 have hof:=KM id w _ _ hE.c1 hzb zo hi.1 hi.2;exact kb8
theorem rA (w:World) (base p:Nat) (v:Value) (L:List Ltr) (id behind:Int) (c:Nat) (hE:Ln4 ad w) (hT:LineAt base w p v L) (hL:L.length<=1000) (h:lK id behind) (hx:id∈L.map (·.1)):
  Calls prog 126 #[.pointer (some ⟨p,0,none⟩),.int .i64 id,.int .i64 behind,.int .u8 (c:Int)] w fun e w'=>e= .returned (.iface 399 (.pointer (some (ad 6))))/\Below w.heap.size w w':=by
 have HE:Aside (Ln4 ad w):=hE;have HT:Aside (LineAt base w p v L):=hT;have hof:=DW id w h.1 h.2.1;have d2:decide (behind<0)=false:=decide_eq_false jC;have d3:decide (id<=behind)=false:=decide_eq_false jF;obtain ⟨i,hi,-,hil⟩:=lS hx;have d4:decide ((0:Int)<=(i:Int))=true:=zv;have HI:=Lib.hid hi;clear hE hT h hx hi;go_enter func126,ntmps126;go_wp2_with fail;refine hof.mono ?_;rintro e w1 ⟨rfl,hb⟩
 have B2:Aside (∀o,Below w.heap.size w (w1.alloc o)):=fun o=>hb.alloc hb.size o
 clear hb hof;go_wp2_with fail;refine (dt _ base p v L id (HT.o.later (B2.o _)) hL).mono ?_;rintro e w2 ⟨rfl,hb2⟩;rw [HI.o];have B3:Aside (Below w.heap.size w w2):=(B2.o _).trans (hb2.mono (B2.o _).size);have c6:=(HE.o.later B3.o).c6;clear hb2;go_wp2;go_ret;exact ⟨rfl,B3.o⟩
theorem sj (w:World) (base p:Nat) (v:Value) (L:List Ltr) (id behind:Int) (c:Nat) (hE:Ln4 ad w) (hT:LineAt base w p v L) (hL:L.length<=1000) (h:lK id behind) (hx:id∉L.map (·.1)) (h0:behind≠0) (hy:behind∉L.map (·.1)):
  Calls prog 126 #[.pointer (some ⟨p,0,none⟩),.int .i64 id,.int .i64 behind,.int .u8 (c:Int)] w fun e w'=>e= .returned (.iface 399 (.pointer (some (ad 5))))/\Below w.heap.size w w':=by
 have HE:Aside (Ln4 ad w):=hE;have HT:Aside (LineAt base w p v L):=hT;have hof:=DW id w h.1 h.2.1;have d2:decide (behind<0)=false:=decide_eq_false jC;have d3:decide (id<=behind)=false:=decide_eq_false jF;have d4:(behind !=0)=true:=xK;have HI:=Lib.hid (ew hx);have HJ:=Lib.hid (ew hy);clear hE hT h hx hy h0;go_enter func126,ntmps126;go_wp2_with fail;refine hof.mono ?_;rintro e w1 ⟨rfl,hb⟩
 have B2:Aside (∀o,Below w.heap.size w (w1.alloc o)):=fun o=>hb.alloc hb.size o
 clear hb hof;go_wp2_with fail;refine (dt _ base p v L id (HT.o.later (B2.o _)) hL).mono ?_;rintro e w2 ⟨rfl,hb2⟩;rw [HI.o];have B3:Aside (Below w.heap.size w w2):=(B2.o _).trans (hb2.mono (B2.o _).size);clear hb2;go_wp2_with fail;refine (dt _ base p v L behind (HT.o.later B3.o) hL).mono ?_;rintro e w3 ⟨rfl,hb3⟩;rw [HJ.o];have B4:Aside (Below w.heap.size w w3):=zj B3.o hb3;have c5:=(HE.o.later B4.o).c5;clear hb3;go_wp2;go_ret;exact ⟨rfl,B4.o⟩
end Go.Proofs.YtehighgebbdenaaGreatDoor
end
section
namespace Go.Proofs.YtehighgebbdenaaGreatDoor
open Go.RowKit Go.Lib Go.Sort
variable {L:List Ltr} {k p:Nat} {v:Value} {w:World}
theorem JW {base n:Nat} {e:TypeId} {xs:List Value} (h:w.ownsRow base e k v (n+1) xs):∃g cap,v= .slice (some ⟨g,0,none⟩) (n+1) cap:=by
 rcases h.2 with ⟨_,h2⟩ | ⟨g,cap,cur,rfl,_⟩
 ·omega
 exact ⟨g,cap,rfl⟩
theorem LineAt.ne {base:Nat} (h:LineAt base w p v L):∀g,v.ownBlock=some g->g≠p/\g<w.heap.size/\base<=g:=fun g hg=>by
 exact kl9
theorem nV (X:World) (base p vb k:Nat) (v:Value) (L:List Ltr) (x:Ltr) (hT:LineAt base X p v L) (hbase:base<=X.heap.size) (hL:L.length<=900) (hk:k<=L.length) (hvb:X.heap[vb]? =some (.cells #[.int .i64 x.1,.int .u8 (x.2.1:Int),.bool (!x.2.2)] 250 (0,0))) (hvn:some vb≠v.ownBlock):
  Calls Tryz.prog 193 #[v,.int .i64 (k:Int),.slice (some ⟨vb,0,none⟩) 1 1] X
   fun e w'=>∃g' cap',e= .returned (.slice (some ⟨g',0,none⟩) (L.length+1) cap')/\w'.cell? ⟨p,0,none⟩=some v/\w'.frozen? ⟨p,0,none⟩=false/\Aside (w'.ownsRow base 250 3 (.slice (some ⟨g',0,none⟩) (L.length+1) cap') (L.length+1) (aA pZ (L.take k++x::L.drop k))/\Keeps (fun k=>some k=v.ownBlock) X w'/\(some g'=v.ownBlock\/X.heap.size<=g')/\w'.heap[p]? =some (.cells #[v] 248 (0,0))):=by
 refine (BM X base L.length k v (aA pZ L) (pZ x) hT.row zo vb rfl (fun j u hj=> ?_) (AT x) (gO AT L) hvn ?_ (fun j=> ?_) hbase hk).mono ?_
 ·simp only [World.cell?,hvb];rw [<-hj];simp [pZ]
 ·simp [World.shape?,hvb]
 ·simp [World.frozen?,hvb]
 rintro e w' ⟨v',rfl,ho,hkp,hv'⟩;obtain ⟨g',cap',rfl⟩:=JW ho;have hp:=hkp.block p hT.lt (fun e=>(hT.ne p e.symm).1 rfl);have hp':w'.heap[p]? =some (.cells #[v] 248 (0,0)):=hp.trans hT.cell;rw [<-wM fW L k hk] at ho;refine ⟨g',cap',rfl,by simp [World.cell?,hp'],by simp [World.frozen?,hp'],ho,hkp,?_,hp'⟩
 rcases hv' with e | e
 ·exact .inl e
 right
 have:g'=X.heap.size:=by simpa [Value.ownBlock] using e
 omega
theorem CM {wc:World} (hb:Below w.heap.size w wc) (cs:Array Value) (t:TypeId):∃Y,Y=(wc.alloc (.cells cs t)).drew/\Below w.heap.size w Y/\Y.heap[wc.heap.size]? =some (.cells cs t (0,0))/\wc.heap.size<Y.heap.size:=by
 refine ⟨_,rfl,(hb.alloc hb.size _).drew,?_,?_⟩
 ·exact heap_alloc_new wc _
 have h:=uP wc (.cells cs t);have e:(wc.alloc (.cells cs t)).drew.heap.size=(wc.alloc (.cells cs t)).heap.size:=rfl;omega
def PutOk (base:Nat) (w:World) (p:Nat) (v:Value) (M:List Ltr) (w':World):Prop:=
 ∃v',LineAt base w' p v' M/\Keeps (fun k=>k=p\/some k=v.ownBlock) w w'/\(v'.ownBlock=v.ownBlock\/∀g,v'.ownBlock=some g->w.heap.size<=g)
theorem Jc {base:Nat} {X w5:World} {g' cap':Nat} {M:List Ltr} {x:Ltr} (hT:LineAt base w p v L) (hB:Below w.heap.size w X) (hM:M=L.take k++x::L.drop k) (hlen:M.length=L.length+1)
  (hn:(M.map (·.1)).Nodup) (hpos:∀l∈M,l.1≠0) (hsm:∀l∈M,l.2.1<256)
  (h5:w5.ownsRow base 250 3 (.slice (some ⟨g',0,none⟩) (L.length+1) cap') (L.length+1) (aA pZ (L.take k++x::L.drop k))/\Keeps (fun k=>some k=v.ownBlock) X w5/\(some g'=v.ownBlock\/X.heap.size<=g')/\w5.heap[p]? =some (.cells #[v] 248 (0,0))):
  PutOk base w p v M (w5.setCell ⟨p,0,none⟩ (.slice (some ⟨g',0,none⟩) (L.length+1) cap')):=by
 obtain ⟨ho,hkp,hg,hp⟩:=h5;obtain ⟨w6,hw6⟩:=zc (w5.setCell ⟨p,0,none⟩ (.slice (some ⟨g',0,none⟩) (L.length+1) cap'));rw [<-hw6]
 have hk56:Keeps (fun k=>k=p) w5 w6:=by rw [hw6];exact aZ p [_] 0 w5
 have hgl:=ho.lt g' rfl;have hlow:=hT.low
 have hc6:w6.heap[p]? =some (.cells #[.slice (some ⟨g',0,none⟩) (L.length+1) cap'] 248 (0,0)):=by rw [hw6];exact heap_setCell_same w5 p 0 _ _ _ hp
 have hr6:=fe (w':=w6) ho (fun g hg'=>by
  cases hg'
  exact hk56.block g' hgl.2 (fun e=>zo))
 have hKw:Keeps (fun k=>k=p\/some k=v.ownBlock) w X:=(aW hB).mono (fun k hk e=>zo);refine ⟨_,⟨hc6,by rw [hlen,hM];exact hr6,hT.low,hn,hpos,hsm⟩,(hKw.then hkp (fun _ _ e=>.inr e)).then hk56 (fun _ _ e=>.inl e),?_⟩
 rcases hg with h | h
 ·exact .inl h
 refine .inr (fun g hg=> ?_)
 have e:g'=g:=by simpa [Value.ownBlock] using hg
 have:=hB.size;omega
theorem EL (w:World) (base p:Nat) (v:Value) (L:List Ltr) (id behind:Int) (c:Nat) (hT:LineAt base w p v L) (hbase:base<=w.heap.size) (hL:L.length<=900) (h:lK id behind) (hc:c<256) (hx:id∉L.map (·.1)) (hy:behind=0\/behind∈L.map (·.1)):
  Calls Tryz.prog 126 #[.pointer (some ⟨p,0,none⟩),.int .i64 id,.int .i64 behind,.int .u8 (c:Int)] w fun e w'=>e= .returned .nilIface/\PutOk base w p v (put behind (id,c,false) L) w':=by
 have HT:Aside (LineAt base w p v L):=hT;have hof:=DW id w h.1 h.2.1;have d2:decide (behind<0)=false:=decide_eq_false jC;have d3:decide (id<=behind)=false:=decide_eq_false jF;have HI:=Lib.hid (ew hx);have HX:Aside (id∉L.map (·.1)):=hx
 obtain ⟨bf,k,hbf,hbk,hk,hpl⟩:∃(bf:Int) (k:Nat),Aside (iV behind L=bf/\((bf= -1/\behind=0)\/0<=bf))/\IntKind.i64.wrap (bf+1)=(k:Int)/\k<=L.length/\Aside (k+ce id (L.drop k)=ef behind id L):=by
  unfold ef;by_cases h0:behind=0
  ·refine ⟨-1,0,⟨ew (fun hm=> ?_),.inl ⟨rfl,h0⟩⟩,zu,vV _,?_⟩
   ·obtain ⟨l,hl,e⟩:=ut.1 hm;exact hT.pos l hl (by rw [e,h0])
   show _=_
   rw [if_pos h0];simp
  obtain ⟨i,hi,hf,hil⟩:=lS (hy.resolve_left h0);refine ⟨i,i+1,⟨hi,.inr zo⟩,?_,zo,?_⟩
  ·rw [IntKind.wrap_i64];omega
  show _=_
  rw [if_neg h0,hf]
 have HM:Aside (put behind (id,c,false) L=L.take (ef behind id L)++(id,c,false)::L.drop (ef behind id L)/\(put behind (id,c,false) L).length=L.length+1/\((put behind (id,c,false) L).map (·.1)).Nodup/\(∀l∈put behind (id,c,false) L,l.1≠0)/\(∀l∈put behind (id,c,false) L,l.2.1<256)/\ef behind id L<=L.length):=by
  refine ⟨(wE hy).2,Im hy,FZ hy hT.nodup hx,fun l hl=> ?_,fun l hl=> ?_,(wE (x:=(id,c,false)) hy).1⟩
  ·rcases vT.1 ((kw hy).mem_iff.1 hl) with rfl | hl
   ·have:=h.1
    show id≠0
    omega
   exact hT.pos l hl
  rcases vT.1 ((kw hy).mem_iff.1 hl) with rfl | hl
  ·exact hc
  exact hT.small l hl
 obtain ⟨M,hM⟩:∃M,put behind (id,c,false) L=M:=⟨_,rfl⟩
 rw [hM] at HM |-
 obtain ⟨q,hq⟩:∃q,ef behind id L=q:=⟨_,rfl⟩
 rw [hq] at HM hpl;clear hM hq hT hy hx h;go_enter Tryz.func126,Tryz.ntmps126;go_wp2_with fail;refine hof.mono ?_;rintro e w1 ⟨rfl,hb⟩
 have B2:Aside (∀o,Below w.heap.size w (w1.alloc o)):=fun o=>hb.alloc hb.size o
 clear hb hof;go_wp2_with fail;refine (dt _ base p v L id (HT.o.later (B2.o _)) zo).mono ?_;rintro e w2 ⟨rfl,hb2⟩;rw [HI.o];have B3:Aside (Below w.heap.size w w2):=(B2.o _).trans (hb2.mono (B2.o _).size);clear hb2 B2;go_wp2_with fail;refine (dt _ base p v L behind (HT.o.later B3.o) zo).mono ?_;rintro e w3 ⟨rfl,hb3⟩;rw [hbf.o.1];have B4:Aside (Below w.heap.size w w3):=zj B3.o hb3;clear hb3 B3;go_upto_region 7 with fail;go_cut [42] (fun s42 wx=>s42= .bool false/\wx=w3)
 case first=>
  rcases hbf.o.2 with ⟨rfl,rfl⟩ | hp
  ·go_wp2;go_meet;exact km8
  have dp:decide (bf<0)=false:=decide_eq_false zo;go_wp2;go_meet;exact km8
 obtain ⟨rfl,rfl⟩:=hcut;go_upto_region 9 with fail;have hpc:=AU wc.drew base p k v L id (HT.o.later B4.o.drew) zo hk HX.o;rw [hpl.o] at hpc;obtain ⟨Y,hY,BY,hYb,hYs⟩:=CM B4.o #[.int .i64 id,.int .u8 (c:Int),.bool true] 250;have hpy:=AU Y base p k v L id (HT.o.later BY) zo hk HX.o;rw [hpl.o] at hpy;have hS0:wc.drew.cell? ⟨p,0,none⟩=some v:=(HT.o.later B4.o.drew).c0;refine bs (S:=fun w'=>w'.cell? ⟨p,0,none⟩=some v) (z:=17) zq hS0 (fun hHeld=> ?_);refine aX (i:=0) (v:= ?v0) zu rfl zq zq zq (fun _ _ _ h=>h) (Or.inl ⟨zA,?hy0⟩) hHeld ?rest0
 case hy0=>(intro w' _;go_simp;try with_reducible rfl)
 refine qn ?_;refine aX (i:=1) (v:= ?v1) zu rfl zq zq zq (fun _ _ _ h=>h) (Or.inl ⟨zA,?hy1⟩) hHeld ?rest1
 case hy1=>(intro w' _;go_simp;try with_reducible rfl)
 refine qn ?_;refine aX (i:=2) (v:= ?v2) zu rfl zq zq zq (fun _ _ _ h=>h) (Or.inl ⟨zA,?hy2⟩) hHeld ?rest2
 case hy2=>(intro w' _;go_simp;try with_reducible rfl)
 refine qn ?_;refine aX (i:=3) (v:= ?v3) zu rfl zq zq zq (fun _ _ _ h=>h) (Or.inl ⟨zA,?hy3⟩) hHeld ?rest3
 case hy3=>(intro w' _;go_simp;try with_reducible rfl)
 refine qn ?_;refine aw (i:=4) (v:= ?v4) zu zq rfl zq zq zq zq (fun _ _ _ h=>h) (Or.inl ⟨zA,?hy4⟩) hHeld ?rest4
 case hy4=>(intro w' hSw;go_simp;try with_reducible rfl)
 refine qn ?_;refine aX (i:=5) (v:= ?v5) zu rfl zq zq zq (fun _ _ _ h=>h) (Or.inl ⟨zA,?hy5⟩) hHeld ?rest5
 case hy5=>(intro w' _;go_simp;try with_reducible rfl)
 refine qn ?_;refine aX (i:=6) (v:= ?v6) zu rfl zq zq zq (fun _ _ _ h=>h) (Or.inl ⟨zA,?hy6⟩) hHeld ?rest6
 case hy6=>(intro w' _;go_simp;try with_reducible rfl)
 refine qn ?_;refine aX (i:=7) (v:= ?v7) zu rfl zq zq zq (fun _ _ _ h=>h) (Or.inl ⟨zA,?hy7⟩) hHeld ?rest7
 case hy7=>(intro w' _;go_simp;try with_reducible rfl)
 refine qn ?_;refine aX (i:=8) (v:= ?v8) zu rfl zq zq zq (fun _ _ _ h=>h) (Or.inl ⟨zA,?hy8⟩) hHeld ?rest8
 case hy8=>(intro w' _;go_simp;try with_reducible rfl)
 refine qn ?_;refine aX (i:=10) (v:= ?v10) zu rfl zq zq zq (fun _ _ _ h=>h) (Or.inl ⟨zA,?hy10⟩) hHeld ?rest10
 case hy10=>(intro w' _;go_simp;try with_reducible rfl)
 refine qn ?_;refine aX (i:=11) (v:= ?v11) zu rfl zq zq zq (fun _ _ _ h=>h) (Or.inl ⟨zA,?hy11⟩) hHeld ?rest11
 case hy11=>(intro w' _;go_simp;try with_reducible rfl)
 refine qn ?_;refine aX (i:=12) (v:= ?v12) zu rfl zq zq zq (fun _ _ _ h=>h) (Or.inl ⟨zA,?hy12⟩) hHeld ?rest12
 case hy12=>(intro w' _;go_simp;try with_reducible rfl)
 refine qn ?_;refine Ak (i:=9) (j:=13) zq rfl rfl (fun K hK=> ?pa) (fun K hK=> ?al)
 case pa=>
  go_simp;refine hpc.mono ?_;rintro e w4 ⟨rfl,hb4⟩;have B5:Below w.heap.size w w4:=zj B4.o.drew hb4;refine hK _ _ (.inl (HT.o.later B5).c0) ?_;clear hK K;refine qn ?_;obtain ⟨X,hX⟩:=zc (w4.alloc (.cells #[.int .i64 id,.int .u8 (c:Int),.bool true] 250))
  have BX:Below w.heap.size w X:=by rw [hX];exact B5.alloc B5.size _
  have TX:Aside (LineAt base X p v L/\Below w.heap.size w X):=⟨HT.o.later BX,BX⟩
  have hlay:=nV X base p w4.heap.size q v L (id,c,false) TX.o.1 (by have:=BX.size;omega) hL HM.o.2.2.2.2.2 (by rw [hX];exact heap_alloc_new w4 _) (fun e=>by have h1:=((HT.o.later B5).ne _ e.symm).2.1;omega);refine aF (i:=13) zq rfl (fun K hK=> ?_);go_simp;rw [<-hX];refine hK _ _ (.inl TX.o.1.c0) ?_;clear hK K hX;refine qn ?_;refine aF (i:=14) zq rfl (fun K hK=> ?_);go_simp;refine hlay.mono ?_;rintro e w5 ⟨g',cap',rfl,u1,u2,H5⟩;refine hK _ _ (.inl u1) ?_;clear hK K;refine qn ?_;refine aX (i:=15) (v:= ?v15) zu rfl zq zq zq (fun _ _ _ h=>h) (Or.inl ⟨zA,?hy15⟩) u1 ?rest15
  case hy15=>(intro w' _;go_simp;try with_reducible rfl)
  refine qn ?_;refine aX (i:=16) (v:= ?v16) zu rfl zq zq zq (fun _ _ _ h=>h) (Or.inl ⟨zA,?hy16⟩) u1 ?rest16
  case hy16=>(intro w' _;go_simp;try with_reducible rfl)
  exact kd4
 case al=>
  go_simp;rw [<-hY];refine hK _ _ (.inl (HT.o.later BY).c0) ?_;clear hK K hY;refine qn ?_;refine aF (i:=9) zq rfl (fun K hK=> ?_);go_simp;refine hpy.mono ?_;rintro e X ⟨rfl,hbX⟩;have BX:Below w.heap.size w X:=zj BY hbX
  have TX:Aside (LineAt base X p v L/\Below w.heap.size w X):=⟨HT.o.later BX,BX⟩
  have hlay:=nV X base p wc.heap.size q v L (id,c,false) TX.o.1 (by have:=BX.size;omega) hL HM.o.2.2.2.2.2 ((hbX.block _ hYs).trans hYb) (fun e=>by have h1:=((HT.o.later B4.o).ne _ e.symm).2.1;omega);refine hK _ _ (.inl TX.o.1.c0) ?_;clear hK K;refine qn ?_;refine aF (i:=14) zq rfl (fun K hK=> ?_);go_simp;refine hlay.mono ?_;rintro e w5 ⟨g',cap',rfl,u1,u2,H5⟩;refine hK _ _ (.inl u1) ?_;clear hK K;refine qn ?_;refine aX (i:=15) (v:= ?vb15) zu rfl zq zq zq (fun _ _ _ h=>h) (Or.inl ⟨zA,?hyb15⟩) u1 ?restb15
  case hyb15=>(intro w' _;go_simp;try with_reducible rfl)
  refine qn ?_;refine aX (i:=16) (v:= ?vb16) zu rfl zq zq zq (fun _ _ _ h=>h) (Or.inl ⟨zA,?hyb16⟩) u1 ?restb16
  case hyb16=>(intro w' _;go_simp;try with_reducible rfl)
  exact kd4
