import Derived.Test.YtpdbnnimdkfajaaGreatDoorVS01
import Derived.Test.YtpdbnnimdkfajaaGreatDoorVS02
import Derived.Test.YtpdbnnimdkfajaaGreatDoorVS03
import Derived.Shelf.Spec.SlicesInsertGrow
set_option linter.unusedSimpArgs false
set_option linter.unusedVariables false
set_option maxRecDepth 100000
set_option maxHeartbeats 64000000
namespace Go.Proofs.YtpdbnnimdkfajaaGreatDoor
open Go.Proofs.Tryz
variable {D:DataW Unit} {z:DataW Unit×List MemPlace} {L zs:List Ltr} {xs:List Value} {i k n o p:Nat} {ao:Option Addr} {e:TypeId} {v:Value} {w w':World}
section
open Go Go.Maps
abbrev NKey:=Int×Int
abbrev NSta:=NKey->Option OpX
def noN:NSta:=fun _=>none
def encN (k:NKey):Value:=.agg #[.int .i64 k.1,.int .i64 k.2]
theorem encN_inj {p q:NKey} (h:encN p=encN q):p=q:=by
 obtain ⟨a,s⟩:=p
 obtain ⟨a',s'⟩:=q
 simp [encN] at h
 obtain ⟨rfl,rfl⟩:=h
 rfl
def encO (x:OpX):Value:=.agg #[.int .i64 x.1,.int .i64 x.2.1,.int .i64 x.2.2.1,.int .u8 (x.2.2.2.1:Int),.int .i64 x.2.2.2.2.1,.int .i64 x.2.2.2.2.2.1,.string x.2.2.2.2.2.2.1,.string x.2.2.2.2.2.2.2]
def zeroO:OpX:=(0,0,0,0,0,0,⟨#[]⟩,⟨#[]⟩)
def datO (x:OpX):DataW Unit:=.agg [.lit (.int .i64 x.1),.lit (.int .i64 x.2.1),.lit (.int .i64 x.2.2.1),.lit (.int .u8 (x.2.2.2.1:Int)),.lit (.int .i64 x.2.2.2.2.1),.lit (.int .i64 x.2.2.2.2.2.1),.lit (.string x.2.2.2.2.2.2.1.data.toList),.lit (.string x.2.2.2.2.2.2.2.data.toList)]
theorem datO_inj {p q:OpX} (h:datO p=datO q):p=q:=by
 obtain ⟨t,b,n,k,nd,o,⟨⟨s⟩⟩,⟨⟨v⟩⟩⟩:=p
 obtain ⟨t',b',n',k',nd',o',⟨⟨s'⟩⟩,⟨⟨v'⟩⟩⟩:=q
 simp [datO] at h
 obtain ⟨rfl,rfl,rfl,h4,rfl,rfl,rfl,rfl⟩:=h
 obtain rfl:k=k':=zi
 rfl
def opL (l:List Value):Option (DataW Unit×List MemPlace):=match l with
 | [.int .i64 t,.int .i64 b,.int .i64 n,.int .u8 k,.int .i64 nd,.int .i64 o,.string s,.string v]=>if 0<=k then some (datO (t,b,n,k.toNat,nd,o,s,v),[]) else none
 | _=>none
def opR (v:Value):Option (DataW Unit×List MemPlace):=match v with
 | .agg cs=>opL cs.toList
 | _=>none
theorem opR_mk (x:OpX):opR (encO x)=some (datO x,[]):=by
 simp [opR,encO,opL]
theorem opL_inv {l:List Value} (h:opL l=some z):∃x:OpX,l=encX x/\z=(datO x,[]):=by
 unfold opL at h
 split at h
 ·rename_i t b n k nd o s v
  split at h
  ·rename_i hk
   cases h
   refine ⟨(t,b,n,k.toNat,nd,o,s,v),?_,rfl⟩
   simp [encX,Int.toNat_of_nonneg hk]
  cases h
 cases h
theorem opR_inv (h:opR v=some z):∃x,v=encO x/\z=(datO x,[]):=by
 unfold opR at h
 split at h
 ·rename_i cs
  obtain ⟨x,e,rfl⟩:=opL_inv h
  refine ⟨x,?_,rfl⟩
  unfold encO
  unfold encX at e
  rw [<-e]
 cases h
def WfN (k:NKey):Prop:=(Lit.int .i64 k.1).wf=true/\(Lit.int .i64 k.2).wf=true
def nlit (k:NKey):Lit:=.string (keyBytes [.int .i64 k.1,.int .i64 k.2])
section
variable {P:Program} {K I:TypeId} {f g:Field}
theorem nkey_mkP (hu:P.underlying K=some (.struct #[f,g])) (f1:f.type=I) (f2:f.offset=0) (f3:(f.name != "_")=true) (g1:g.type=I) (g2:g.offset=1) (g3:(g.name != "_")=true) (hI:P.underlying I=some (.int .i64)) (cK:P.cellsOf K=2) (cI:P.cellsOf I=1) (hT:P.keyType K=true) (e:Nat) (he:P.types.size=e+1) {k:NKey} (h:WfN k):keyOf P K (encN k)=some (nlit k):=by
 obtain ⟨h1,h2⟩:=h
 have hf:(encN k).formed P K=true:=by simp [Value.formed,encN,hu,cK]
 unfold keyOf
 rw [hu]
 dsimp only
 rw [hT,hf]
 simp only [Bool.and_self,if_true]
 rw [keyLits_struct hu,he]
 simp [encN,Value.cells,cK,cI,f1,f2,f3,g1,g2,g3,keyLits_int hI,h1,h2,nlit]
end
theorem nkeyRow:204<prog.types.size:=of_decide_eq_true zj
theorem nkeyWide:(match prog.underlying 204 with | some (.array _ _) | some (.struct _)=>true | _=>false)=true:=zj
theorem lawN:Keyed prog 204:=Keyed.of_law (deep_law_laid keyOut (m:=2) zi nkeyRow zj nkeyWide)
theorem nkeyIs:prog.keyType 204=true:=zj
theorem nkeyCells:prog.cellsOf 204=2:=zj
theorem nkey_mk {k:NKey} (h:WfN k):keyOf prog 204 (encN k)=some (nlit k):=by
 obtain ⟨e,he⟩:=keySize
 exact nkey_mkP underlying204 rfl rfl zo rfl rfl zo underlying3 nkeyCells keyCellsI nkeyIs e he h
theorem nlit_ne {a b:NKey} (ha:WfN a) (hb:WfN b) (h:a≠b):nlit a≠nlit b:=fun e=>h (encN_inj (lawN.inj (nkey_mk ha) (by rw [e];exact nkey_mk hb)))
theorem nlit_is {k:NKey} :WideAt.IsKeyLit (nlit k):=trivial
theorem wfN_of {k:NKey} (h0: -2^63<=k.1) (h1:k.1<2^63) (h2: -2^63<=k.2) (h3:k.2<2^63):WfN k:=⟨wf_i64 h0 h1,wf_i64 h2 h3⟩
def ReadsN (D:DataW Unit) (f:NSta):Prop:=∀k,WfN k->match f k with
 | none=>has D (nlit k)=false
 | some c=>∀z,D.atKey (nlit k) z=datO c
theorem ReadsN.gone {f:NSta} (h:ReadsN D f) {k:NKey} (hk:WfN k) (hf:f k=none):has D (nlit k)=false:=by
 have:=h k hk;rw [hf] at this;exact this
theorem ReadsN.held {f:NSta} (h:ReadsN D f) {k:NKey} (hk:WfN k) {c:OpX} (hf:f k=some c) (z:DataW Unit):D.atKey (nlit k) z=datO c:=by
 have:=h k hk;rw [hf] at this;exact this z
theorem ReadsN.has {D:DataW Unit} {f:NSta} (h:ReadsN D f) {k:NKey} (hk:WfN k):Maps.has D (nlit k)=(f k).isSome:=by
 cases hf:f k with
 | none=>rw [h.gone hk hf];rfl
 | some p=>rw [has_true_of_atKey (h.held hk hf)];rfl
theorem ReadsN.at {f:NSta} (h:ReadsN D f) {k:NKey} (hk:WfN k):D.atKey (nlit k) (datO zeroO)=datO ((f k).getD zeroO):=by
 cases hf:f k with
 | none=>rw [atKey_of_not_has (h.gone hk hf)];rfl
 | some p=>rw [h.held hk hf];rfl
theorem readsN_put {f:NSta} (h:ReadsN D f) (hD:IsMap D) {k:NKey} (hk:WfN k) (c:OpX):ReadsN (D.put (nlit k) (datO c)) (fun x=>if x=k then some c else f x):=by
 intro x hx
 dsimp only
 by_cases e:x=k
 ·subst e
  rw [if_pos rfl]
  exact fun z=>atKey_put_same hD nlit_is _ _
 rw [if_neg e]
 cases hf:f x with
 | none=>rw [has_put_other (nlit_ne hx hk e)];exact h.gone hx hf
 | some q=>intro z;rw [atKey_put_other (nlit_ne hx hk e)];exact h.held hx hf z
def NMapAt (w:World) (b n:Nat) (f:NSta):Prop:=∃D,w.ownsMap prog 204 opR b n D/\ReadsN D f
theorem NMapAt.lt {w:World} {b n:Nat} {f:NSta} (h:NMapAt w b n f):b<w.heap.size:=by
 obtain ⟨D,h,_⟩:=h;exact h.lt
theorem NMapAt.same {b:Nat} {f:NSta} (h:NMapAt w b n f) (e:w'.heap[b]? =w.heap[b]?):NMapAt w' b n f:=by
 obtain ⟨D,⟨es,clock,hb,F⟩,r⟩:=h
 exact ⟨D,⟨es,clock,e.trans hb,F⟩,r⟩
theorem nmapAt_made (w:World):NMapAt (w.alloc (.map #[] 0)) w.heap.size 0 noN:=
 ⟨_,World.ownsMap_made w prog 204 opR,fun _ _=>rfl⟩
theorem zeroOp (w:World):(zeroValue 38).run prog w= .ok (encO zeroO) w:=zeroValue38 w
theorem NMapAt.look {b:Nat} {f:NSta} (h:NMapAt w b n f) {k:NKey} (hk:WfN k):
  (Instr.lookup 201 (.map (some b)) (encN k) true).run prog w= .ok (.tuple #[encO ((f k).getD zeroO),.bool (f k).isSome]) w:=by
 obtain ⟨D,h,r⟩:=h
 obtain ⟨v,ps,hrun,hv⟩:=h.look_ok lawN underlying201 (zeroOp w) (opR_mk zeroO) (nkey_mk hk)
 obtain ⟨p,rfl,hp⟩:=opR_inv hv
 rw [r.at hk,Prod.mk.injEq] at hp
 rw [hrun,r.has hk,datO_inj hp.1]
theorem NMapAt.store {w:World} {b n:Nat} {f:NSta} (h:NMapAt w b n f) (hn:n<maxLen) {k:NKey} (hk:WfN k) (c:OpX):
  ∃w',(Instr.mapUpdate 201 (.map (some b)) (encN k) (encO c)).run prog w= .ok () w'/\NMapAt w' b (n+1) (fun x=>if x=k then some c else f x)/\w.mapTurned w' b:=by
 obtain ⟨D,h,r⟩:=h
 obtain ⟨w',hrun,h',ht⟩:=h.store lawN underlying201 hn (nkey_mk hk) (opR_mk c)
 exact ⟨w',hrun,⟨_,h',readsN_put r h.isMap hk c⟩,ht⟩
end
section
open Go.Shelf Go.RowKit Go.Lib
theorem infoLtr:(prog.info? 250).map (fun i=>(i.zero,i.size,i.bytes))=some (some (.agg #[.int .i64 0,.int .u8 0,.bool false]),3,16):=zj
def LaidL (w:World) (base:Nat) (v:Value) (n:Nat) (ys:List Value) (e:Ending) (w':World):Prop:=
 ∃v',e= .returned v'/\w'.ownsRow base 250 3 v' (n+1) ys/\Keeps (fun k=>some k=v.ownBlock) w w'/\(v'.ownBlock=v.ownBlock\/v'.ownBlock=some w.heap.size)
theorem linsert_end (w:World) (base:Nat) (v:Value) (n:Nat) (xs vs:List Value) (hown:w.ownsRow base 250 3 v n xs) (hn:n<=1000) (vb:Nat) (hv:vs.length=3)
  (hvs:∀j u,vs[j]? =some u->w.cell? ⟨vb,j,none⟩=some u) (h1v:∀u∈vs,u.oneCell'=true) (hbase:base<=w.heap.size):
  Calls prog 193 #[v,.int .i64 n,.slice (some ⟨vb,0,none⟩) 1 1] w (LaidL w base v n (xs++vs)):=by
 obtain ⟨i0,hi,hz0,hz1,hz2⟩:=info_parts infoLtr
 obtain ⟨v',w',hrun,ho,hg,hb⟩:=append_at (P:=prog) w base 246 246 250 i0 _ 3 16 underlying246 hi hz0 hz1 hz2 rfl zi v n xs hown ⟨vb,0,none⟩ 1 1 zi vs zi
  (fun j u hj=>xw) h1v zD zi hbase
 have hfin:Aside (LaidL w base v n (xs++vs) (.returned v') w'):=⟨v',rfl,ho,keeps_of_grown hg,hb⟩
 rcases hown.2 with ⟨rfl,rfl⟩ | ⟨g,cap,cur,rfl,hbg,hgb,hnc,hcm,hcs,htake⟩
 ·clear hown ho hg hb hvs h1v
  go_enter func193,ntmps193
  go_wp2_with (at_builtin;refine Lib.wpList_append_run _ rfl _ _ _ _ rfl _ _ rfl rfl _ _ hrun ?_)
  go_ret
  exact hfin.o
 clear hown ho hg hb hvs h1v htake hcs hgb hbg
 go_enter func193,ntmps193
 go_wp2_with (at_builtin;refine Lib.wpList_append_run _ rfl _ _ _ _ rfl _ _ rfl rfl _ _ hrun ?_)
 all_goals (go_ret;exact hfin.o)
theorem linsert_room (w:World) (base g n cap i:Nat) (xs vs:List Value) (hown:w.ownsRow base 250 3 (.slice (some ⟨g,0,none⟩) n cap) n xs) (hn:n<=1000) (vb:Nat) (hv:vs.length=3)
  (hvs:∀j u,vs[j]? =some u->w.cell? ⟨vb,j,none⟩=some u) (h1v:∀u∈vs,u.oneCell'=true) (h1x:∀u∈xs,u.oneCell'=true) (hvb:vb≠g) (hsa:w.shape? vb=some (250,3)) (hfa:∀j,w.frozen? ⟨vb,j,none⟩=false)
  (hi:i<n) (hroom:n+1<=cap):
  Calls prog 193 #[.slice (some ⟨g,0,none⟩) n cap,.int .i64 i,.slice (some ⟨vb,0,none⟩) 1 1] w (LaidL w base (.slice (some ⟨g,0,none⟩) n cap) n (xs.take (i*3)++vs++xs.drop (i*3))):=by
 have hL:Aside (∀W:World,W.heap=w.heap->W.os=w.os->W.tape=w.tape->W.output=w.output->LaidL w base (.slice (some ⟨g,0,none⟩) n cap) n (xs.take (i*3)++vs++xs.drop (i*3)) (.returned (.slice (some ⟨g,0,none⟩) (n+1) cap)) ((W.setCells g ((i+1)*3) (xs.drop (i*3))).setCells g (i*3) vs)):=by
  intro W h0 h2 h3 h4
  have hownW:W.ownsRow base 250 3 (.slice (some ⟨g,0,none⟩) n cap) n xs:=jf
  have k1:=(setCells_keeps g (xs.drop (i*3)) ((i+1)*3) W).trans (setCells_keeps g vs (i*3) _)
  exact ⟨_,rfl,owns_laidIn hownW hroom zi hv,⟨k1.os.trans h2,k1.tape.trans h3,k1.output.trans h4,by rw [<-h0];exact k1.size,fun k hk hs=>by
   rw [<-h0]
   exact k1.block k (by rw [h0];exact hk) (fun e=>hs qF)⟩,.inl rfl⟩
 obtain ⟨hxl,h2⟩:=hown
 rcases h2 with ⟨hc,_⟩ | ⟨g',cap',cur,hc,hbg,hgb,hnc,hcm,hcs,htake⟩
 ·cases hc
 cases hc
 have hcm':cap<=9223372036854775807:=by simp only [maxLen] at hcm;omega
 have hsp:∀j,j<(n+1)*3->(w.cell? ⟨g,j,none⟩).isSome=true:=fun j hj=>by
  have:j<cur.size:=by rw [hcs];omega
  simp [World.cell?,hgb,this]
 have hfz:∀j,w.frozen? ⟨g,j,none⟩=false:=fun j=>by simp [World.frozen?,hgb]
 have hcell:∀j u,xs[j]? =some u->w.cell? ⟨g,j,none⟩=some u:=fun j u hj=>by
  have hlt:=(jh.1 hj).1
  rw [<-htake,vI,if_pos zi] at hj
  simp [World.cell?,hgb,<-hj]
 have hsb:w.shape? g=some (250,cap*3):=by simp [World.shape?,hgb,hcs]
 have hsz:(prog.info? 250).map (·.size)=some 3:=by
  obtain ⟨i0,hi0,_,h1,_⟩:=info_parts infoLtr
  rw [hi0];simp [h1]
 have hov:∀lb cb,(callFunc 232 #[.slice (some ⟨vb,0,none⟩) 1 1,.slice (some ⟨g,(i+1)*3,none⟩) lb cb]).run prog w= .ok (.value (.bool false)) w:=fun lb cb=>by
  rw [run_callFunc_extern func232 zj zj zj (e:=Extern.SlicesOverlaps.overlaps #[246,246] #[4]) zj,
   Lib.run_overlaps_apart w 246 4 250 underlying246 3 sizeOf250 ⟨vb,0,none⟩ ⟨g,(i+1)*3,none⟩ 1 1 lb cb hvb 250 250 3 (cap*3) hsa hsb zi (hfa 0) (hfa 3)]
  rfl
 have hdl:(xs.drop (i*3)).length=n*3 - i*3:=yR
 have hcp1:∀ty dc sc,(Builtin.copy_ #[246,246] ty #[.slice (some ⟨g,(i+1)*3,none⟩) (n - i) dc,.slice (some ⟨g,i*3,none⟩) (n+1 - i) sc]).run prog w.drew= .ok (goInt ((n - i:Nat):Int)) (w.drew.setCells g ((i+1)*3) (xs.drop (i*3))):=fun ty dc sc=>by
  have hmin:Nat.min (n+1 - i) (n - i)=n - i:=zW
  have:=run_copy_k (P:=prog) w.drew 246 246 ty 250 3 g ((i+1)*3) (n - i) dc ⟨g,i*3,none⟩ (n+1 - i) sc (xs.drop (i*3)) underlying246 hsz qy
   (fun j u hj=>by rw [Addr.add_lit];exact hcell _ u (by rwa [vg] at hj))
   (fun j hj=>hsp _ ql) (fun j _=>hfz _) (fun u hu=>h1x u (ug hu))
  rw [hmin] at this
  exact this
 obtain ⟨W1,hW1⟩:=za (w.drew.setCells g ((i+1)*3) (xs.drop (i*3)))
 have hsp1:∀j,j<(n+1)*3->(W1.cell? ⟨g,j,none⟩).isSome=true:=fun j hj=>by
  rw [hW1]
  exact isSome_setCells g (xs.drop (i*3)) ((i+1)*3) w.drew (fun t ht=>hsp ((i+1)*3+t) (by rw [hdl] at ht;omega)) _ (hsp j hj)
 have hcp2:∀(W:World),(∀x,W.cell? x=W1.cell? x)->(∀x,W.frozen? x=W1.frozen? x)->∀ty dc,(Builtin.copy_ #[246,246] ty #[.slice (some ⟨g,i*3,none⟩) (n+1 - i) dc,.slice (some ⟨vb,0,none⟩) 1 1]).run prog W= .ok (goInt 1) (W.setCells g (i*3) vs):=fun W hWc hWf ty dc=>by
  have hmin:Nat.min 1 (n+1 - i)=1:=zW
  have:=run_copy_k (P:=prog) W 246 246 ty 250 3 g (i*3) (n+1 - i) dc ⟨vb,0,none⟩ 1 1 vs underlying246 hsz xB
   (fun j u hj=>by
    rw [Addr.add_lit,jt,hWc,hW1,vH g _ _ _ _ (fun h _=>absurd h hvb)]
    exact hvs j u hj)
   (fun j hj=>by rw [hWc];exact hsp1 _ zi) (fun j _=>by rw [hWf,hW1,vM];exact hfz _) h1v
  rw [hmin] at this
  exact this
 rw [<-hW1] at hcp1
 have hw1:IntKind.i64.wrap ((i:Int)+1)=(i:Int)+1:=zq
 have hw2:IntKind.i64.wrap ((n:Int)+1)=(n:Int)+1:=zq
 have hb1:(0:Int)<=(i:Int)+1:=zi
 have hz2:¬((i:Int)=(n:Int)):=zi
 have hin:i<=n:=zi
 have htn:((i:Int)+1).toNat=i+1:=zi
 have htn2:((n:Int)+1).toNat=n+1:=zi
 have hb2:¬(cap=i+1):=zi
 have hb3:(i:Int)<=(n:Int)+1:=zi
 have hb4:¬(cap=i):=zi
 have hb5:¬((cap:Int)<(n:Int)+1):=zi
 clear htake hcs hgb hsp hfz hcell hsb hcm hxl hdl hvs h1v h1x hsa hfa hsp1 hbg
 go_enter func193,ntmps193
 go_wp2_with (simp only [hov])
 have mixed:prog.follows .mixedOrders=true:=zj
 go_region_law_o (refine step_copy_runI rfl _ _ 246 246 rfl _ _ zY zY (hcp1 _ _ _) ?_)
 clear mixed
 go_wp2_with (at_builtin;refine wpList_copy_runI _ rfl _ _ 246 246 rfl _ _ rfl rfl (hcp2 _ (fun _=>rfl) (fun _=>rfl) _ _) ?_)
 go_ret
 subst hW1
 exact hL.o w.drew rfl rfl rfl rfl
theorem linsert_grow (w:World) (base g n cap i:Nat) (xs vs:List Value) (hown:w.ownsRow base 250 3 (.slice (some ⟨g,0,none⟩) n cap) n xs) (hn:n<=1000) (vb:Nat) (hv:vs.length=3)
  (hvs:∀j u,vs[j]? =some u->w.cell? ⟨vb,j,none⟩=some u) (h1v:∀u∈vs,u.oneCell'=true) (h1x:∀u∈xs,u.oneCell'=true) (hbase:base<=w.heap.size)
  (hi:i<n) (hroom:cap<n+1):
  Calls prog 193 #[.slice (some ⟨g,0,none⟩) n cap,.int .i64 i,.slice (some ⟨vb,0,none⟩) 1 1] w (LaidL w base (.slice (some ⟨g,0,none⟩) n cap) n (xs.take (i*3)++vs++xs.drop (i*3))):=by
 obtain ⟨hxl,h2⟩:=hown
 rcases h2 with ⟨hc,_⟩ | ⟨g',cap',cur,hc,hbg,hgb,hnc,hcm,hcs,htake⟩
 ·cases hc
 cases hc
 obtain ⟨i0,hi0,hz0,hzs,hzb⟩:=info_parts infoLtr
 have hcell:∀j u,xs[j]? =some u->w.cell? ⟨g,j,none⟩=some u:=fun j u hj=>by
  have hlt:=(jh.1 hj).1
  rw [<-htake,vI,if_pos zi] at hj
  simp [World.cell?,hgb,<-hj]
 have hgw:g<w.heap.size:=(jk.1 hgb).1
 have hvw:vb<w.heap.size:=block_lt_of_cell (hvs 0 _ (ji zi))
 have hsz:(prog.info? 250).map (·.size)=some 3:=by rw [hi0];simp [hzs]
 have htl:(xs.take (i*3)).length=i*3:=by rw [jz,hxl];omega
 have hdl:(xs.drop (i*3)).length=n*3 - i*3:=yR
 have hold:(Builtin.firstCells i0.size i (.slice (some ⟨g,0,none⟩) i cap)).run prog w.drew= .ok (xs.take (i*3)).toArray w.drew:=by
  rw [hzs]
  exact run_firstCells_some w.drew 3 i ⟨g,0,none⟩ i cap (xs.take (i*3)) htl (fun j u hj=>by
   rw [Addr.add_lit,jt]
   rw [vI] at hj
   split at hj
   ·exact hcell j u hj
   ·cases hj)
 have hik:i+(n+1 - i)=n+1:=zi
 have hkk:(n:Int)+1 - (i:Int)=((n+1 - i:Nat):Int):=zi
 obtain ⟨Z,hZ⟩:=za ((Value.agg #[.int .i64 0,.int .u8 0,.bool false]).cells)
 have hZs:Z.size=3:=by rw [hZ];rfl
 obtain ⟨G,hG⟩:=za (grownCap w (n+1) cap 250)
 have hGn:n+1<=G:=by rw [hG];exact grownCap_ge w _ _ _
 have hGm:G<=maxLen:=by rw [hG];exact grownCap_le_maxLen w (n+1) cap 250 (by unfold maxLen;omega)
 obtain ⟨ROW,hROW⟩:∃ROW:Array Value,ROW=(xs.take (i*3)).toArray++Builtin.zeroCells Z (n+1 - i)++Builtin.zeroCells Z (G - (n+1)):=⟨_,rfl⟩
 have hrz:∀ty,(Builtin.append_ #[246,3] ty #[.slice (some ⟨g,0,none⟩) i cap,.int .i64 ((n:Int)+1 - (i:Int))]).run prog w= .ok (.slice (some ⟨w.heap.size,0,none⟩) (n+1) G) (w.drew.alloc (.cells ROW 250)):=fun ty=>by
  have h:=Lib.run_append_grow_zeros w 246 3 ty 250 i0 _ .i64 .i64 underlying246 underlying3 hi0 hz0 (some ⟨g,0,none⟩) i cap (xs.take (i*3)) hold (n+1 - i) zi zi zi zi (by rw [hzb];omega) xd
  rw [hik,<-hG,<-hZ,<-hROW] at h
  rw [hkk]
  exact h
 have hRs:ROW.size=G*3:=by
  rw [hROW]
  simp only [Array.size_append,jN,htl,size_zeroCells,hZs]
  omega
 have hRl:∃Y,ROW.toList=xs.take (i*3)++Y:=⟨(Builtin.zeroCells Z (n+1 - i)++Builtin.zeroCells Z (G - (n+1))).toList,by rw [hROW];simp⟩
 obtain ⟨W1,hW1⟩:=za (w.drew.alloc (.cells ROW 250))
 rw [<-hW1] at hrz
 have hN:∀j,j<(n+1)*3->(W1.cell? ⟨w.heap.size,j,none⟩).isSome=true:=fun j hj=>by
  rw [hW1,World.cell?_alloc_at (w:=w.drew) ROW _ w.heap.size j rfl,uj zi];rfl
 have hNf:∀j,W1.frozen? ⟨w.heap.size,j,none⟩=false:=fun j=>by rw [hW1];exact World.frozen?_alloc_at (w:=w.drew) ROW _ w.heap.size j rfl
 have hOb:∀j u,w.cell? ⟨g,j,none⟩=some u->W1.cell? ⟨g,j,none⟩=some u:=fun j u h=>by rw [hW1,uF (w:=w.drew) _ g j hgw];exact h
 have hOv:∀j u,w.cell? ⟨vb,j,none⟩=some u->W1.cell? ⟨vb,j,none⟩=some u:=fun j u h=>by rw [hW1,uF (w:=w.drew) _ vb j hvw];exact h
 have hcpA:∀(W:World),(∀x,W.cell? x=W1.cell? x)->(∀x,W.frozen? x=W1.frozen? x)->∀ty dc,(Builtin.copy_ #[246,246] ty #[.slice (some ⟨w.heap.size,i*3,none⟩) (n+1 - i) dc,.slice (some ⟨vb,0,none⟩) 1 1]).run prog W= .ok (goInt 1) (W.setCells w.heap.size (i*3) vs):=fun W hWc hWf ty dc=>by
  have hmin:Nat.min 1 (n+1 - i)=1:=zW
  have:=run_copy_k (P:=prog) W 246 246 ty 250 3 w.heap.size (i*3) (n+1 - i) dc ⟨vb,0,none⟩ 1 1 vs underlying246 hsz xB
   (fun j u hj=>qM)
   (fun j hj=>by rw [hWc];exact hN _ zi) (fun j _=>by rw [hWf];exact hNf _) h1v
  rw [hmin] at this
  exact this
 have hgN:g≠w.heap.size:=zi
 have hcpB:∀(W:World),(∀x,W.cell? x=(W1.setCells w.heap.size (i*3) vs).cell? x)->(∀x,W.frozen? x=(W1.setCells w.heap.size (i*3) vs).frozen? x)->∀ty dc sc,(Builtin.copy_ #[246,246] ty #[.slice (some ⟨w.heap.size,(i+1)*3,none⟩) (n - i) dc,.slice (some ⟨g,i*3,none⟩) (n - i) sc]).run prog W= .ok (goInt ((n - i:Nat):Int)) (W.setCells w.heap.size ((i+1)*3) (xs.drop (i*3))):=fun W hWc hWf ty dc sc=>by
  have hmin:Nat.min (n - i) (n - i)=n - i:=by simp [Nat.min_def]
  have:=run_copy_k (P:=prog) W 246 246 ty 250 3 w.heap.size ((i+1)*3) (n - i) dc ⟨g,i*3,none⟩ (n - i) sc (xs.drop (i*3)) underlying246 hsz qy
   (fun j u hj=>by
    rw [Addr.add_lit,hWc,vH _ _ _ _ _ (fun h _=>absurd h hgN)]
    exact hOb _ u (hcell _ u (by rwa [vg] at hj)))
   (fun j hj=>by rw [hWc];exact isSome_setCells w.heap.size vs (i*3) W1 (fun t ht=>hN _ zi) _ (hN _ ql))
   (fun j _=>by rw [hWf,vM];exact hNf _) (fun u hu=>h1x u (ug hu))
  rw [hmin] at this
  exact this
 have hL:Aside (∀W:World,W.heap=W1.heap->W.os=w.os->W.tape=w.tape->W.output=w.output->LaidL w base (.slice (some ⟨g,0,none⟩) n cap) n (xs.take (i*3)++vs++xs.drop (i*3)) (.returned (.slice (some ⟨w.heap.size,0,none⟩) (n+1) G)) ((W.setCells w.heap.size (i*3) vs).setCells w.heap.size ((i+1)*3) (xs.drop (i*3)))):=by
  intro W h0 h2 h3 h4
  have hgW:W.heap[w.heap.size]? =some (.cells ROW 250 (0,0)):=xS
  obtain ⟨Y,hY⟩:=hRl
  have k1:=(setCells_keeps w.heap.size vs (i*3) W).trans (setCells_keeps w.heap.size (xs.drop (i*3)) ((i+1)*3) _)
  have hWs:W.heap.size=w.heap.size+1:=by rw [h0,hW1];simp
  exact ⟨_,rfl,owns_newIn hgW hY hRs hbase hGn hGm zi hxl hv,⟨k1.os.trans h2,k1.tape.trans h3,k1.output.trans h4,by have:=k1.size;omega,fun k hk hs=>by
   refine (k1.block k zi zi).trans ?_
   rw [h0,hW1]
   exact jp w.drew _ k hk⟩,.inr rfl⟩
 have hG63:G<=9223372036854775807:=by unfold maxLen at hGm;omega
 have hGi:¬(G=i):=zi
 have hGim:¬(G=i+1):=zi
 have hci:¬(cap=i):=zi
 have hw1:IntKind.i64.wrap ((i:Int)+1)=(i:Int)+1:=zq
 have hw2:IntKind.i64.wrap ((n:Int)+1)=(n:Int)+1:=zq
 have hw3:IntKind.i64.wrap ((n:Int)+1 - (i:Int))=(n:Int)+1 - (i:Int):=zq
 have hb1:(0:Int)<=(i:Int)+1:=zi
 have hz2:¬((i:Int)=(n:Int)):=zi
 have hin:i<=n:=zi
 have hin2:i<=cap:=zi
 have htn:((i:Int)+1).toNat=i+1:=zi
 have hb5:((cap:Int)<(n:Int)+1):=zi
 have hb6:¬((n:Int)+1<=(cap:Int)):=zi
 have hE1:∀x,((w.alloc (.cells ROW 250)).drew).cell? x=(w.drew.alloc (.cells ROW 250)).cell? x:=fun x=>rfl
 have hE2:∀x,((w.alloc (.cells ROW 250)).drew).frozen? x=(w.drew.alloc (.cells ROW 250)).frozen? x:=fun x=>rfl
 subst hW1
 have hF1:∀x,(((w.alloc (.cells ROW 250)).drew.setCells w.heap.size (i*3) vs).drew).cell? x=((w.drew.alloc (.cells ROW 250)).setCells w.heap.size (i*3) vs).cell? x:=fun x=>rfl
 have hF2:∀x,(((w.alloc (.cells ROW 250)).drew.setCells w.heap.size (i*3) vs).drew).frozen? x=((w.drew.alloc (.cells ROW 250)).setCells w.heap.size (i*3) vs).frozen? x:=fun x=>rfl
 clear htake hcs hgb hcell hcm hxl hdl htl hvs h1v h1x hbg hold hROW hG hRs hRl hN hNf hOb hOv hik hkk hGm hZ hZs hgw hvw
 go_enter func193,ntmps193
 go_wp2_with (first
  | (at_builtin;refine Lib.wpList_append_run _ rfl _ _ _ _ rfl _ _ rfl rfl _ _ (hrz _) ?_)
  | (at_builtin;refine wpList_copy_runI _ rfl _ _ 246 246 rfl _ _ rfl rfl (hcpA _ hE1 hE2 _ _) ?_))
 have mixed:prog.follows .mixedOrders=true:=zj
 go_region_law_o (refine step_copy_runI rfl _ _ 246 246 rfl (.slice (some ⟨w.heap.size,(i+1)*3,none⟩) (n - i) (G - (i+1))) (.slice (some ⟨g,i*3,none⟩) (n - i) (cap - i)) zY zY (hcpB _ hF1 hF2 3 (G - (i+1)) (cap - i)) ?_)
 clear mixed
 go_wp2
 go_ret
 rw [drew_setCells]
 exact hL.o ((w.alloc (.cells ROW 250)).drew.drew) rfl rfl rfl rfl
theorem layLtr_any (w:World) (base n i:Nat) (v:Value) (xs vs:List Value) (hown:w.ownsRow base 250 3 v n xs) (hn:n<=1000) (vb:Nat) (hv:vs.length=3)
  (hvs:∀j u,vs[j]? =some u->w.cell? ⟨vb,j,none⟩=some u) (h1v:∀u∈vs,u.oneCell'=true) (h1x:∀u∈xs,u.oneCell'=true) (hvb:some vb≠v.ownBlock) (hsa:w.shape? vb=some (250,3)) (hfa:∀j,w.frozen? ⟨vb,j,none⟩=false) (hbase:base<=w.heap.size) (hi:i<=n):
  Calls prog 193 #[v,.int .i64 i,.slice (some ⟨vb,0,none⟩) 1 1] w (LaidL w base v n (xs.take (i*3)++vs++xs.drop (i*3))):=by
 by_cases he:i=n
 ·subst he
  have e1:xs.take (i*3)=xs:=jJ qN
  have e2:xs.drop (i*3)= []:=vR qN
  rw [e1,e2,vf]
  exact linsert_end w base v i xs vs hown hn vb hv hvs h1v hbase
 have hown':=hown
 rcases hown.2 with ⟨rfl,rfl⟩ | ⟨g,cap,cur,rfl,-⟩
 ·omega
 by_cases hroom:n+1<=cap
 ·exact linsert_room w base g n cap i xs vs hown hn vb hv hvs h1v h1x (fun e=>hvb qF) hsa hfa zi hroom
 exact linsert_grow w base g n cap i xs vs hown hn vb hv hvs h1v h1x hbase zi zi
end
section
open Go.RowKit Go.Lib Go.Sort
def encL (l:Ltr):List Value:=[.int .i64 l.1,.int .u8 (l.2.1:Int),.bool (!l.2.2)]
theorem encL_len (l:Ltr):(encL l).length=3:=rfl
theorem encL_one (l:Ltr):∀v∈encL l,v.oneCell'=true:=by
 intro v hv
 simp [encL] at hv
 rcases hv with rfl | rfl | rfl<;>rfl
theorem cellStays {b:Nat} (hb:Below w.heap.size w w') (h:w.cell? ⟨b,o,none⟩=some v):w'.cell? ⟨b,o,none⟩=some v:=by
 rw [hb.cell (p:=⟨b,o,none⟩) (jl w ⟨b,o,none⟩ h)];exact h
def LtrsIn (w:World) (ao:Option Addr) (zs:List Ltr):Prop:=zs= []\/∃blk off,ao=some ⟨blk,off,none⟩/\∀j u,(flat encL zs)[j]? =some u->w.cell? ⟨blk,off+j,none⟩=some u
theorem LtrsIn.later (h:LtrsIn w ao zs) (hb:Below w.heap.size w w'):LtrsIn w' ao zs:=by
 rcases h with h | ⟨g,o,h1,h2⟩
 ·exact .inl h
 exact .inr ⟨g,o,h1,fun j u hj=>cellStays hb (h2 j u hj)⟩
theorem LtrsIn.at (h:LtrsIn w ao zs) {a:Int} {c:Nat} {g:Bool} (hi:zs[i]? =some (a,c,g)):∃blk off,ao=some ⟨blk,off,none⟩/\w.cell? ⟨blk,off+i*3,none⟩=some (.int .i64 a)/\w.cell? ⟨blk,off+i*3+1,none⟩=some (.int .u8 (c:Int))/\w.cell? ⟨blk,off+i*3+2,none⟩=some (.bool (!g)):=by
 rcases h with h | ⟨b,o,h1,h2⟩
 ·subst h;simp at hi
 have hg:=fun k hk=>flat_get (enc:=encL) (k:=3) encL_len (c:=k) hi hk
 refine ⟨b,o,h1,?_,?_,?_⟩
 ·exact h2 (i*3+0) _ (hg 0 zi)
 ·rw [vG];exact h2 _ _ (hg 1 zi)
 rw [vG];exact h2 _ _ (hg 2 zi)
def PredL (g:Nat) (lb:Array Value) (p:Ltr->Bool) (w:World):Prop:=
 ∀(W:World) (a:Int) (c:Nat) (gn:Bool),Below w.heap.size w W->Calls prog g (#[.agg #[.int .i64 a,.int .u8 (c:Int),.bool (!gn)]]++lb) W fun e w'=>e= .returned (.bool (p (a,c,gn)))/\Below w.heap.size w w'
theorem idxFunc_any (p:Ltr->Bool) (g:Nat) (lb:Array Value) (eg:∀args w,(callFunc g args).run prog w= .ok (.enter g args) w) (ao:Option Addr) (cap:Nat) (zs:List Ltr) (w:World) (hp:PredL g lb p w) (hbig:zs.length<=1000000) (hin:LtrsIn w ao zs):
  Calls prog 230 #[.slice ao zs.length cap,.func (.func g) #[] lb] w fun e w'=>∃r:Int,e= .returned (.int .i64 r)/\Aside (IdxIs p zs r/\Below w.heap.size w w'):=by
 have HP:Aside (PredL g lb p w):=hp
 have HI:Aside (LtrsIn w ao zs):=hin
 clear hp hin
 go_enter func230,ntmps230
 go_wp2
 go_loopg [5,8] zs.length (fun kx _ s8 wr=>∃(k:Nat),s8= .int .i64 (k:Int)/\k<=zs.length/\zs.length - k<=kx/\Aside (Below w.heap.size w wr/\∀j l,j<k->zs[j]? =some l->p l=false))
 case atStart=>exact ⟨0,rfl,js _,jj _,⟨jo _ w,fun j l hj=>zi⟩⟩
 case round=>
  obtain ⟨k,rfl,hk,hkx,A⟩:=hrel
  by_cases hlt:k<zs.length
  ·have hltz:decide ((k:Int)<(zs.length:Int))=true:=by simp;omega
   have ek:((k:Int)).toNat=k:=zi
   have pk:(0:Int)<=(k:Int):=zi
   have bk:(k:Int)<(zs.length:Int):=zi
   obtain ⟨⟨a,c,gn⟩,hl⟩:∃l,Aside (zs[k]? =some l):=⟨zs[k],ji hlt⟩
   obtain ⟨blk,off,rfl,c0,c1,c2⟩:=(HI.o.later A.o.1).at hl.o
   have hcall:=HP.o wr a c gn A.o.1
   cases hq:p (a,c,gn) with
   | true=>
    rw [hq] at hcall
    have HQ:=Lib.hid hq
    clear hq
    go_wp2_with (go_at_fn g;refine hcall.mono ?_;rintro e w' ⟨rfl,hb'⟩)
    go_ret
    exact ⟨_,rfl,.inr ⟨k,_,rfl,hl.o,HQ.o,A.o.2⟩,hb'⟩
   | false=>
    rw [hq] at hcall
    have HQ:=Lib.hid hq
    clear hq
    go_wp2_with (go_at_fn g;refine hcall.mono ?_;rintro e w' ⟨rfl,hb'⟩)
    go_roundg (zs.length - (k+1))
    case measure=>omega
    case rel=>
     refine ⟨k+1,zw,zi,jj _,⟨hb',fun j l hj e=> ?_⟩⟩
     rcases vh j k with h | h
     ·exact A.o.2 j l h e
     obtain rfl:j=k:=zi
     rw [hl.o] at e
     cases e
     exact HQ.o
  have hltz:decide ((k:Int)<(zs.length:Int))=false:=zk
  go_wp2
  go_ret
  refine ⟨_,rfl,.inl ⟨rfl,fun l hl=> ?_⟩,A.o.1⟩
  obtain ⟨j,hj,rfl⟩:=jU hl
  exact A.o.2 j _ zi (ji hj)
theorem find1_is (id:Int) (B:Nat) (w:World) (hB:B<w.heap.size) (hc:w.cell? ⟨B,0,none⟩=some (.int .i64 id)):PredL 231 #[.pointer (some ⟨B,0,none⟩)] (fun l=>decide (l.1=id)) w:=fun W a c gn hb=>by
 have hc':W.cell? ⟨B,0,none⟩=some (.int .i64 id):=(hb.cell (p:=⟨B,0,none⟩) hB).trans hc
 have hBW:B<W.heap.size:=jE hB hb.size
 have hne:B≠W.heap.size:=zi
 clear hc
 show Calls prog 231 #[.agg #[.int .i64 a,.int .u8 (c:Int),.bool (!gn)],.pointer (some ⟨B,0,none⟩)] W _
 go_enter func231,ntmps231
 go_wp2
 all_goals (go_ret;exact ⟨by simp [BEq.beq],hb.alloc hb.size _⟩)
theorem pass1_is (id:Int) (B:Nat) (w:World) (hB:B<w.heap.size) (hc:w.cell? ⟨B,0,none⟩=some (.int .i64 id)):PredL 234 #[.pointer (some ⟨B,0,none⟩)] (fun l=>decide (l.1<id)) w:=fun W a c gn hb=>by
 have hc':W.cell? ⟨B,0,none⟩=some (.int .i64 id):=(hb.cell (p:=⟨B,0,none⟩) hB).trans hc
 have hBW:B<W.heap.size:=jE hB hb.size
 have hne:B≠W.heap.size:=zi
 clear hc
 show Calls prog 234 #[.agg #[.int .i64 a,.int .u8 (c:Int),.bool (!gn)],.pointer (some ⟨B,0,none⟩)] W _
 go_enter func234,ntmps234
 go_wp2
 all_goals (go_ret;exact ⟨rfl,hb.alloc hb.size _⟩)
structure LineAt (base:Nat) (w:World) (p:Nat) (v:Value) (L:List Ltr):Prop where
 cell:w.heap[p]? =some (.cells #[v] 248 (0,0))
 row:w.ownsRow base 250 3 v L.length (flat encL L)
 low:p<base
 nodup:(L.map (·.1)).Nodup
 pos:∀l∈L,l.1≠0
 small:∀l∈L,l.2.1<256
theorem LineAt.c0 {base:Nat} (h:LineAt base w p v L):w.cell? ⟨p,0,none⟩=some v:=by simp [World.cell?,h.cell]
theorem LineAt.fz {base:Nat} (h:LineAt base w p v L):w.frozen? ⟨p,0,none⟩=false:=by simp [World.frozen?,h.cell]
theorem LineAt.lt {base:Nat} (h:LineAt base w p v L):p<w.heap.size:=(jk.1 h.cell).1
theorem ownsSame {base:Nat} (h:w.ownsRow base e k v n xs) (hs:∀g,v.ownBlock=some g->w'.heap[g]? =w.heap[g]?):w'.ownsRow base e k v n xs:=by
 refine ⟨h.1,?_⟩
 rcases h.2 with h0 | ⟨g,cap,cur,rfl,h1,hg,h2⟩
 ·exact .inl h0
 exact .inr ⟨g,cap,cur,rfl,h1,(hs g rfl).trans hg,h2⟩
theorem LineAt.same {base:Nat} (h:LineAt base w p v L) (h1:w'.heap[p]? =w.heap[p]?) (h2:∀g,v.ownBlock=some g->w'.heap[g]? =w.heap[g]?):LineAt base w' p v L:=
 ⟨h1.trans h.cell,ownsSame h.row h2,h.low,h.nodup,h.pos,h.small⟩
theorem LineAt.later {base:Nat} (h:LineAt base w p v L) (hb:Below w.heap.size w w'):LineAt base w' p v L:=
 h.same (hb.block _ h.lt) (fun g hg=>hb.block g (h.row.lt g hg).2)
theorem rowShape {base:Nat} (h:w.ownsRow base e k v n xs):∃ao cap,v= .slice ao n cap:=by
 rcases h.2 with ⟨h1,h2⟩ | ⟨g,cap,cur,rfl,_⟩
 ·subst h2;exact ⟨_,_,h1⟩
 exact ⟨_,_,rfl⟩
theorem lrowIn {base:Nat} {cap:Nat} (h:w.ownsRow base 250 3 (.slice ao L.length cap) L.length (flat encL L)):LtrsIn w ao L:=by
 have h':=h
 rcases h.2 with ⟨h1,h2⟩ | ⟨g,cap',cur,hv,_⟩
 ·exact .inl (jC.1 h2)
 cases hv
 refine .inr ⟨g,0,rfl,fun j u hj=> ?_⟩
 have hl:j<(flat encL L).length:=(jh.1 hj).1
 rw [flat_len encL_len] at hl
 rw [jt,h'.cellAt j hl,hj]
theorem lineNew (w:World):Calls prog 124 #[] w fun e w'=>e= .returned (.pointer (some ⟨w.heap.size,0,none⟩))/\w'=w.alloc (.cells #[.slice none 0 0] 248):=by
 go_enter func124,ntmps124
 go_wp2
 go_ret
 exact ⟨rfl,rfl⟩
theorem lfind_any (w:World) (base p:Nat) (v:Value) (L:List Ltr) (id:Int) (h:LineAt base w p v L) (hL:L.length<=1000):
  Calls prog 192 #[.pointer (some ⟨p,0,none⟩),.int .i64 id] w fun e w'=>e= .returned (.int .i64 (findI id L))/\Below w.heap.size w w':=by
 obtain ⟨ao,cap,rfl⟩:=rowShape h.row
 have eg:∀args w,(callFunc 231 args).run prog w= .ok (.enter 231 args) w:=enters_of func231 zj rfl
 have hbx:Below w.heap.size w (w.alloc (.cells #[.int .i64 id] 3)):=zg w _
 have hc:=idxFunc_any (fun l=>decide (l.1=id)) 231 #[.pointer (some ⟨w.heap.size,0,none⟩)] eg ao cap L (w.alloc (.cells #[.int .i64 id] 3)) (find1_is id w.heap.size _ zm yn) zi ((lrowIn h.row).later hbx)
 have c0:=h.c0
 have hpl:=h.lt
 have HB:=Lib.hid hbx
 clear h eg hbx
 go_enter func192,ntmps192
 go_wp2_with fail
 refine hc.mono ?_
 rintro e w1 ⟨r,rfl,hr⟩
 go_wp2
 go_ret
 exact ⟨by rw [findI_is hr.o.1];rfl,HB.o.trans (hr.o.2.mono zm)⟩
theorem pass_any (w:World) (base p k:Nat) (v:Value) (L:List Ltr) (id:Int) (h:LineAt base w p v L) (hL:L.length<=1000) (hk:k<=L.length) (hn:id∉L.map (·.1)):
  Calls prog 194 #[.pointer (some ⟨p,0,none⟩),.int .i64 (k:Int),.int .i64 id] w fun e w'=>e= .returned (.int .i64 ((k+skipN id (L.drop k):Nat):Int))/\Below w.heap.size w w':=by
 have HN:Aside (id∉(L.drop k).map (·.1)):=fun hm=>hn (by
  obtain ⟨l,hl,e⟩:=jO.1 hm
  exact jO.2 ⟨l,ug hl,e⟩)
 have HS:Aside (skipN id (L.drop k)<=L.length - k):=by have:=skipN_le id (L.drop k);rwa [jT] at this
 obtain ⟨ao,cap,rfl⟩:=rowShape h.row
 have hLc:L.length<=cap:=by
  rcases h.row.2 with ⟨h1,h2⟩ | ⟨g,cap',cur,hv,_,_,h3,_⟩
  ·omega
  cases hv;exact h3
 have eg:∀args w,(callFunc 234 args).run prog w= .ok (.enter 234 args) w:=enters_of func234 zj rfl
 have hbx:Below w.heap.size w (w.alloc (.cells #[.int .i64 id] 3)):=zg w _
 have hdl:(L.drop k).length=L.length - k:=jT
 have hc:∀ap,LtrsIn w ap (L.drop k)->Calls prog 230 #[.slice ap (L.length - k) (cap - k),.func (.func 234) #[] #[.pointer (some ⟨w.heap.size,0,none⟩)]] (w.alloc (.cells #[.int .i64 id] 3)) _:=fun ap hap=>by
  have:=idxFunc_any (fun l=>decide (l.1<id)) 234 #[.pointer (some ⟨w.heap.size,0,none⟩)] eg ap (cap - k) (L.drop k) (w.alloc (.cells #[.int .i64 id] 3)) (pass1_is id w.heap.size _ zm yn) (by rw [hdl];omega) (hap.later hbx)
  rw [hdl] at this
  exact this
 have c0:=h.c0
 have hpl:=h.lt
 have HI:Aside (LtrsIn w ao L):=lrowIn h.row
 have HB:=Lib.hid hbx
 clear h eg hbx
 obtain ⟨q,hq⟩:∃q,Aside (skipN id (L.drop k)=q):=⟨_,rfl⟩
 rw [hq.o] at HS |-
 have hq2:q<=L.length - k:=HS.o
 have d0:decide ((q:Int)<0)=false:=zm
 have e0:IntKind.i64.wrap ((k:Int)+(q:Int))=(k:Int)+(q:Int):=zq
 have HD:=Lib.hid hdl
 clear hdl HS
 go_enter func194,ntmps194
 go_wp2_with fail
 ·have hd0:L.drop k= []:=vR zi
  have hc':=hc ao (.inl hd0)
  rw [show cap - k=0 by omega] at hc'
  have hf:L.length=k+q:=by rw [<-hq.o,hd0];simp only [skipN];omega
  have HF:=Lib.hid hf
  have hck:cap=k:=zl
  have c0':w.cell? ⟨p,0,none⟩=some (Value.slice ao L.length k):=by rw [<-hck];exact c0
  refine hc'.mono ?_
  rintro e w1 ⟨r,rfl,hr⟩
  have hr1:r= -1:=by
   rcases hr.o.1 with ⟨h,_⟩ | ⟨i,l,_,hl,_⟩
   ·exact h
   rw [hd0] at hl;simp at hl
  subst hr1
  have hB1:Below w.heap.size w w1:=HB.o.trans (hr.o.2.mono zm)
  have c1:=cellStays hB1 c0'
  have H1:=Lib.hid hB1
  clear hB1 hr hc' hf hd0 hck c0 c0' hc hLc
  go_wp2
  go_ret
  exact ⟨by rw [HF.o];rfl,H1.o⟩
 have hLp:LtrsIn w (ao.map (fun x=>x.add (k*3))) (L.drop k):=by
  rcases HI.o with h0 | ⟨b,o,rfl,hcell⟩
  ·subst h0;exact .inl zm
  refine .inr ⟨b,o+k*3,by simp [Addr.add],fun j u hj=> ?_⟩
  rw [<-flat_drop encL_len L k hk,vg] at hj
  rw [vG]
  exact hcell _ u hj
 refine (hc _ hLp).mono ?_
 clear hc HI hLp
 rintro e w1 ⟨r,rfl,hr⟩
 have hB1:Below w.heap.size w w1:=HB.o.trans (hr.o.2.mono zm)
 have c1:=cellStays hB1 c0
 have H1:=Lib.hid hB1
 rcases skip_is HN.o hr.o.1 with ⟨rfl,hs⟩ | hs
 ·have hf:L.length=k+q:=by rw [hq.o,HD.o] at hs;omega
  have HF:=Lib.hid hf
  clear hB1 hr hs hf
  go_wp2
  go_ret
  exact ⟨by rw [HF.o];rfl,H1.o⟩
 rw [hq.o] at hs
 subst hs
 clear hB1 hr
 go_wp2
 go_ret
 exact ⟨zm,H1.o⟩
end
section
open Go Go.RowKit
theorem cellHeld {b:Nat} (hb:Below w.heap.size w w') (h:w.cell? ⟨b,o,none⟩=some v):w'.cell? ⟨b,o,none⟩=some v:=by
 rw [hb.cell (p:=⟨b,o,none⟩) (jl w ⟨b,o,none⟩ h)];exact h
theorem ownsHeld {base:Nat} (h:w.ownsRow base e k v n xs) (hs:∀g,v.ownBlock=some g->w'.heap[g]? =w.heap[g]?):w'.ownsRow base e k v n xs:=by
 refine ⟨h.1,?_⟩
 rcases h.2 with h0 | ⟨g,cap,cur,rfl,h1,hg,h2⟩
 ·exact .inl h0
 exact .inr ⟨g,cap,cur,rfl,h1,(hs g rfl).trans hg,h2⟩
theorem ownsLow {base base':Nat} (h:w.ownsRow base e k v n xs) (hb:base'<=base):w.ownsRow base' e k v n xs:=by
 refine ⟨h.1,h.2.imp (fun e=>e) ?_⟩
 rintro ⟨g,cap,cur,h1,h2,h3⟩
 exact ⟨g,cap,cur,h1,zi,h3⟩
theorem rowIs {base:Nat} (h:w.ownsRow base e k v n xs):∃ao cap,v= .slice ao n cap:=by
 rcases h.2 with ⟨h1,h2⟩ | ⟨g,cap,cur,rfl,_⟩
 ·subst h2;exact ⟨_,_,h1⟩
 exact ⟨_,_,rfl⟩
section
variable {α:Type} {enc:α→List Value} {k:Nat}
def InRow (enc:α->List Value) (w:World) (ao:Option Addr) (zs:List α):Prop:=zs= []\/∃blk off,ao=some ⟨blk,off,none⟩/\∀j u,(flat enc zs)[j]? =some u->w.cell? ⟨blk,off+j,none⟩=some u
theorem InRow.later {zs:List α} (h:InRow enc w ao zs) (hb:Below w.heap.size w w'):InRow enc w' ao zs:=by
 rcases h with h | ⟨g,o,h1,h2⟩
 ·exact .inl h
 exact .inr ⟨g,o,h1,fun j u hj=>cellHeld hb (h2 j u hj)⟩
theorem InRow.kept {zs:List α} (h:InRow enc w ao zs) (hk:∀g o,ao=some ⟨g,o,none⟩->w'.heap[g]? =w.heap[g]?):InRow enc w' ao zs:=by
 rcases h with h | ⟨g,o,h1,h2⟩
 ·exact .inl h
 exact .inr ⟨g,o,h1,fun j u hj=>by rw [jr (a:=⟨g,o+j,none⟩) (hk g o h1)];exact h2 j u hj⟩
theorem InRow.get (hlen:∀x,(enc x).length=k) {zs:List α} (h:InRow enc w ao zs) {x:α} (hi:zs[i]? =some x):∃blk off,ao=some ⟨blk,off,none⟩/\∀c u,(enc x)[c]? =some u->w.cell? ⟨blk,off+i*k+c,none⟩=some u:=by
 rcases h with h | ⟨b,o,h1,h2⟩
 ·subst h;simp at hi
 refine ⟨b,o,h1,fun c u hc=> ?_⟩
 have hck:c<k:=by have:=(jh.1 hc).1;rwa [hlen] at this
 rw [vG]
 exact h2 _ _ ((flat_get (enc:=enc) hlen hi hck).trans hc)
theorem append_row {P:Program} {S T:TypeId} {z:Value} {bytes:Nat} (hS:P.underlying S=some (.slice T)) (hinfo:(P.info? T).map (fun i=>(i.zero,i.size,i.bytes))=some (some z,k,bytes)) (hb1:bytes<=1000) (hk0:0<k) (hzc:z.cells.size=k)
  (hlen:∀x,(enc x).length=k) (hone:∀x,∀v∈enc x,v.oneCell'=true)
  {base:Nat} (ho:w.ownsRow base T k v n xs) (hn:n<=2000) (hbase:base<=w.heap.size) (ap:Option Addr) (c:Nat) (ys:List α) (hy:ys.length<=2000) (hap:InRow enc w ap ys) (hc:ap=none->c=0) (ty:TypeId):
  ∃v' w',(Builtin.append_ #[S,S] ty #[v,.slice ap ys.length c]).run P w= .ok v' w'/\w'.ownsRow base T k v' (n+ys.length) (xs++flat enc ys)/\w.grownBy w' v.ownBlock:=by
 obtain ⟨i0,hi,hz0,hz1,hz2⟩:=info_parts hinfo
 cases ap with
 | none=>
  have h0:ys= []:=by
   rcases hap with h | ⟨_,_,h,_⟩
   ·exact h
   cases h
  subst h0
  rw [hc rfl]
  refine ⟨v,w,run_append_owned_none w base _ ty _ i0 k hS hi v n xs ho,by simpa [flat] using ho,⟨rfl,rfl,rfl,jj _,fun _ _ _=>rfl⟩⟩
 | some a=>
  have hl:(flat enc ys).length=ys.length*k:=flat_len hlen ys
  obtain ⟨v',w',h1,h2,h3,-⟩:=run_append_own (P:=P) w base S ty T i0 _ k bytes hS hi hz0 hz1 hz2 hzc zi v n xs ho a ys.length c (flat enc ys) hl (fun j u hj=>by
   rcases hap with h | ⟨b,o,h,hcell⟩
   ·subst h;simp [flat] at hj
   ·cases h
    rw [Addr.add_lit]
    exact hcell j u hj) (flat_one hone ys) zD (by have:=Nat.mul_le_mul (show n+ys.length<=4000 by omega) hb1;omega) hbase
  exact ⟨v',w',h1,h2,h3⟩
