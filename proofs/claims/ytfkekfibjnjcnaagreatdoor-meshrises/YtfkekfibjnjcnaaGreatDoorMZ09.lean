import Derived.Test.YtfkekfibjnjcnaaGreatDoorMZ03
import Derived.Test.YtfkekfibjnjcnaaGreatDoorMZ05
import Derived.Test.YtfkekfibjnjcnaaGreatDoorMZ06
import Derived.Test.YtfkekfibjnjcnaaGreatDoorMZ07
set_option linter.unusedSimpArgs false
set_option linter.unusedVariables false
set_option maxRecDepth 100000
set_option maxHeartbeats 64000000
namespace Go.Proofs.YtfkekfibjnjcnaaGreatDoor
open Go.Proofs.Tryz
variable {D:DataW Unit} {z:DataW Unit×List MemPlace} {id:Int} {b i n:Nat} {ad:Nat→Addr} {cap:Nat→Nat} {ao:Nat→Option Addr} {x:OpX} {R:Rws} {W w w':World}
section
open Go Go.Maps
abbrev NKey:=Int×Int
abbrev NSta:=NKey->Option OpX
def noN:NSta:=fun _=>none
def encN (k:NKey):Value:=.agg #[.int .i64 k.1,.int .i64 k.2]
theorem encN_inj {p q:NKey} (h:encN p=encN q):p=q:=by
 obtain ⟨a,s⟩:=p
 obtain ⟨a',s'⟩:=q
 simp [encN] at h
 obtain ⟨rfl,rfl⟩:=h
 rfl
def encO (x:OpX):Value:=.agg #[.int .i64 x.1,.int .i64 x.2.1,.int .i64 x.2.2.1,.int .u8 (x.2.2.2.1:Int),.int .i64 x.2.2.2.2.1,.int .i64 x.2.2.2.2.2.1,.string x.2.2.2.2.2.2.1,.string x.2.2.2.2.2.2.2]
def zeroO:OpX:=(0,0,0,0,0,0,⟨#[]⟩,⟨#[]⟩)
def datO (x:OpX):DataW Unit:=.agg [.lit (.int .i64 x.1),.lit (.int .i64 x.2.1),.lit (.int .i64 x.2.2.1),.lit (.int .u8 (x.2.2.2.1:Int)),.lit (.int .i64 x.2.2.2.2.1),.lit (.int .i64 x.2.2.2.2.2.1),.lit (.string x.2.2.2.2.2.2.1.data.toList),.lit (.string x.2.2.2.2.2.2.2.data.toList)]
theorem datO_inj {p q:OpX} (h:datO p=datO q):p=q:=by
 obtain ⟨t,b,n,k,nd,o,⟨⟨s⟩⟩,⟨⟨v⟩⟩⟩:=p
 obtain ⟨t',b',n',k',nd',o',⟨⟨s'⟩⟩,⟨⟨v'⟩⟩⟩:=q
 simp [datO] at h
 obtain ⟨rfl,rfl,rfl,h4,rfl,rfl,rfl,rfl⟩:=h
 obtain rfl:k=k':=zj
 rfl
def opL (l:List Value):Option (DataW Unit×List MemPlace):=match l with
 | [.int .i64 t,.int .i64 b,.int .i64 n,.int .u8 k,.int .i64 nd,.int .i64 o,.string s,.string v]=>if 0<=k then some (datO (t,b,n,k.toNat,nd,o,s,v),[]) else none
 | _=>none
def opR (v:Value):Option (DataW Unit×List MemPlace):=match v with
 | .agg cs=>opL cs.toList
 | _=>none
theorem opR_mk (x:OpX):opR (encO x)=some (datO x,[]):=by
 simp [opR,encO,opL]
theorem opL_inv {l:List Value} (h:opL l=some z):∃x:OpX,l=encX x/\z=(datO x,[]):=by
 unfold opL at h
 split at h
 ·rename_i t b n k nd o s v
  split at h
  ·rename_i hk
   cases h
   refine ⟨(t,b,n,k.toNat,nd,o,s,v),?_,rfl⟩
   simp [encX,Int.toNat_of_nonneg hk]
  cases h
 cases h
theorem opR_inv {v:Value} (h:opR v=some z):∃x,v=encO x/\z=(datO x,[]):=by
 unfold opR at h
 split at h
 ·rename_i cs
  obtain ⟨x,e,rfl⟩:=opL_inv h
  refine ⟨x,?_,rfl⟩
  unfold encO
  unfold encX at e
  rw [<-e]
 cases h
def WfN (k:NKey):Prop:=(Lit.int .i64 k.1).wf=true/\(Lit.int .i64 k.2).wf=true
def nlit (k:NKey):Lit:=.string (keyBytes [.int .i64 k.1,.int .i64 k.2])
section
variable {P:Program} {K I:TypeId} {f g:Field}
theorem nkey_mkP (hu:P.underlying K=some (.struct #[f,g])) (f1:f.type=I) (f2:f.offset=0) (f3:(f.name != "_")=true) (g1:g.type=I) (g2:g.offset=1) (g3:(g.name != "_")=true) (hI:P.underlying I=some (.int .i64)) (cK:P.cellsOf K=2) (cI:P.cellsOf I=1) (hT:P.keyType K=true) (e:Nat) (he:P.types.size=e+1) {k:NKey} (h:WfN k):keyOf P K (encN k)=some (nlit k):=by
 obtain ⟨h1,h2⟩:=h
 have hf:(encN k).formed P K=true:=by simp [Value.formed,encN,hu,cK]
 unfold keyOf
 rw [hu]
 dsimp only
 rw [hT,hf]
 simp only [Bool.and_self,if_true]
 rw [keyLits_struct hu,he]
 simp [encN,Value.cells,cK,cI,f1,f2,f3,g1,g2,g3,keyLits_int hI,h1,h2,nlit]
end
theorem nkeyRow:209<prog.types.size:=of_decide_eq_true zk
theorem nkeyWide:(match prog.underlying 209 with | some (.array _ _) | some (.struct _)=>true | _=>false)=true:=zk
theorem lawN:Keyed prog 209:=Keyed.of_law (deep_law_laid keyOut (m:=2) zj nkeyRow zk nkeyWide)
theorem nkeyIs:prog.keyType 209=true:=zk
theorem nkeyCells:prog.cellsOf 209=2:=zk
theorem nkey_mk {k:NKey} (h:WfN k):keyOf prog 209 (encN k)=some (nlit k):=by
 obtain ⟨e,he⟩:=keySize
 exact nkey_mkP underlying209 rfl rfl zt rfl rfl zt underlying3 nkeyCells keyCellsI nkeyIs e he h
theorem nlit_ne {a b:NKey} (ha:WfN a) (hb:WfN b) (h:a≠b):nlit a≠nlit b:=fun e=>h (encN_inj (lawN.inj (nkey_mk ha) (by rw [e];exact nkey_mk hb)))
theorem nlit_is {k:NKey} :WideAt.IsKeyLit (nlit k):=trivial
theorem wfN_of {k:NKey} (h0: -2^63<=k.1) (h1:k.1<2^63) (h2: -2^63<=k.2) (h3:k.2<2^63):WfN k:=⟨wf_i64 h0 h1,wf_i64 h2 h3⟩
def ReadsN (D:DataW Unit) (f:NSta):Prop:=∀k,WfN k->match f k with
 | none=>has D (nlit k)=false
 | some c=>∀z,D.atKey (nlit k) z=datO c
theorem ReadsN.gone {f:NSta} (h:ReadsN D f) {k:NKey} (hk:WfN k) (hf:f k=none):has D (nlit k)=false:=by
 have:=h k hk;rw [hf] at this;exact this
theorem ReadsN.held {f:NSta} (h:ReadsN D f) {k:NKey} (hk:WfN k) {c:OpX} (hf:f k=some c) (z:DataW Unit):D.atKey (nlit k) z=datO c:=by
 have:=h k hk;rw [hf] at this;exact this z
theorem ReadsN.has {D:DataW Unit} {f:NSta} (h:ReadsN D f) {k:NKey} (hk:WfN k):Maps.has D (nlit k)=(f k).isSome:=by
 cases hf:f k with
 | none=>rw [h.gone hk hf];rfl
 | some p=>rw [has_true_of_atKey (h.held hk hf)];rfl
theorem ReadsN.at {f:NSta} (h:ReadsN D f) {k:NKey} (hk:WfN k):D.atKey (nlit k) (datO zeroO)=datO ((f k).getD zeroO):=by
 cases hf:f k with
 | none=>rw [atKey_of_not_has (h.gone hk hf)];rfl
 | some p=>rw [h.held hk hf];rfl
theorem readsN_put {f:NSta} (h:ReadsN D f) (hD:IsMap D) {k:NKey} (hk:WfN k) (c:OpX):ReadsN (D.put (nlit k) (datO c)) (fun x=>if x=k then some c else f x):=by
 intro x hx
 dsimp only
 by_cases e:x=k
 ·subst e
  rw [if_pos rfl]
  exact fun z=>atKey_put_same hD nlit_is _ _
 rw [if_neg e]
 cases hf:f x with
 | none=>rw [has_put_other (nlit_ne hx hk e)];exact h.gone hx hf
 | some q=>intro z;rw [atKey_put_other (nlit_ne hx hk e)];exact h.held hx hf z
def NMapAt (w:World) (b n:Nat) (f:NSta):Prop:=∃D,w.ownsMap prog 209 opR b n D/\ReadsN D f
theorem NMapAt.lt {w:World} {b n:Nat} {f:NSta} (h:NMapAt w b n f):b<w.heap.size:=by
 obtain ⟨D,h,_⟩:=h;exact h.lt
theorem NMapAt.same {f:NSta} (h:NMapAt w b n f) (e:w'.heap[b]? =w.heap[b]?):NMapAt w' b n f:=by
 obtain ⟨D,⟨es,clock,hb,F⟩,r⟩:=h
 exact ⟨D,⟨es,clock,e.trans hb,F⟩,r⟩
theorem nmapAt_made (w:World):NMapAt (w.alloc (.map #[] 0)) w.heap.size 0 noN:=
 ⟨_,World.ownsMap_made w prog 209 opR,fun _ _=>rfl⟩
theorem zeroOp (w:World):(zeroValue 41).run prog w= .ok (encO zeroO) w:=zeroValue41 w
theorem NMapAt.look {f:NSta} (h:NMapAt w b n f) {k:NKey} (hk:WfN k):
  (Instr.lookup 203 (.map (some b)) (encN k) true).run prog w= .ok (.tuple #[encO ((f k).getD zeroO),.bool (f k).isSome]) w:=by
 obtain ⟨D,h,r⟩:=h
 obtain ⟨v,ps,hrun,hv⟩:=h.look_ok lawN underlying203 (zeroOp w) (opR_mk zeroO) (nkey_mk hk)
 obtain ⟨p,rfl,hp⟩:=opR_inv hv
 rw [r.at hk,Prod.mk.injEq] at hp
 rw [hrun,r.has hk,datO_inj hp.1]
theorem NMapAt.store {w:World} {b n:Nat} {f:NSta} (h:NMapAt w b n f) (hn:n<maxLen) {k:NKey} (hk:WfN k) (c:OpX):
  ∃w',(Instr.mapUpdate 203 (.map (some b)) (encN k) (encO c)).run prog w= .ok () w'/\NMapAt w' b (n+1) (fun x=>if x=k then some c else f x)/\w.mapTurned w' b:=by
 obtain ⟨D,h,r⟩:=h
 obtain ⟨w',hrun,h',ht⟩:=h.store lawN underlying203 hn (nkey_mk hk) (opR_mk c)
 exact ⟨w',hrun,⟨_,h',readsN_put r h.isMap hk c⟩,ht⟩
end
section
open Go.RowKit Go.Lib Go.Sort
def kV (ao:Nat->Option Addr) (cap:Nat->Nat) (R:Rws):Value:=.agg #[.slice (ao 0) (R 0).length (cap 0),.slice (ao 1) (R 1).length (cap 1),.slice (ao 2) (R 2).length (cap 2),.slice (ao 3) (R 3).length (cap 3)]
def KnownAt (w:World) (ao:Nat->Option Addr) (R:Rws):Prop:=∀i,i<4->OpsIn w (ao i) (R i)
theorem KnownAt.later {w w':World} {ao:Nat->Option Addr} {R:Rws} (h:KnownAt w ao R) (hb:Below w.heap.size w w'):KnownAt w' ao R:=fun i hi=>(h i hi).later hb
def KBox (w:World) (b:Nat) (ao:Nat->Option Addr) (cap:Nat->Nat) (R:Rws):Prop:=w.heap[b]? =some (.cells #[.slice (ao 0) (R 0).length (cap 0),.slice (ao 1) (R 1).length (cap 1),.slice (ao 2) (R 2).length (cap 2),.slice (ao 3) (R 3).length (cap 3)] 74 (0,0))
theorem KBox.at (h:KBox w b ao cap R) (hi:i<4):w.cell? ⟨b,i,none⟩=some (.slice (ao i) (R i).length (cap i)):=by
 unfold KBox at h
 match i,hi with
 | 0,_=>simp [World.cell?,h]
 | 1,_=>simp [World.cell?,h]
 | 2,_=>simp [World.cell?,h]
 | 3,_=>simp [World.cell?,h]
theorem KBox.fz (h:KBox w b ao cap R) (o:Nat):w.frozen? ⟨b,o,none⟩=false:=by
 unfold KBox at h;simp [World.frozen?,h]
theorem KBox.lt (h:KBox w b ao cap R):b<w.heap.size:=(vn.1 h).1
theorem KBox.new (w:World) (ao:Nat->Option Addr) (cap:Nat->Nat) (R:Rws):KBox (w.alloc (.cells #[.slice (ao 0) (R 0).length (cap 0),.slice (ao 1) (R 1).length (cap 1),.slice (ao 2) (R 2).length (cap 2),.slice (ao 3) (R 3).length (cap 3)] 74)) w.heap.size ao cap R:=heap_alloc_new w _
theorem KBox.later (h:KBox w b ao cap R) (hb:Below w.heap.size w w'):KBox w' b ao cap R:=(hb.block b h.lt).trans h
theorem OpsIn.get {ao:Option Addr} {xs:List OpX} (h:OpsIn w ao xs) (hi:xs[i]? =some x):∃blk off,ao=some ⟨blk,off,none⟩/\∀c u,(encX x)[c]? =some u->w.cell? ⟨blk,off+i*8+c,none⟩=some u:=by
 rcases h with h | ⟨b,o,h1,h2⟩
 ·subst h;simp at hi
 refine ⟨b,o,h1,fun c u hc=> ?_⟩
 have hl:=(vi.1 hi)
 have h8:c<8:=(vi.1 hc).1
 have e:=cellsOf_get xs i c hl.1 h8
 rw [uY]
 refine h2 _ _ (e.trans ?_)
 rw [getElem!_pos xs i hl.1,hl.2,getElem!_pos _ c (by rw [encX_len];exact h8),<-(vi.1 hc).2]
theorem results_ct {fn:Func} {p u:Tmp} {ty:TypeId} (h:fn.results= #[.cell p ty,.tmp u]) (tmps:Array Value) (P:Program) (w:World):
  (results fn tmps).run P w=
   ((asAddr (tmps.getD p undef)).run P w).andThen fun a w1=>((loadVar ty a).run P w1).andThen fun v w2=>.ok (.tuple #[v,tmps.getD u undef]) w2:=by
 simp only [results,h]
 simp [Sem.run_bind,Result.andThen]
theorem number_none (w:World) (ao:Nat->Option Addr) (cap:Nat->Nat) (R:Rws) (i n:Nat) (hi:i<4) (hx:(R i).length<=n):
  Calls prog 123 #[kV ao cap R,.int .i64 (i:Int),.int .i64 ((n:Int)+1)] w fun e w'=>e= .returned (.tuple #[encO zeroO,.bool false])/\Below w.heap.size w w':=by
 unfold kV
 have dn:decide (((R i).length:Int)<(n:Int)+1)=true:=zl
 have h4:i=0\/i=1\/i=2\/i=3:=zj
 rcases h4 with rfl | rfl | rfl | rfl
 all_goals
  go_enter func123,ntmps123
  go_wp2
  (try simp only [Exit.inBlock,Exit.then])
  refine bodyPost_ret (v:=.tuple #[encO zeroO,.bool false]) ?_ rfl ⟨rfl,?_⟩
  ·rw [results_ct rfl]
   unfold encO zeroO
   go_simp
  exact (zh w _).alloc zm _
theorem number_some (w:World) (ao:Nat->Option Addr) (cap:Nat->Nat) (R:Rws) (i n:Nat) (x:OpX) (hK:KnownAt w ao R) (hi:i<4) (hn:n<1000) (hx:(R i)[n]? =some x):
  Calls prog 123 #[kV ao cap R,.int .i64 (i:Int),.int .i64 ((n:Int)+1)] w fun e w'=>e= .returned (.tuple #[encO x,.bool true])/\Below w.heap.size w w':=by
 obtain ⟨blk,off,ha,hc⟩:=(hK i hi).get hx
 have hln:=(vi.1 hx).1
 obtain ⟨t,b,m,k,nd,o,s,v⟩:=x
 have hbl:blk<w.heap.size:=vp w ⟨blk,off+n*8+0,none⟩ (hc 0 _ rfl)
 have hcell:∀o1 o2 c u,(encX (t,b,m,k,nd,o,s,v))[c]? =some u->((w.alloc o1).alloc o2).cell? ⟨blk,off+n*8+c,none⟩=some u:=fun o1 o2 c u hu=>by
  rw [(((vu w.heap.size w).alloc zg o1).alloc zm o2).cell (p:=⟨blk,off+n*8+c,none⟩) hbl]
  exact hc c u hu
 have r0:=fun o1 o2=>hcell o1 o2 0 _ rfl
 have r1:=fun o1 o2=>hcell o1 o2 1 _ rfl
 have r2:=fun o1 o2=>hcell o1 o2 2 _ rfl
 have r3:=fun o1 o2=>hcell o1 o2 3 _ rfl
 have r4:=fun o1 o2=>hcell o1 o2 4 _ rfl
 have r5:=fun o1 o2=>hcell o1 o2 5 _ rfl
 have r6:=fun o1 o2=>hcell o1 o2 6 _ rfl
 have r7:=fun o1 o2=>hcell o1 o2 7 _ rfl
 simp only [ui] at r0
 clear hcell hc
 have dn:decide (((R i).length:Int)<(n:Int)+1)=false:=zl
 have en:((n:Int)+1 - 1)=(n:Int):=zj
 have wn:((n:Int)).toNat=n:=zj
 have pn:(0:Int)<=(n:Int):=zj
 have bn:(n:Int)<((R i).length:Int):=zj
 have h4:i=0\/i=1\/i=2\/i=3:=zj
 unfold kV encO
 rcases h4 with rfl | rfl | rfl | rfl
 all_goals
  rw [ha]
  clear ha
  go_enter func123,ntmps123
  go_wp2
  (try simp only [Exit.inBlock,Exit.then])
  refine bodyPost_ret (v:=.tuple #[.agg #[.int .i64 t,.int .i64 b,.int .i64 m,.int .u8 (k:Int),.int .i64 nd,.int .i64 o,.string s,.string v],.bool true]) ?_ rfl ⟨rfl,?_⟩
  ·rw [results_ct rfl]
   go_simp
  exact (zh w _).alloc zm _
end
section
open Go.RowKit Go.Lib Go.Sort
theorem closureT (x:OpX) (tm:Int) (w:World):Calls prog 243 #[encO x,.int .i64 tm] w fun e w'=>e= .returned (.int .i64 (cmpZ x.1 tm))/\Below w.heap.size w w':=by
 obtain ⟨t,b,n,k,nd,o,s,v⟩:=x
 unfold encO
 dsimp only
 go_enter func243,ntmps243
 go_wp2_with (go_at_call 68;refine (cmpZ_any _ _ _).mono ?_;rintro e w' ⟨rfl,rfl⟩)
 go_ret
 exact ⟨rfl,zh w _⟩
def BsAt (xs:List OpX) (tm:Int) (i:Nat) (b:Bool):Prop:=i<=xs.length/\(∀j x,j<i->xs[j]? =some x->x.1<tm)/\(∀j x,i<=j->xs[j]? =some x->tm<=x.1)/\(b=true↔∃x,xs[i]? =some x/\x.1=tm)
def RisesT (xs:List OpX):Prop:=∀(i j:Nat) (x y:OpX),i<=j->xs[i]? =some x->xs[j]? =some y->x.1<=y.1
theorem bsearch_any (ao:Option Addr) (cap:Nat) (xs:List OpX) (tm:Int) (w:World) (hin:OpsIn w ao xs) (hr:RisesT xs) (hn:xs.length<=1000):
  Calls prog 242 #[.slice ao xs.length cap,.int .i64 tm,.func (.func 243) #[] #[]] w fun e w'=>∃(i:Nat) (b:Bool),e= .returned (.tuple #[.int .i64 (i:Int),.bool b])/\BsAt xs tm i b/\Below w.heap.size w w':=by
 have HI:Aside (OpsIn w ao xs/\RisesT xs):=⟨hin,hr⟩
 clear hin hr
 go_enter func242,ntmps242
 go_wp2
 go_loopg [9,10,11] (xs.length+1) (fun kx s9 s10 s11 wr=>∃(i j:Nat),s9= .int .i64 (i:Int)/\s10= .int .i64 (j:Int)/\i<=j/\j<=xs.length/\j - i<kx/\Aside (Below w.heap.size w wr/\(∀k x,k<i->xs[k]? =some x->x.1<tm)/\(∀k x,j<=k->xs[k]? =some x->tm<=x.1)))
 case atStart=>exact ⟨0,xs.length,rfl,rfl,vD _,vm _,zj,vu _ w,fun k x hk=>zj,fun k x hk h=>by have:=(vi.1 h).1;omega⟩
 case round=>
  obtain ⟨i,j,rfl,rfl,hij,hj,hkx,A⟩:=hrel
  by_cases hlt:i<j
  ·have d1:decide ((i:Int)<(j:Int))=true:=by simp;omega
   obtain ⟨h,hh⟩:∃h:Nat,h=(i+j) / 2:=⟨_,rfl⟩
   have eh:((i:Int)+(j:Int)) / 2=(h:Int):=zj
   have hl:h<xs.length:=zj
   have wh:((h:Int)).toNat=h:=zj
   have ph:(0:Int)<=(h:Int):=zj
   have bh:(h:Int)<(xs.length:Int):=zj
   have hih:i<=h/\h<j:=zj
   clear hh
   obtain ⟨⟨t,b,n,k,nd,o,s,v⟩,hx⟩:∃x,Aside (xs[h]? =some x):=⟨xs[h],vj hl⟩
   obtain ⟨blk,off,hao,hc⟩:=(HI.o.1.later A.o.1).get hx.o
   subst hao
   have r0:=hc 0 _ rfl
   have r1:=hc 1 _ rfl
   have r2:=hc 2 _ rfl
   have r3:=hc 3 _ rfl
   have r4:=hc 4 _ rfl
   have r5:=hc 5 _ rfl
   have r6:=hc 6 _ rfl
   have r7:=hc 7 _ rfl
   simp only [ui] at r0
   clear hc
   have hcall:=closureT (t,b,n,k,nd,o,s,v) tm wr
   unfold encO at hcall
   dsimp only at hcall
   by_cases hc:t<tm
   ·have ec:cmpZ t tm= -1:=by unfold cmpZ;rw [if_pos hc]
    rw [ec] at hcall
    have HC:Aside (t<tm):=hc
    clear hc ec
    go_wp2_with (go_at_call 243;refine hcall.mono ?_;clear hcall;rintro e w' ⟨rfl,hb'⟩;have A':Aside (Below w.heap.size w w'):=(zi A.o.1 hb');clear hb' r0 r1 r2 r3 r4 r5 r6 r7)
    go_roundg (j - h)
    case measure=>omega
    case rel=>
     refine ⟨h+1,j,zL,rfl,zj,hj,zj,A'.o,fun k' x hk hx'=> ?_,A.o.2.2⟩
     have:=HI.o.2 k' h x _ zj hx' hx.o
     have:=HC.o
     dsimp only at*
     omega
   have hz:0<=cmpZ t tm:=by unfold cmpZ;rw [if_neg hc];split<;>omega
   obtain ⟨z,ez⟩:∃z,cmpZ t tm=z:=⟨_,rfl⟩
   rw [ez] at hcall hz
   have dz:decide (z<0)=false:=zl
   have HC:Aside (¬t<tm):=hc
   clear hc ez
   go_wp2_with (go_at_call 243;refine hcall.mono ?_;clear hcall;rintro e w' ⟨rfl,hb'⟩;have A':Aside (Below w.heap.size w w'):=(zi A.o.1 hb');clear hb' r0 r1 r2 r3 r4 r5 r6 r7)
   go_roundg (h - i+1)
   case measure=>omega
   case rel=>
    refine ⟨i,h,rfl,rfl,zj,zj,zj,A'.o,A.o.2.1,fun k' x hk hx'=> ?_⟩
    have:=HI.o.2 h k' _ x zj hx.o hx'
    have:=HC.o
    dsimp only at*
    omega
  have d1:decide ((i:Int)<(j:Int))=false:=zl
  obtain rfl:i=j:=zj
  by_cases hil:i<xs.length
  ·have d2:decide ((i:Int)<(xs.length:Int))=true:=by simp;omega
   have wh:((i:Int)).toNat=i:=zj
   have ph:(0:Int)<=(i:Int):=zj
   have bh:(i:Int)<(xs.length:Int):=zj
   obtain ⟨⟨t,b,n,k,nd,o,s,v⟩,hx⟩:∃x,Aside (xs[i]? =some x):=⟨xs[i],vj hil⟩
   obtain ⟨blk,off,hao,hc⟩:=(HI.o.1.later A.o.1).get hx.o
   subst hao
   have r0:=hc 0 _ rfl
   have r1:=hc 1 _ rfl
   have r2:=hc 2 _ rfl
   have r3:=hc 3 _ rfl
   have r4:=hc 4 _ rfl
   have r5:=hc 5 _ rfl
   have r6:=hc 6 _ rfl
   have r7:=hc 7 _ rfl
   simp only [ui] at r0
   clear hc
   have hcall:=closureT (t,b,n,k,nd,o,s,v) tm wr
   unfold encO at hcall
   dsimp only at hcall
   have hz:Aside ((cmpZ t tm==0)=decide (t=tm)):=by
    show (cmpZ t tm==0)=decide (t=tm)
    unfold cmpZ
    by_cases h1:t<tm
    ·rw [if_pos h1];have:t≠tm:=by omega
     simp [this]
    rw [if_neg h1]
    by_cases h2:tm<t
    ·rw [if_pos h2];have:t≠tm:=by omega
     simp [this]
    rw [if_neg h2];have:t=tm:=zj
    simp [this]
   obtain ⟨z,ez⟩:=za (cmpZ t tm)
   rw [<-ez] at hcall hz
   clear ez
   go_wp2_with (go_at_call 243;refine hcall.mono ?_;clear hcall;rintro e w' ⟨rfl,hb'⟩;have A':Aside (Below w.heap.size w w'):=(zi A.o.1 hb');clear hb' r0 r1 r2 r3 r4 r5 r6 r7)
   go_ret2
   refine ⟨i,_,rfl,⟨hj,A.o.2.1,A.o.2.2,?_⟩,A'.o⟩
   rw [hz.o,decide_eq_true_iff]
   constructor
   ·intro e;exact ⟨_,hx.o,e⟩
   rintro ⟨x,hx',e⟩
   rw [hx.o] at hx'
   cases hx'
   exact e
  have d2:decide ((i:Int)<(xs.length:Int))=false:=zl
  go_wp2
  go_ret2
  refine ⟨i,false,rfl,⟨hj,A.o.2.1,A.o.2.2,?_⟩,A.o.1⟩
  constructor
  ·intro e;cases e
  rintro ⟨x,hx',e⟩
  have:=(vi.1 hx').1
  omega
end
section
open Go.RowKit Go.Lib Go.Sort
def findK (R:Rws) (id:Int):Option OpX:=(allR R).find? (fun x=>decide (idO x=id))
theorem findK_some (h:findK R id=some x):x∈allR R/\idO x=id:=by
 unfold findK at h
 exact ⟨List.mem_of_find?_eq_some h,by simpa using List.find?_some h⟩
theorem findK_none :findK R id=none↔∀x∈allR R,idO x≠id:=by
 unfold findK
 rw [List.find?_eq_none]
 simp
theorem findK_is (h:RowsN R) (hx:x∈allR R):findK R (idO x)=some x:=by
 cases hf:findK R (idO x) with
 | none=>exact absurd rfl (findK_none.1 hf x hx)
 | some y=>
  obtain ⟨a,b⟩:=findK_some hf
  rw [h.stamp a hx (id_inj (h.num.ok y a) (h.num.ok x hx) b)]
theorem id_range (h:errO x=0):4<=idO x/\idO x<4294967300:=by
 have h1:=err_by h
 unfold idO
 have e1:x.2.1=byO x:=rfl
 rw [e1]
 omega
theorem findK_out (h:RowsN R) (ho:id<4\/4294967300<=id):findK R id=none:=
 findK_none.2 (fun x hx e=>by have:=id_range (h.num.ok x hx);omega)
theorem RowsN.risesT (h:RowsN R) (hi:i<4):∀(a b:Nat) (x y:OpX),a<b->(R i)[a]? =some x->(R i)[b]? =some y->x.1<y.1:=by
 intro a b x y hab hx hy
 obtain ⟨a1,a2,_⟩:=h.num i hi a x hx
 obtain ⟨b1,b2,_⟩:=h.num i hi b y hy
 have hp:=uh.1 (h.rise hi) a b (vi.1 hx).1 (vi.1 hy).1 hab
 rw [(vi.1 hx).2,(vi.1 hy).2] at hp
 unfold CLt stO at hp
 dsimp only at hp
 have e1:x.2.1=byO x:=rfl
 have e2:y.2.1=byO y:=rfl
 omega
theorem RowsN.risesLe (h:RowsN R) (hi:i<4):RisesT (R i):=fun a b x y hab hx hy=>by
 rcases uK a b with q | q
 ·have:=h.risesT hi a b x y q hx hy;omega
 obtain rfl:a=b:=zj
 rw [hx] at hy;cases hy;exact Int.le_refl _
theorem findK_bs {R:Rws} (h:RowsN R) {id:Int} {i k:Nat} {b:Bool} (hi:i<4) (e:id % 4=(i:Int)) (hb:BsAt (R i) (id / 4) k b):(b=false->findK R id=none)/\(b=true->∃x,(R i)[k]? =some x/\findK R id=some x):=by
 obtain ⟨h1,h2,h3,h4⟩:=hb
 refine ⟨fun hf=>findK_none.2 (fun x hx ex=> ?_),fun ht=> ?_⟩
 ·obtain ⟨m,hm,hxm⟩:=mem_allR.1 hx
  obtain ⟨j,a1,a2,a3,_⟩:=h.num.get hm hxm
  have e1:x.2.1=byO x:=rfl
  unfold idO at ex
  obtain rfl:m=i:=zj
  have ht:x.1=id / 4:=zj
  have hkj:j=k:=by
   rcases Nat.lt_trichotomy j k with q | q | q
   ·have:=h2 j x q a1;omega
   ·exact q
   have hk:k<(R m).length:=by have:=(vi.1 a1).1;omega
   have ek:=vj hk
   have:=h3 k _ zg ek
   have:=h.risesT hm k j _ x q ek a1
   omega
  subst hkj
  rw [hf] at h4
  exact absurd (h4.2 ⟨x,a1,ht⟩) zt
 obtain ⟨x,hx,et⟩:=h4.1 ht
 refine ⟨x,hx,?_⟩
 obtain ⟨b1,b2,_⟩:=h.num i hi k x hx
 have e1:x.2.1=byO x:=rfl
 have:idO x=id:=by unfold idO;omega
 rw [<-this]
 exact findK_is h (mem_allR.2 ⟨i,hi,vx hx⟩)
def OpBlk (W:World) (b:Nat) (x:OpX):Prop:=W.heap[b]? =some (.cells #[.int .i64 x.1,.int .i64 x.2.1,.int .i64 x.2.2.1,.int .u8 (x.2.2.2.1:Int),.int .i64 x.2.2.2.2.1,.int .i64 x.2.2.2.2.2.1,.string x.2.2.2.2.2.2.1,.string x.2.2.2.2.2.2.2] 41 (0,0))
theorem OpBlk.lt (h:OpBlk W b x):b<W.heap.size:=(vn.1 h).1
theorem OpBlk.later {W':World} (h:OpBlk W b x) (hb:Below W.heap.size W W'):OpBlk W' b x:=(hb.block b h.lt).trans h
theorem OpBlk.new (W:World) (x:OpX):OpBlk (W.alloc (.cells #[.int .i64 x.1,.int .i64 x.2.1,.int .i64 x.2.2.1,.int .u8 (x.2.2.2.1:Int),.int .i64 x.2.2.2.2.1,.int .i64 x.2.2.2.2.2.1,.string x.2.2.2.2.2.2.1,.string x.2.2.2.2.2.2.2] 41)) W.heap.size x:=heap_alloc_new W _
theorem OpBlk.cells (h:OpBlk W b x):W.cell? ⟨b,0,none⟩=some (.int .i64 x.1)/\W.cell? ⟨b,1,none⟩=some (.int .i64 x.2.1)/\W.cell? ⟨b,2,none⟩=some (.int .i64 x.2.2.1)/\W.cell? ⟨b,3,none⟩=some (.int .u8 (x.2.2.2.1:Int))/\W.cell? ⟨b,4,none⟩=some (.int .i64 x.2.2.2.2.1)/\W.cell? ⟨b,5,none⟩=some (.int .i64 x.2.2.2.2.2.1)/\W.cell? ⟨b,6,none⟩=some (.string x.2.2.2.2.2.2.1)/\W.cell? ⟨b,7,none⟩=some (.string x.2.2.2.2.2.2.2)/\∀c,W.frozen? ⟨b,c,none⟩=false:=by
 unfold OpBlk at h
 refine ⟨?_,?_,?_,?_,?_,?_,?_,?_,fun c=> ?_⟩<;>simp [World.cell?,World.frozen?,h]
theorem below_cells (h:Below w.heap.size w W) (hb:w.heap.size<=b) (o:Nat) (vs:List Value):Below w.heap.size w (W.setCells b o vs):=h.trans ((setCells_keeps b vs o W).below h.size (fun k e=>zj))
theorem kfind_out (w:World) (ao:Nat->Option Addr) (cap:Nat->Nat) (R:Rws) (id:Int) (hE:Op4 ad w) (ho:id<4\/4294967300<=id) (h2: -9223372036854775808<=id) (h3:id<=9223372036854775807):
  Calls prog 197 #[kV ao cap R,.int .i64 id] w fun e w'=>e= .returned (.tuple #[encO zeroO,.bool false])/\Below w.heap.size w w':=by
 unfold kV
 obtain ⟨U,hU⟩:=za ((w.alloc (.cells #[.slice (ao 0) (R 0).length (cap 0),.slice (ao 1) (R 1).length (cap 1),.slice (ao 2) (R 2).length (cap 2),.slice (ao 3) (R 3).length (cap 3)] 74)).alloc (.cells #[.int .i64 0,.int .i64 0,.int .i64 0,.int .u8 0,.int .i64 0,.int .i64 0,.string ⟨#[]⟩,.string ⟨#[]⟩] 41))
 have hb:Below w.heap.size w U:=zI
 have hz:U.heap[w.heap.size+1]? =some (.cells #[.int .i64 0,.int .i64 0,.int .i64 0,.int .u8 0,.int .i64 0,.int .i64 0,.string ⟨#[]⟩,.string ⟨#[]⟩] 41 (0,0)):=by
  rw [hU]
  have:=heap_alloc_new (w.alloc (.cells #[.slice (ao 0) (R 0).length (cap 0),.slice (ao 1) (R 1).length (cap 1),.slice (ao 2) (R 2).length (cap 2),.slice (ao 3) (R 3).length (cap 3)] 74)) (.cells #[.int .i64 0,.int .i64 0,.int .i64 0,.int .u8 0,.int .i64 0,.int .i64 0,.string ⟨#[]⟩,.string ⟨#[]⟩] 41)
  rw [vQ] at this
  exact this
 have hE1:=(hE.later hb).c1
 have hcall:=of_no id U _ _ hE1 (vp U ⟨0,0,none⟩ hE1) ho h2 h3
 have HB:Aside (Below w.heap.size w U):=hb
 clear hb hE hE1
 go_enter func197,ntmps197
 go_wp2_with fail
 rw [<-hU]
 clear hU
 refine hcall.mono ?_
 clear hcall
 rintro e w1 ⟨rfl,hb1⟩
 obtain ⟨S,hS⟩:=za w.heap.size
 have hz1:w1.heap[S+1]? =some (.cells #[.int .i64 0,.int .i64 0,.int .i64 0,.int .u8 0,.int .i64 0,.int .i64 0,.string ⟨#[]⟩,.string ⟨#[]⟩] 41 (0,0)):=by
  rw [hS,hb1.block _ (vn.1 hz).1];exact hz
 have hl1:S+1<w1.heap.size:=(vn.1 hz1).1
 have B1:Aside (Below w.heap.size w w1):=zi HB.o hb1
 rw [<-hS]
 clear hb1 hz HB
 obtain ⟨y0,y1,y2,y3,y4,y5,y6,y7,f8⟩:=OpBlk.cells (x:=zeroO) hz1
 unfold zeroO at y0 y1 y2 y3 y4 y5 y6 y7
 dsimp only at y0 y1 y2 y3 y4 y5 y6 y7
 have HS:Aside (S=w.heap.size):=hS
 clear hS hz1
 go_wp2
 (try simp only [Exit.inBlock,Exit.then])
 refine bodyPost_ret (v:=.tuple #[encO zeroO,.bool false]) ?_ rfl ⟨rfl,?_⟩
 ·rw [results_ct rfl]
  unfold encO zeroO
  go_simp
 exact (below_cells (b:=S+1) B1.o xe 0 [.int .i64 0,.int .i64 0,.int .i64 0,.int .u8 0,.int .i64 0,.int .i64 0,.string ⟨#[]⟩,.string ⟨#[]⟩]).alloc (below_cells (b:=S+1) B1.o xe 0 _).size _
theorem kfind_in (w:World) (ao:Nat->Option Addr) (cap:Nat->Nat) (R:Rws) (id:Int) (hK:KnownAt w ao R) (hR:RowsN R) (hl:∀i,i<4->(R i).length<=1000) (h1:4<=id) (h2:id<4294967300):
  Calls prog 197 #[kV ao cap R,.int .i64 id] w fun e w'=>e= .returned (.tuple #[encO ((findK R id).getD zeroO),.bool (findK R id).isSome])/\Below w.heap.size w w':=by
 obtain ⟨i,hi,ei⟩:∃i:Nat,i<4/\id % 4=(i:Int):=⟨(id % 4).toNat,zj,zj⟩
 have wi:((i:Int)).toNat=i:=zj
 have pi:(0:Int)<=(i:Int):=zj
 have bi:(i:Int)<4:=zj
 unfold kV
 obtain ⟨S,hS⟩:=za w.heap.size
 obtain ⟨U,hU⟩:=za ((w.alloc (.cells #[.slice (ao 0) (R 0).length (cap 0),.slice (ao 1) (R 1).length (cap 1),.slice (ao 2) (R 2).length (cap 2),.slice (ao 3) (R 3).length (cap 3)] 74)).alloc (.cells #[.int .i64 0,.int .i64 0,.int .i64 0,.int .u8 0,.int .i64 0,.int .i64 0,.string ⟨#[]⟩,.string ⟨#[]⟩] 41))
 have hb:Below w.heap.size w U:=zI
 have hz:OpBlk U (S+1) zeroO:=by
  rw [hU,hS]
  have:=heap_alloc_new (w.alloc (.cells #[.slice (ao 0) (R 0).length (cap 0),.slice (ao 1) (R 1).length (cap 1),.slice (ao 2) (R 2).length (cap 2),.slice (ao 3) (R 3).length (cap 3)] 74)) (.cells #[.int .i64 0,.int .i64 0,.int .i64 0,.int .u8 0,.int .i64 0,.int .i64 0,.string ⟨#[]⟩,.string ⟨#[]⟩] 41)
  rw [vQ] at this
  exact this
 have hk:KBox U S ao cap R:=zW
 have hcall:=of_ok id U h1 h2
 rw [ei] at hcall
 obtain ⟨tm,etm⟩:=za (id / 4)
 rw [<-etm] at hcall
 have HB:Aside (Below w.heap.size w U/\KBox U S ao cap R/\OpBlk U (S+1) zeroO):=⟨hb,hk,hz⟩
 have HS:Aside (S=w.heap.size/\tm=id / 4/\id % 4=(i:Int)):=⟨hS,etm,ei⟩
 clear hb hz hk etm ei
 go_enter func197,ntmps197
 go_wp2_with fail
 rw [<-hU,<-hS]
 clear hU hS
 refine hcall.mono ?_
 clear hcall
 rintro e w1 ⟨rfl,hb1⟩
 obtain ⟨V,hV⟩:=za (w1.alloc (.cells #[.int .i64 tm,.int .i64 (i:Int)] 39))
 have bV:Below w1.heap.size w1 V:=by rw [hV];exact zh w1 _
 have HV:Aside (Below w.heap.size w V/\KBox V S ao cap R/\OpBlk V (S+1) zeroO):=⟨HB.o.1.trans ((hb1.mono HB.o.1.size).trans (bV.mono (vr HB.o.1.size hb1.size))),(HB.o.2.1.later hb1).later bV,(HB.o.2.2.later hb1).later bV⟩
 have hs1:V.heap[w1.heap.size]? =some (.cells #[.int .i64 tm,.int .i64 (i:Int)] 39 (0,0)):=by rw [hV];exact heap_alloc_new w1 _
 have s0:V.cell? ⟨w1.heap.size,0,none⟩=some (.int .i64 tm):=by simp [World.cell?,hs1]
 have s1:V.cell? ⟨w1.heap.size,1,none⟩=some (.int .i64 (i:Int)):=by simp [World.cell?,hs1]
 have k1:=HV.o.2.1.at hi
 have hbs:=bsearch_any (ao i) (cap i) (R i) tm V ((hK.later HV.o.1) i hi) (hR.risesLe hi) (hl i hi)
 clear hb1 HB bV hs1
 go_upto_region 4 with fail
 rw [<-hV]
 clear hV
 go_wp2_with fail
 refine hbs.mono ?_
 clear hbs
 rintro e w2 ⟨k,b,rfl,hbk,hb2⟩
 have hfk:=findK_bs hR hi HS.o.2.2 (by rw [<-HS.o.2.1];exact hbk)
 have H2:Aside (Below w.heap.size w w2/\OpBlk w2 (S+1) zeroO):=⟨zi HV.o.1 hb2,HV.o.2.2.later hb2⟩
 have hl2:=H2.o.2.lt
 have KN:Aside (KnownAt w2 ao R):=hK.later H2.o.1
 obtain ⟨y0,y1,y2,y3,y4,y5,y6,y7,f8⟩:=H2.o.2.cells
 unfold zeroO at y0 y1 y2 y3 y4 y5 y6 y7
 dsimp only at y0 y1 y2 y3 y4 y5 y6 y7
 clear hb2 HV s0 s1 k1
 cases b with
 | false=>
  have HF:Aside (findK R id=none):=hfk.1 rfl
  clear hfk hbk
  go_wp2
  (try simp only [Exit.inBlock,Exit.then])
  refine bodyPost_ret (v:=.tuple #[encO zeroO,.bool false]) ?_ rfl ⟨by rw [HF.o];rfl,?_⟩
  ·rw [results_ct rfl]
   unfold encO zeroO
   go_simp
  exact below_cells (b:=S+1) H2.o.1 xe 0 [.int .i64 0,.int .i64 0,.int .i64 0,.int .u8 0,.int .i64 0,.int .i64 0,.string ⟨#[]⟩,.string ⟨#[]⟩]
 | true=>
  obtain ⟨⟨t,b,n,kd,nd,o,s,v⟩,hx,hf⟩:=hfk.2 rfl
  have HF:Aside (findK R id=some (t,b,n,kd,nd,o,s,v)):=hf
  obtain ⟨blk,off,hao,hc⟩:=(KN.o i hi).get hx
  have hkl:=(vi.1 hx).1
  have hll:=hl i hi
  have r0:=hc 0 _ rfl
  have r1:=hc 1 _ rfl
  have r2:=hc 2 _ rfl
  have r3:=hc 3 _ rfl
  have r4:=hc 4 _ rfl
  have r5:=hc 5 _ rfl
  have r6:=hc 6 _ rfl
  have r7:=hc 7 _ rfl
  simp only [ui] at r0
  have wk:((k:Int)).toNat=k:=zj
  have pk:(0:Int)<=(k:Int):=zj
  have bk:(k:Int)<((R i).length:Int):=zj
  rw [hao]
  clear hfk hbk hf hx hc hao
  go_wp2
  (try simp only [Exit.inBlock,Exit.then])
  refine bodyPost_ret (v:=.tuple #[.agg #[.int .i64 t,.int .i64 b,.int .i64 n,.int .u8 (kd:Int),.int .i64 nd,.int .i64 o,.string s,.string v],.bool true]) ?_ rfl ⟨by rw [HF.o];rfl,?_⟩
  ·rw [results_ct rfl]
   go_simp
  exact below_cells (b:=S+1) H2.o.1 xe 0 [.int .i64 t,.int .i64 b,.int .i64 n,.int .u8 (kd:Int),.int .i64 nd,.int .i64 o,.string s,.string v]
theorem kfind_any (w:World) (ao:Nat->Option Addr) (cap:Nat->Nat) (R:Rws) (id:Int) (hE:Op4 ad w) (hK:KnownAt w ao R) (hR:RowsN R) (hl:∀i,i<4->(R i).length<=1000) (h2: -9223372036854775808<=id) (h3:id<=9223372036854775807):
  Calls prog 197 #[kV ao cap R,.int .i64 id] w fun e w'=>e= .returned (.tuple #[encO ((findK R id).getD zeroO),.bool (findK R id).isSome])/\Below w.heap.size w w':=by
 by_cases h:id<4\/4294967300<=id
 ·rw [findK_out hR h]
  exact kfind_out w ao cap R id hE h h2 h3
 exact kfind_in w ao cap R id hK hR hl zj zj
end
section
open Go.RowKit Go.Lib Go.Sort
theorem known_find (h:RowsN R) :KnownN (allR R) id↔∃x,findK R id=some x/\kdO x=109/\nodeO x=id:=by
 constructor
 ·rintro ⟨x,hx,k1,k2,k3⟩
  exact ⟨x,by rw [<-k3];exact findK_is h hx,k1,k2⟩
 rintro ⟨x,hx,k1,k2⟩
 obtain ⟨a,b⟩:=findK_some hx
 exact ⟨x,a,k1,k2,b⟩
theorem letter_find (h:RowsN R) {nd:Int} :LetterN (allR R) nd id↔∃x,findK R id=some x/\kdO x=105/\nodeO x=nd:=by
 constructor
 ·rintro ⟨x,hx,k1,k2,k3⟩
  exact ⟨x,by rw [<-k3];exact findK_is h hx,k1,k2⟩
 rintro ⟨x,hx,k1,k2⟩
 obtain ⟨a,b⟩:=findK_some hx
 exact ⟨x,a,k1,k2,b⟩
theorem isNode_any (w:World) (ao:Nat->Option Addr) (cap:Nat->Nat) (R:Rws) (id:Int) (z:Bool) (hz:z=true↔KnownN (allR R) id) (hE:Op4 ad w) (hK:KnownAt w ao R) (hR:RowsN R) (hl:∀i,i<4->(R i).length<=1000) (h2: -9223372036854775808<=id) (h3:id<=9223372036854775807):
  Calls prog 141 #[kV ao cap R,.int .i64 id] w fun e w'=>e= .returned (.bool z)/\Below w.heap.size w w':=by
 obtain ⟨U,hU⟩:=za (w.alloc (.cells #[.slice (ao 0) (R 0).length (cap 0),.slice (ao 1) (R 1).length (cap 1),.slice (ao 2) (R 2).length (cap 2),.slice (ao 3) (R 3).length (cap 3)] 74))
 have hb:Below w.heap.size w U:=zP
 have hcall:=kfind_any U ao cap R id (hE.later hb) (hK.later hb) hR hl h2 h3
 rw [known_find hR] at hz
 unfold kV at hcall |-
 have HB:Aside (Below w.heap.size w U):=hb
 clear hb
 cases hf:findK R id with
 | none=>
  have hzf:z=false:=by
   cases z with
   | false=>rfl
   | true=>obtain ⟨x,e,_⟩:=hz.1 rfl;rw [hf] at e;cases e
  subst hzf
  rw [hf] at hcall
  unfold encO zeroO at hcall
  clear hf hz
  go_enter func141,ntmps141
  go_wp2_with fail
  rw [<-hU]
  clear hU
  refine hcall.mono ?_
  clear hcall
  rintro e w1 ⟨rfl,hb1⟩
  have B1:Aside (Below w.heap.size w w1):=zi HB.o hb1
  clear hb1 HB
  go_wp2
  go_ret
  exact ⟨rfl,B1.o.alloc B1.o.size _⟩
 | some x=>
  obtain ⟨t,b,n,k,nd,o,s,v⟩:=x
  have HZ:Aside (z=(decide (k=109) &&decide (nd=id))):=by
   show z=(decide (k=109) &&decide (nd=id))
   rw [Bool.eq_iff_iff,hz,uQ,decide_eq_true_iff,decide_eq_true_iff]
   constructor
   ·rintro ⟨x,e,k1,k2⟩
    rw [hf] at e
    cases e
    exact ⟨k1,k2⟩
   rintro ⟨k1,k2⟩
   exact ⟨_,hf,k1,k2⟩
  rw [hf] at hcall
  unfold encO at hcall
  dsimp only [Option.getD_some] at hcall
  clear hf hz
  by_cases hk:k=109
  ·subst hk
   go_enter func141,ntmps141
   go_wp2_with fail
   rw [<-hU]
   clear hU
   refine hcall.mono ?_
   clear hcall
   rintro e w1 ⟨rfl,hb1⟩
   have B1:Aside (Below w.heap.size w w1):=zi HB.o hb1
   clear hb1 HB
   go_wp2
   go_ret
   exact ⟨by rw [HZ.o];simp [BEq.beq],B1.o.alloc B1.o.size _⟩
  have dk:((k:Int)==109)=false:=zl
  go_enter func141,ntmps141
  go_wp2_with fail
  rw [<-hU]
  clear hU
  refine hcall.mono ?_
  clear hcall
  rintro e w1 ⟨rfl,hb1⟩
  have B1:Aside (Below w.heap.size w w1):=zi HB.o hb1
  clear hb1 HB
  go_wp2
  go_ret
  exact ⟨by rw [HZ.o];simp [hk],B1.o.alloc B1.o.size _⟩
theorem isLetter_any (w:World) (ao:Nat->Option Addr) (cap:Nat->Nat) (R:Rws) (node id:Int) (z:Bool) (hz:z=true↔LetterN (allR R) node id) (hE:Op4 ad w) (hK:KnownAt w ao R) (hR:RowsN R) (hl:∀i,i<4->(R i).length<=1000) (h2: -9223372036854775808<=id) (h3:id<=9223372036854775807):
  Calls prog 182 #[kV ao cap R,.int .i64 node,.int .i64 id] w fun e w'=>e= .returned (.bool z)/\Below w.heap.size w w':=by
 obtain ⟨U,hU⟩:=za (w.alloc (.cells #[.slice (ao 0) (R 0).length (cap 0),.slice (ao 1) (R 1).length (cap 1),.slice (ao 2) (R 2).length (cap 2),.slice (ao 3) (R 3).length (cap 3)] 74))
 have hb:Below w.heap.size w U:=zP
 have hcall:=kfind_any U ao cap R id (hE.later hb) (hK.later hb) hR hl h2 h3
 rw [letter_find hR] at hz
 unfold kV at hcall |-
 have HB:Aside (Below w.heap.size w U):=hb
 clear hb
 cases hf:findK R id with
 | none=>
  have hzf:z=false:=by
   cases z with
   | false=>rfl
   | true=>obtain ⟨x,e,_⟩:=hz.1 rfl;rw [hf] at e;cases e
  subst hzf
  rw [hf] at hcall
  unfold encO zeroO at hcall
  clear hf hz
  go_enter func182,ntmps182
  go_wp2_with fail
  rw [<-hU]
  clear hU
  refine hcall.mono ?_
  clear hcall
  rintro e w1 ⟨rfl,hb1⟩
  have B1:Aside (Below w.heap.size w w1):=zi HB.o hb1
  clear hb1 HB
  go_wp2
  go_ret
  exact ⟨rfl,B1.o.alloc B1.o.size _⟩
 | some x=>
  obtain ⟨t,b,n,k,nd,o,s,v⟩:=x
  have HZ:Aside (z=(decide (k=105) &&decide (nd=node))):=by
   show z=(decide (k=105) &&decide (nd=node))
   rw [Bool.eq_iff_iff,hz,uQ,decide_eq_true_iff,decide_eq_true_iff]
   constructor
   ·rintro ⟨x,e,k1,k2⟩
    rw [hf] at e
    cases e
    exact ⟨k1,k2⟩
   rintro ⟨k1,k2⟩
   exact ⟨_,hf,k1,k2⟩
  rw [hf] at hcall
  unfold encO at hcall
  dsimp only [Option.getD_some] at hcall
  clear hf hz
  by_cases hk:k=105
  ·subst hk
   go_enter func182,ntmps182
   go_wp2_with fail
   rw [<-hU]
   clear hU
   refine hcall.mono ?_
   clear hcall
   rintro e w1 ⟨rfl,hb1⟩
   have B1:Aside (Below w.heap.size w w1):=zi HB.o hb1
   clear hb1 HB
   go_wp2
   go_ret
   exact ⟨by rw [HZ.o];simp [BEq.beq],B1.o.alloc B1.o.size _⟩
  have dk:((k:Int)==105)=false:=zl
  go_enter func182,ntmps182
  go_wp2_with fail
  rw [<-hU]
  clear hU
  refine hcall.mono ?_
  clear hcall
  rintro e w1 ⟨rfl,hb1⟩
  have B1:Aside (Below w.heap.size w w1):=zi HB.o hb1
  clear hb1 HB
  go_wp2
  go_ret
  exact ⟨by rw [HZ.o];simp [hk],B1.o.alloc B1.o.size _⟩
theorem isPlace_any (w:World) (ao:Nat->Option Addr) (cap:Nat->Nat) (R:Rws) (id:Int) (z:Bool) (hz:z=true↔id=0\/id=1\/KnownN (allR R) id) (hE:Op4 ad w) (hK:KnownAt w ao R) (hR:RowsN R) (hl:∀i,i<4->(R i).length<=1000) (h2: -9223372036854775808<=id) (h3:id<=9223372036854775807):
  Calls prog 139 #[kV ao cap R,.int .i64 id] w fun e w'=>e= .returned (.bool z)/\Below w.heap.size w w':=by
 obtain ⟨U,hU⟩:=za (w.alloc (.cells #[.slice (ao 0) (R 0).length (cap 0),.slice (ao 1) (R 1).length (cap 1),.slice (ao 2) (R 2).length (cap 2),.slice (ao 3) (R 3).length (cap 3)] 74))
 have hb:Below w.heap.size w U:=zP
 have HB:Aside (Below w.heap.size w U):=hb
 by_cases h0:id=0
 ·obtain rfl:z=true:=hz.2 (.inl h0)
  subst h0
  unfold kV
  clear hb hz
  go_enter func139,ntmps139
  go_wp2
  go_ret
  exact ⟨rfl,zh w _⟩
 by_cases h1:id=1
 ·obtain rfl:z=true:=hz.2 (.inr (.inl h1))
  subst h1
  unfold kV
  clear hb hz
  go_enter func139,ntmps139
  go_wp2
  go_ret
  exact ⟨rfl,zh w _⟩
 have hz':z=true↔KnownN (allR R) id:=hz.trans ⟨fun q=>(q.resolve_left h0).resolve_left h1,fun q=>.inr (.inr q)⟩
 have hcall:=isNode_any U ao cap R id z hz' (hE.later hb) (hK.later hb) hR hl h2 h3
 have d0:(id==0)=false:=jg
 have d1:(id==1)=false:=by simp [h1]
 unfold kV at hcall |-
 clear hb hz hz'
 go_enter func139,ntmps139
 go_wp2_with fail
 rw [<-hU]
 clear hU
 refine hcall.mono ?_
 clear hcall
 rintro e w1 ⟨rfl,hb1⟩
 have B1:Aside (Below w.heap.size w w1):=zi HB.o hb1
 clear hb1 HB
 go_wp2
 go_ret
 exact ⟨rfl,B1.o⟩
theorem refOk_iff {S:List OpX} (hx:x∈S) (ho:0<=otherO x):RefOk S x↔KnownN S (nodeO x)/\(kdO x=109->otherO x=0\/otherO x=1\/KnownN S (otherO x))/\(kdO x=105->otherO x=0\/LetterN S (nodeO x) (otherO x))/\(kdO x=100->LetterN S (nodeO x) (otherO x)):=by
 constructor
 ·rintro ⟨h1,h2,h3⟩
  refine ⟨?_,h2,fun k=> ?_,fun k=>h3 (.inr k)⟩
  ·rcases h1 with ⟨k,e⟩ | k
   ·exact ⟨x,hx,k,rfl,e⟩
   exact k
  by_cases e:otherO x=0
  ·exact .inl e
  exact .inr (h3 (.inl ⟨k,zj⟩))
 rintro ⟨h1,h2,h3,h4⟩
 exact ⟨.inr h1,h2,fun k=>k.elim (fun k=>(h3 k.1).resolve_left zj) h4⟩
theorem bears_any (w:World) (ao:Nat->Option Addr) (cap:Nat->Nat) (R:Rws) (x:OpX) (hx:x∈allR R) (z:Bool) (hz:z=true↔RefOk (allR R) x) (hE:Op4 ad w) (hK:KnownAt w ao R) (hR:RowsN R) (hl:∀i,i<4->(R i).length<=1000):
  Calls prog 129 #[kV ao cap R,encO x] w fun e w'=>e= .returned (.bool z)/\Below w.heap.size w w':=by
 have hid:=id_range (hR.num.ok x hx)
 have hrf:=err_refs (hR.num.ok x hx)
 rw [refOk_iff hx zj] at hz
 obtain ⟨t,b,n,k,nd,o,s,v⟩:=x
 have q1:nd<=idO (t,b,n,k,nd,o,s,v):=hrf.1.elim (fun q=>q.2) (fun q=>Zk q)
 have q2:o<idO (t,b,n,k,nd,o,s,v):=hrf.2.1
 have q3:0<=nd:=hrf.2.2.1
 have q4:0<=o:=hrf.2.2.2.1
 have hn0:0<=nd/\nd<=4294967300:=⟨q3,zj⟩
 have ho0:0<=o/\o<=4294967300:=⟨q4,zj⟩
 clear q1 q2 q3 q4
 change z=true↔KnownN (allR R) nd/\(k=109->o=0\/o=1\/KnownN (allR R) o)/\(k=105->o=0\/LetterN (allR R) nd o)/\(k=100->LetterN (allR R) nd o) at hz
 clear hid hrf
 obtain ⟨U,hU⟩:=za ((w.alloc (.cells #[.slice (ao 0) (R 0).length (cap 0),.slice (ao 1) (R 1).length (cap 1),.slice (ao 2) (R 2).length (cap 2),.slice (ao 3) (R 3).length (cap 3)] 74)).alloc (.cells #[.int .i64 t,.int .i64 b,.int .i64 n,.int .u8 (k:Int),.int .i64 nd,.int .i64 o,.string s,.string v] 41))
 obtain ⟨S,hS⟩:=za w.heap.size
 have hb:Below w.heap.size w U:=zI
 have hz1:OpBlk U (S+1) (t,b,n,k,nd,o,s,v):=by
  rw [hU,hS]
  have:=heap_alloc_new (w.alloc (.cells #[.slice (ao 0) (R 0).length (cap 0),.slice (ao 1) (R 1).length (cap 1),.slice (ao 2) (R 2).length (cap 2),.slice (ao 3) (R 3).length (cap 3)] 74)) (.cells #[.int .i64 t,.int .i64 b,.int .i64 n,.int .u8 (k:Int),.int .i64 nd,.int .i64 o,.string s,.string v] 41)
  rw [vQ] at this
  exact this
 have hk:KBox U S ao cap R:=zW
 obtain ⟨zn,hzn⟩:∃zn:Bool,zn=true↔KnownN (allR R) nd:=by
  by_cases q:KnownN (allR R) nd
  ·exact ⟨true,by simp [q]⟩
  exact ⟨false,by simp [q]⟩
 have hcall:=isNode_any U ao cap R nd zn hzn (hE.later hb) (hK.later hb) hR hl zj zj
 have HB:Aside (Below w.heap.size w U/\KBox U S ao cap R/\OpBlk U (S+1) (t,b,n,k,nd,o,s,v)):=⟨hb,hk,hz1⟩
 unfold kV at hcall |-
 unfold encO
 clear hb hk hz1
 go_enter func129,ntmps129
 go_wp2_with fail
 rw [<-hU,<-hS]
 clear hU hS
 refine hcall.mono ?_
 clear hcall
 rintro e w1 ⟨rfl,hb1⟩
 have H1:Aside (Below w.heap.size w w1/\KBox w1 S ao cap R/\OpBlk w1 (S+1) (t,b,n,k,nd,o,s,v)):=⟨zi HB.o.1 hb1,HB.o.2.1.later hb1,HB.o.2.2.later hb1⟩
 obtain ⟨y0,y1,y2,y3,y4,y5,y6,y7,f8⟩:=H1.o.2.2.cells
 dsimp only at y0 y1 y2 y3 y4 y5 y6 y7
 have k0:=H1.o.2.1.at (i:=0) zj
 have k1:=H1.o.2.1.at (i:=1) zj
 have k2:=H1.o.2.1.at (i:=2) zj
 have k3:=H1.o.2.1.at (i:=3) zj
 have hE1:=hE.later H1.o.1
 have hK1:=hK.later H1.o.1
 clear hb1 HB
 cases zn with
 | false=>
  have hzf:z=false:=by
   cases z with
   | false=>rfl
   | true=>exact absurd (hzn.2 (hz.1 rfl).1) zt
  subst hzf
  clear hz hzn
  go_wp2
  go_ret
  exact ⟨rfl,H1.o.1⟩
 | true=>
  have hkn:=hzn.1 rfl
  clear hzn
  by_cases hm:k=109
  ·subst hm
   have hz':z=true↔o=0\/o=1\/KnownN (allR R) o:=hz.trans ⟨fun q=>q.2.1 rfl,fun q=>⟨hkn,fun _=>q,fun k=>absurd k zt,fun k=>absurd k zt⟩⟩
   have hcall:=isPlace_any w1 ao cap R o z hz' hE1 hK1 hR hl zj zj
   unfold kV at hcall
   clear hz hz'
   go_wp2_with fail
   refine hcall.mono ?_
   clear hcall
   rintro e w2 ⟨rfl,hb2⟩
   have B2:Aside (Below w.heap.size w w2):=zi H1.o.1 hb2
   clear hb2
   go_wp2
   go_ret
   exact ⟨rfl,B2.o⟩
  have dm:((k:Int)==109)=false:=zl
  by_cases hi:k=105
  ·subst hi
   by_cases h0:o=0
   ·subst h0
    obtain rfl:z=true:=hz.2 ⟨hkn,fun k=>absurd k zt,fun _=>.inl rfl,fun k=>absurd k zt⟩
    clear hz
    go_wp2
    go_ret
    exact ⟨rfl,H1.o.1⟩
   have d0:(o==0)=false:=jg
   have hz':z=true↔LetterN (allR R) nd o:=hz.trans ⟨fun q=>(q.2.2.1 rfl).resolve_left h0,fun q=>⟨hkn,fun k=>absurd k zt,fun _=>.inr q,fun k=>absurd k zt⟩⟩
   have hcall:=isLetter_any w1 ao cap R nd o z hz' hE1 hK1 hR hl zj zj
   unfold kV at hcall
   clear hz hz'
   go_wp2_with fail
   refine hcall.mono ?_
   clear hcall
   rintro e w2 ⟨rfl,hb2⟩
   have B2:Aside (Below w.heap.size w w2):=zi H1.o.1 hb2
   clear hb2
   go_wp2
   go_ret
   exact ⟨rfl,B2.o⟩
  have di:((k:Int)==105)=false:=zl
  by_cases hd:k=100
  ·subst hd
   have hz':z=true↔LetterN (allR R) nd o:=hz.trans ⟨fun q=>q.2.2.2 rfl,fun q=>⟨hkn,fun k=>absurd k zt,fun k=>absurd k zt,fun _=>q⟩⟩
   have hcall:=isLetter_any w1 ao cap R nd o z hz' hE1 hK1 hR hl zj zj
   unfold kV at hcall
   clear hz hz'
   go_wp2_with fail
   refine hcall.mono ?_
   clear hcall
   rintro e w2 ⟨rfl,hb2⟩
   have B2:Aside (Below w.heap.size w w2):=zi H1.o.1 hb2
   clear hb2
   go_wp2
   go_ret
   exact ⟨rfl,B2.o⟩
  have dd:((k:Int)==100)=false:=zl
  obtain rfl:z=true:=hz.2 ⟨hkn,fun k=>absurd k hm,fun k=>absurd k hi,fun k=>absurd k hd⟩
  clear hz
  go_wp2
  go_ret
  exact ⟨rfl,H1.o.1⟩
end
section
open Go.RowKit Go.Lib Go.Sort
section
variable {P:Program} {ops:Array Oper} {Q:Exit→Act→World→Prop} {md:Region.Mode} {S:World→Prop} {z:Nat}
theorem wpAnyZ_two {j:Nat} {oi oj:Oper} {fuel:Nat} {listed:Array Bool} {a:Act} (hr:Region.ready md ops listed= [i,j]) (hoi:ops[i]? =some oi) (hoj:ops[j]? =some oj)
  (h1:∀K:Act->World->Prop,(∀a' w',(S w'\/i=z/\z<listed.size)->wpAnyZ P md ops Q S z fuel (listed.setIfInBounds i true) a' w'->K a' w')->if Region.wanted oi (yielded ops a.tmps)=true then Oper.wp P oi a w K Q else K (a.put oi.dst undef) w)
  (h2:∀K:Act->World->Prop,(∀a' w',(S w'\/j=z/\z<listed.size)->wpAnyZ P md ops Q S z fuel (listed.setIfInBounds j true) a' w'->K a' w')->if Region.wanted oj (yielded ops a.tmps)=true then Oper.wp P oj a w K Q else K (a.put oj.dst undef) w):wpAnyZ P md ops Q S z (fuel+1) listed a w:=by
 refine ⟨fun h0=>qx,fun k hk=> ?_⟩
 rw [hr] at hk
 simp only [vz,Zc,or_false] at hk
 rcases hk with rfl | rfl
 ·have:=h1 (fun a' w'=>(S w'\/(listed.setIfInBounds k true).getD z false=true)/\wpAnyZ P md ops Q S z fuel (listed.setIfInBounds k true) a' w') (fun a' w' h1 h2=>⟨h1.imp id (fun h=>by
   obtain ⟨e,hl⟩:=h
   subst e
   simp [hl]),h2⟩)
  unfold wpOp
  simp only [hoi]
  split
  ·rename_i hw
   rw [if_pos hw] at this
   exact .inl this
  rename_i hw
  rw [if_neg hw] at this
  exact this
 have:=h2 (fun a' w'=>(S w'\/(listed.setIfInBounds k true).getD z false=true)/\wpAnyZ P md ops Q S z fuel (listed.setIfInBounds k true) a' w') (fun a' w' h1 h2=>⟨h1.imp id (fun h=>by
  obtain ⟨e,hl⟩:=h
  subst e
  simp [hl]),h2⟩)
 unfold wpOp
 simp only [hoj]
 split
 ·rename_i hw
  rw [if_pos hw] at this
  exact .inl this
 rename_i hw
 rw [if_neg hw] at this
 exact this
end
structure Ln4 (ad:Nat->Addr) (w:World):Prop where
 c1:w.cell? ⟨0,0,none⟩=some (.iface 350 (.pointer (some (ad 1))))
 c2:w.cell? ⟨4,0,none⟩=some (.iface 350 (.pointer (some (ad 2))))
 c5:w.cell? ⟨1,0,none⟩=some (.iface 350 (.pointer (some (ad 5))))
 c6:w.cell? ⟨6,0,none⟩=some (.iface 350 (.pointer (some (ad 6))))
theorem Ln4.later (h:Ln4 ad w) (hb:Below w.heap.size w w'):Ln4 ad w':=
 ⟨cellStays hb h.c1,cellStays hb h.c2,cellStays hb h.c5,cellStays hb h.c6⟩
def ShapeOk (id behind:Int):Prop:=4<=id/\id<4294967300/\0<=behind/\behind<id
theorem insert_shape (w:World) (p:Nat) (id behind:Int) (c:Nat) (hE:Ln4 ad w) (hi: -9223372036854775808<=id/\id<=9223372036854775807) (h:¬ShapeOk id behind):
  Calls prog 134 #[.pointer (some ⟨p,0,none⟩),.int .i64 id,.int .i64 behind,.int .u8 (c:Int)] w fun e w'=>e= .returned (.iface 350 (.pointer (some (ad 2))))/\Below w.heap.size w w':=by
 have HE:Aside (Ln4 ad w):=hE
 have hzb:0<w.heap.size:=vp w ⟨_,0,none⟩ hE.c1
 by_cases h1:4<=id/\id<4294967300
 ·have hof:=of_ok id w h1.1 h1.2
  by_cases h2:behind<0
  ·have d2:decide (behind<0)=true:=decide_eq_true h2
   clear hE h h1 hi hzb
   go_enter func134,ntmps134
   go_wp2_with fail
   refine hof.mono ?_
   rintro e w1 ⟨rfl,hb⟩
   have B2:Aside (∀o,Below w.heap.size w (w1.alloc o)):=fun o=>hb.alloc hb.size o
   have c2:∀o,(w1.alloc o).cell? ⟨4,0,none⟩=_:=fun o=>(HE.o.later (B2.o o)).c2
   clear hb hof
   go_wp2
   go_ret
   exact ⟨rfl,B2.o _⟩
  have d2:decide (behind<0)=false:=decide_eq_false h2
  have d3:decide (id<=behind)=true:=decide_eq_true (by unfold ShapeOk at h;omega)
  clear hE h h1 hi hzb
  go_enter func134,ntmps134
  go_wp2_with fail
  refine hof.mono ?_
  rintro e w1 ⟨rfl,hb⟩
  have B2:Aside (∀o,Below w.heap.size w (w1.alloc o)):=fun o=>hb.alloc hb.size o
  have c2:∀o,(w1.alloc o).cell? ⟨4,0,none⟩=_:=fun o=>(HE.o.later (B2.o o)).c2
  clear hb hof
  go_wp2
  go_ret
  exact ⟨rfl,B2.o _⟩
 have hof:=of_no id w _ _ hE.c1 hzb zj hi.1 hi.2
 clear hE h h1 hi hzb
 go_enter func134,ntmps134
 go_wp2_with fail
 refine hof.mono ?_
 rintro e w1 ⟨rfl,hb⟩
 have B2:Aside (∀o,Below w.heap.size w (w1.alloc o)):=fun o=>hb.alloc hb.size o
 have c2:∀o,(w1.alloc o).cell? ⟨4,0,none⟩=_:=fun o=>(HE.o.later (B2.o o)).c2
 clear hb hof
 go_wp2
 go_ret
 exact ⟨rfl,B2.o _⟩
theorem insert_exist (w:World) (base p:Nat) (v:Value) (L:List Ltr) (id behind:Int) (c:Nat) (hE:Ln4 ad w) (hT:LineAt base w p v L) (hL:L.length<=1000) (h:ShapeOk id behind) (hx:id∈L.map (·.1)):
  Calls prog 134 #[.pointer (some ⟨p,0,none⟩),.int .i64 id,.int .i64 behind,.int .u8 (c:Int)] w fun e w'=>e= .returned (.iface 350 (.pointer (some (ad 6))))/\Below w.heap.size w w':=by
 have HE:Aside (Ln4 ad w):=hE
 have HT:Aside (LineAt base w p v L):=hT
 have hof:=of_ok id w h.1 h.2.1
 have d2:decide (behind<0)=false:=decide_eq_false jy
 have d3:decide (id<=behind)=false:=decide_eq_false qT
 obtain ⟨i,hi,-,hil⟩:=findI_pos hx
 have d4:decide ((0:Int)<=(i:Int))=true:=zm
 have HI:=Lib.hid hi
 clear hE hT h hx hi
 go_enter func134,ntmps134
 go_wp2_with fail
 refine hof.mono ?_
 rintro e w1 ⟨rfl,hb⟩
 have B2:Aside (∀o,Below w.heap.size w (w1.alloc o)):=fun o=>hb.alloc hb.size o
 clear hb hof
 go_wp2_with fail
 refine (lfind_any _ base p v L id (HT.o.later (B2.o _)) hL).mono ?_
 rintro e w2 ⟨rfl,hb2⟩
 rw [HI.o]
 have B3:Aside (Below w.heap.size w w2):=(B2.o _).trans (hb2.mono (B2.o _).size)
 have c6:=(HE.o.later B3.o).c6
 clear hb2
 go_wp2
 go_ret
 exact ⟨rfl,B3.o⟩
theorem insert_none (w:World) (base p:Nat) (v:Value) (L:List Ltr) (id behind:Int) (c:Nat) (hE:Ln4 ad w) (hT:LineAt base w p v L) (hL:L.length<=1000) (h:ShapeOk id behind) (hx:id∉L.map (·.1)) (h0:behind≠0) (hy:behind∉L.map (·.1)):
  Calls prog 134 #[.pointer (some ⟨p,0,none⟩),.int .i64 id,.int .i64 behind,.int .u8 (c:Int)] w fun e w'=>e= .returned (.iface 350 (.pointer (some (ad 5))))/\Below w.heap.size w w':=by
 have HE:Aside (Ln4 ad w):=hE
 have HT:Aside (LineAt base w p v L):=hT
 have hof:=of_ok id w h.1 h.2.1
 have d2:decide (behind<0)=false:=decide_eq_false jy
 have d3:decide (id<=behind)=false:=decide_eq_false qT
 have d4:(behind !=0)=true:=jg
 have HI:=Lib.hid (findI_neg hx)
 have HJ:=Lib.hid (findI_neg hy)
 clear hE hT h hx hy h0
 go_enter func134,ntmps134
 go_wp2_with fail
 refine hof.mono ?_
 rintro e w1 ⟨rfl,hb⟩
 have B2:Aside (∀o,Below w.heap.size w (w1.alloc o)):=fun o=>hb.alloc hb.size o
 clear hb hof
 go_wp2_with fail
 refine (lfind_any _ base p v L id (HT.o.later (B2.o _)) hL).mono ?_
 rintro e w2 ⟨rfl,hb2⟩
 rw [HI.o]
 have B3:Aside (Below w.heap.size w w2):=(B2.o _).trans (hb2.mono (B2.o _).size)
 clear hb2
 go_wp2_with fail
 refine (lfind_any _ base p v L behind (HT.o.later B3.o) hL).mono ?_
 rintro e w3 ⟨rfl,hb3⟩
 rw [HJ.o]
 have B4:Aside (Below w.heap.size w w3):=zi B3.o hb3
 have c5:=(HE.o.later B4.o).c5
 clear hb3
 go_wp2
 go_ret
 exact ⟨rfl,B4.o⟩
