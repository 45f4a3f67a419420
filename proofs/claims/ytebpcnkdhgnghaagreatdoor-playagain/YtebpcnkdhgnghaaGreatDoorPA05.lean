import Derived.Test.YtebpcnkdhgnghaaGreatDoorPA01
import Derived.Test.YtebpcnkdhgnghaaGreatDoorPA02
import Derived.Test.YtebpcnkdhgnghaaGreatDoorPA03
import Derived.Test.YtebpcnkdhgnghaaGreatDoorPA04
import Derived.Deep.RegionHeld3
set_option linter.unusedSimpArgs false
set_option linter.unusedVariables false
set_option maxRecDepth 100000
set_option maxHeartbeats 64000000
namespace Go.Proofs.YtebpcnkdhgnghaaGreatDoor
open Go.Proofs.Tryz
variable {a k x:dw} {p q:bQ} {f:eD} {D:DataW Unit} {z:DataW Unit×List MemPlace} {nd:Int} {ps:List Mrk} {l:List Value} {b bc bm n o:Nat} {v:Value} {w w':World}
section
open Go Go.Maps
def pI (k:dw):Value:=.agg #[.int .i64 k.1,.string k.2]
theorem Ap {p q:dw} (h:pI p=pI q):p=q:=by
 obtain ⟨a,s⟩:=p
 obtain ⟨a',s'⟩:=q
 simp [pI] at h
 obtain ⟨rfl,rfl⟩:=h
 rfl
def tn (c:bQ):Value:=.agg #[.string c.1,.int .i64 c.2.1,.int .i64 c.2.2]
theorem Ie (h:tn p=tn q):p=q:=by
 obtain ⟨s,a,b⟩:=p
 obtain ⟨s',a',b'⟩:=q
 simp [tn] at h
 exact kn5
def BZ:bQ:=(⟨#[]⟩,0,0)
def wE (c:bQ):DataW Unit:=.agg [.lit (.string c.1.data.toList),.lit (.int .i64 c.2.1),.lit (.int .i64 c.2.2)]
theorem wC (h:wE p=wE q):p=q:=by
 obtain ⟨⟨⟨s⟩⟩,a,b⟩:=p
 obtain ⟨⟨⟨s'⟩⟩,a',b'⟩:=q
 simp [wE] at h
 exact kn5
def ON (l:List Value):Option (DataW Unit×List MemPlace):=match l with
 | [.string s,.int .i64 a,.int .i64 b]=>some (wE (s,a,b),[])
 | _=>none
def By (v:Value):Option (DataW Unit×List MemPlace):=match v with
 | .agg cs=>ON cs.toList
 | _=>none
theorem Fe (c:bQ):By (tn c)=some (wE c,[]):=rfl
theorem Gv (h:ON l=some z):∃c:bQ,l= [.string c.1,.int .i64 c.2.1,.int .i64 c.2.2]/\z=(wE c,[]):=by
 unfold ON at h
 split at h
 ·rename_i s a b
  cases h
  exact ⟨(s,a,b),rfl,rfl⟩
 cases h
theorem oK (h:By v=some z):∃c,v=tn c/\z=(wE c,[]):=by
 unfold By at h
 split at h
 ·rename_i cs
  obtain ⟨c,e,rfl⟩:=Gv h
  refine ⟨c,?_,rfl⟩
  unfold tn
  rw [<-e]
 cases h
theorem pE:∀(x y:List UInt8),Op.bytesLess x y=decide (x<y)
 | [],[]=>jB
 | _::_,[]=>jB
 | [],_::_=>jB
 | a::x,b::y=>by
  rw [Op.bytesLess,pE x y]
  simp only [List.cons_lt_cons_iff]
  by_cases h1:a<b<;>by_cases h2:a=b<;>by_cases h3:x<y<;>simp [h1,h2,h3]
theorem nv (a b:ByteArray):Op.bytesLess a.toList b.toList=decide (a.data.toList<b.data.toList):=by
 rw [pE,vH,vH]
def WfK (k:dw):Prop:=(Lit.int .i64 k.1).wf=true/\k.2.size<=maxLen
def eT (k:dw):Lit:=.string (keyBytes [.int .i64 k.1,.string k.2.data.toList])
section
variable {P:Program} {K I S:TypeId} {f g:Field}
theorem eZ {fs:Array Field} (hu:P.underlying K=some (.struct fs)) (d:Nat) (cs:List Value):P.keyLits (d+1) K cs=if cs.length=P.cellsOf K/\fs.all (·.name != "_")=true then (fs.toList.mapM fun f=>P.keyLits d f.type ((cs.drop f.offset).take (P.cellsOf f.type))).map List.flatten else none:=by
 conv=>lhs;unfold Program.keyLits
 simp only [hu]
theorem gA (hI:P.underlying I=some (.int .i64)) (d:Nat) (v:Value):P.keyLits (d+1) I [v]=match v with | .int .i64 n=>if (Lit.int .i64 n).wf=true then some [.int .i64 n] else none | _=>none:=by
 conv=>lhs;unfold Program.keyLits
 simp only [hI]
 cases v<;>try rfl
 rename_i q n
 cases q<;>simp
theorem mF (hS:P.underlying S=some .string) (d:Nat) (v:Value):P.keyLits (d+1) S [v]=match v with | .string s=>if s.size<=maxLen then some [.string s.data.toList] else none | _=>none:=by
 conv=>lhs;unfold Program.keyLits
 simp only [hS]
 cases v<;>rfl
theorem KD (hu:P.underlying K=some (.struct #[f,g])) (f1:f.type=I) (f2:f.offset=0) (f3:(f.name != "_")=true) (g1:g.type=S) (g2:g.offset=1) (g3:(g.name != "_")=true) (hI:P.underlying I=some (.int .i64)) (hS:P.underlying S=some .string) (cK:P.cellsOf K=2) (cI:P.cellsOf I=1) (cS:P.cellsOf S=1) (hT:P.keyType K=true) (e:Nat) (he:P.types.size=e+1) (h:WfK k):keyOf P K (pI k)=some (eT k):=by
 obtain ⟨h1,h2⟩:=h
 have hf:(pI k).formed P K=true:=by simp [Value.formed,pI,hu,cK]
 unfold keyOf
 rw [hu]
 dsimp only
 rw [hT,hf]
 simp only [Bool.and_self,if_true]
 rw [eZ hu,he]
 simp [pI,Value.cells,cK,cI,cS,f1,f2,f3,g1,g2,g3,gA hI,mF hS,h1,h2,eT]
theorem JW (hw:(match P.underlying K with | some (.array _ _) | some (.struct _)=>true | _=>false)=true) (hu:P.underlying K=some (.struct #[f,g])) (f1:f.type=I) (f2:f.offset=0) (g1:g.type=S) (g2:g.offset=1) (hI:P.underlying I=some (.int .i64)) (hS:P.underlying S=some .string) (cK:P.cellsOf K=2) (cI:P.cellsOf I=1) (cS:P.cellsOf S=1) (e:Nat) (he:P.types.size=e+1) {l:Lit} (h:keyOf P K v=some l):∃k,WfK k/\v=pI k/\l=eT k:=by
 obtain ⟨xs,L,rfl,h1,rfl⟩:=keyOf_top hw h
 rw [eZ hu,he] at h1
 split at h1
 ·rename_i hc
  obtain ⟨a,b,hx⟩:∃a b,xs.toList= [a,b]:=by
   rw [cK] at hc
   have h2:=hc.1
   match hl:xs.toList,h2 with
   | [a,b],_=>exact ⟨a,b,rfl⟩
  rw [hx] at h1
  simp only [List.mapM_cons,List.mapM_nil,f1,f2,g1,g2,cI,cS,List.drop_zero,List.take,List.drop,uL,gA hI,mF hS] at h1
  cases a<;>simp at h1
  rename_i q n
  cases q<;>simp at h1
  cases b<;>simp at h1
  rename_i s
  by_cases hwf:(Lit.int .i64 n).wf=true
  ·by_cases hsz:s.size<=maxLen
   ·simp [hwf,hsz] at h1
    subst h1
    refine ⟨(n,s),⟨hwf,hsz⟩,?_,rfl⟩
    unfold pI
    congr 1
    rw [<-Array.toList_inj,hx]
   simp [hwf,hsz] at h1
  simp [hwf] at h1
 cases h1
end
theorem JG:204<prog.types.size:=of_decide_eq_true zk
theorem Du:(match prog.underlying 204 with | some (.array _ _) | some (.struct _)=>true | _=>false)=true:=zk
theorem Jc:laidOutB prog=true:=zk
theorem lawK:Keyed prog 204:=Keyed.of_law (deep_law_laid Jc (m:=2) zj JG zk Du)
theorem OO:prog.keyType 204=true:=zk
theorem AQ:prog.cellsOf 204=2:=zk
theorem lA:prog.cellsOf 3=1:=zk
theorem rl:prog.cellsOf 9=1:=zk
theorem su:∃e,prog.types.size=e+1:=Nat.exists_eq_succ_of_ne_zero (by have:=JG;omega)
theorem AN (h:WfK k):keyOf prog 204 (pI k)=some (eT k):=by
 obtain ⟨e,he⟩:=su
 exact KD underlying204 rfl rfl zo rfl rfl zo underlying3 underlying9 AQ lA rl OO e he h
theorem Fy {l:Lit} (h:keyOf prog 204 v=some l):∃k,WfK k/\v=pI k/\l=eT k:=by
 obtain ⟨e,he⟩:=su
 exact JW Du underlying204 rfl rfl rfl rfl underlying3 underlying9 AQ lA rl e he h
theorem si {b:dw} (ha:WfK a) (hb:WfK b) (h:a≠b):eT a≠eT b:=fun e=>h (Ap (lawK.inj (AN ha) (by rw [e];exact AN hb)))
theorem Em :WideAt.IsKeyLit (eT k):=trivial
theorem mX {b:dw} (ha:WfK a) (hb:WfK b):Lit.sameKey (eT a) (eT b)=decide (a=b):=by
 by_cases h:a=b
 ·subst h
  rw [WideAt.sameKey_self Em]
  simp
 rw [sameKey_ne (si ha hb h)]
 simp [h]
theorem Dz {k:Int} (h0: -2^63<=k) (h1:k<2^63):(Lit.int .i64 k).wf=true:=by
 exact kh8
theorem Nk (h0: -2^63<=k.1) (h1:k.1<2^63) (h2:k.2.size<=1000000):WfK k:=⟨Dz h0 h1,zu⟩
def ReadsC (D:DataW Unit) (f:eD):Prop:=∀k,WfK k->match f k with
 | none=>has D (eT k)=false
 | some c=>∀z,D.atKey (eT k) z=wE c
theorem ReadsC.gone (h:ReadsC D f) (hk:WfK k) (hf:f k=none):has D (eT k)=false:=by
 exact kl0
theorem ReadsC.held (h:ReadsC D f) (hk:WfK k) {c:bQ} (hf:f k=some c) (z:DataW Unit):D.atKey (eT k) z=wE c:=by
 exact kk0
theorem ReadsC.has {D:DataW Unit} {f:eD} (h:ReadsC D f) {k:dw} (hk:WfK k):Maps.has D (eT k)=(f k).isSome:=by
 cases hf:f k with
 | none=>rw [h.gone hk hf];rfl
 | some p=>rw [has_true_of_atKey (h.held hk hf)];rfl
theorem ReadsC.at (h:ReadsC D f) (hk:WfK k):D.atKey (eT k) (wE BZ)=wE ((f k).getD BZ):=by
 cases hf:f k with
 | none=>rw [atKey_of_not_has (h.gone hk hf)];rfl
 | some p=>rw [h.held hk hf];rfl
theorem ReadsC.got (h:ReadsC D f) {c:bQ} (hk:WfK k) (hat:∀z,D.atKey (eT k) z=wE c):f k=some c:=by
 have hh:=h.has hk
 rw [has_true_of_atKey hat] at hh
 cases hf:f k with
 | none=>rw [hf] at hh;cases hh
 | some p=>
  have:=h.held hk hf .nil
  rw [hat] at this
  rw [wC this]
theorem CQ (h:ReadsC D f) (hD:IsMap D) (hk:WfK k) (c:bQ):ReadsC (D.put (eT k) (wE c)) (fun x=>if x=k then some c else f x):=by
 intro x hx
 dsimp only
 by_cases e:x=k
 ·subst e
  rw [if_pos rfl]
  exact fun z=>atKey_put_same hD Em _ _
 rw [if_neg e]
 cases hf:f x with
 | none=>rw [has_put_other (si hx hk e)];exact h.gone hx hf
 | some q=>intro z;rw [atKey_put_other (si hx hk e)];exact h.held hx hf z
def GoodC (f:eD):Prop:=∀k c,f k=some c->WfK k
theorem BO:GoodC noC:=fun k c h=>qS
theorem GoodC.put (h:GoodC f) (hk:WfK k) (c:bQ):GoodC (fun x=>if x=k then some c else f x):=by
 intro x d hx
 dsimp only at hx
 split at hx
 ·rename_i e;rw [e];exact hk
 exact h x d hx
structure CMapAt (w:World) (b n:Nat) (f:eD):Prop where
 reads:∃D,w.ownsMap prog 204 By b n D/\ReadsC D f
 good:GoodC f
theorem CMapAt.lt {w:World} {b n:Nat} {f:eD} (h:CMapAt w b n f):b<w.heap.size:=by
 obtain ⟨D,h,_⟩:=h.reads;exact h.lt
theorem CMapAt.mono {w:World} {b n n':Nat} {f:eD} (h:CMapAt w b n f) (hn:n<=n'):CMapAt w b n' f:=by
 obtain ⟨⟨D,h,r⟩,g⟩:=h;exact ⟨⟨D,h.mono hn,r⟩,g⟩
theorem CMapAt.same (h:CMapAt w b n f) (e:w'.heap[b]? =w.heap[b]?):CMapAt w' b n f:=by
 exact kk7
theorem sg (w:World):CMapAt (w.alloc (.map #[] 0)) w.heap.size 0 noC:=
 ⟨⟨_,World.ownsMap_made w prog 204 By,fun _ _=>rfl⟩,BO⟩
theorem Hy (w:World):(zeroValue 206).run prog w= .ok (tn BZ) w:=zeroValue206 w
theorem CMapAt.look (h:CMapAt w b n f) (hk:WfK k):
  (Instr.lookup 201 (.map (some b)) (pI k) true).run prog w= .ok (.tuple #[tn ((f k).getD BZ),.bool (f k).isSome]) w:=by
 obtain ⟨⟨D,h,r⟩,_⟩:=h
 obtain ⟨v,ps,hrun,hv⟩:=h.look_ok lawK underlying201 (Hy w) (Fe BZ) (AN hk)
 obtain ⟨p,rfl,hp⟩:=oK hv
 rw [r.at hk,Prod.mk.injEq] at hp
 rw [hrun,r.has hk,wC hp.1]
theorem CMapAt.store {w:World} {b n:Nat} {f:eD} (h:CMapAt w b n f) (hn:n<maxLen) {k:dw} (hk:WfK k) (c:bQ):
  ∃w',(Instr.mapUpdate 201 (.map (some b)) (pI k) (tn c)).run prog w= .ok () w'/\CMapAt w' b (n+1) (fun x=>if x=k then some c else f x)/\w.mapTurned w' b:=by
 obtain ⟨⟨D,h,r⟩,g⟩:=h
 obtain ⟨w',hrun,h',ht⟩:=h.store lawK underlying201 hn (AN hk) (Fe c)
 exact ⟨w',hrun,⟨⟨_,h',CQ r h.isMap hk c⟩,g.put hk c⟩,ht⟩
end
section
open Go Go.Maps
def AllM (f:eD) (ps:List Mrk):Prop:=(ps.map ia).Nodup/\∀p:Mrk,p∈ps↔p.2.2.size≠0/\∃s,f (ia p)=some (p.2.2,s)
theorem AllM.marks {qs:List Mrk} (h:AllM f ps) (hp:qs.Perm ps) (hs:qs.Pairwise (fun a b=>¬KLt (ia b) (ia a))):IsMarks f qs:=by
 refine ⟨?_,fun p=>(hp.mem_iff).trans (h.2 p)⟩
 have hn:(qs.map ia).Nodup:=(hp.map _).nodup_iff.2 h.1
 have hn':qs.Pairwise (fun a b=>ia a≠ia b):=List.pairwise_map.1 hn
 exact (hs.and hn').imp (fun {a b} h=>by
  rcases pF h.2 with q | q
  ·exact q
  ·exact absurd q h.1)
def CollM (f:eD) (left:Lit->Bool) (ps:List Mrk):Prop:=
 (ps.map ia).Nodup/\(∀p∈ps,(p.2.2.size≠0/\∃s,f (ia p)=some (p.2.2,s))/\left (eT (ia p))=false)/\∀k c,f k=some c->left (eT k)=false->c.1.size≠0->(k.1,k.2,c.1)∈ps
theorem tJ (hr:ReadsC D f) (hg:GoodC f):CollM f (has D) []:=
 ⟨uS,fun p hp=>by simp at hp,fun k c hf hl _=>by rw [hr.has (hg k c hf),hf] at hl;cases hl⟩
theorem CollM.skip {left:Lit->Bool} (h:CollM f left ps) (hg:GoodC f) {c:bQ} (hx:WfK x) (hf:f x=some c) (hc:c.1.size=0):CollM f (fun z=>left z && !z.sameKey (eT x)) ps:=by
 obtain ⟨h1,h2,h3⟩:=h
 refine ⟨h1,fun p hp=>⟨(h2 p hp).1,?_⟩,fun k d hk hl hd=> ?_⟩
 ·show (left (eT (ia p)) &&_)=false
  rw [(h2 p hp).2]
  rfl
 have hl:(left (eT k) && !Lit.sameKey (eT k) (eT x))=false:=hl
 rw [mX (hg k d hk) hx] at hl
 by_cases e:k=x
 ·subst e
  rw [hf] at hk
  cases hk
  exact absurd hc hd
 exact h3 k d hk (by simpa [e] using hl) hd
theorem CollM.step {left:Lit->Bool} (h:CollM f left ps) (hg:GoodC f) {c:bQ} (hx:WfK x) (hlx:left (eT x)=true) (hf:f x=some c) (hc:c.1.size≠0):CollM f (fun z=>left z && !z.sameKey (eT x)) (ps++ [(x.1,x.2,c.1)]):=by
 obtain ⟨h1,h2,h3⟩:=h
 refine ⟨?_,fun p hp=> ?_,fun k d hk hl hd=> ?_⟩
 ·rw [vz,vM]
  refine ⟨h1,zq,fun a ha b hb=> ?_⟩
  simp only [vJ,uB,jS] at hb
  subst hb
  intro e
  obtain ⟨p,hp,rfl⟩:=vp.1 ha
  have:=(h2 p hp).2
  rw [e,show ia (x.1,x.2,c.1)=x from rfl,hlx] at this
  cases this
 ·rcases jO.1 hp with hp | hp
  ·refine ⟨(h2 p hp).1,?_⟩
   show (left (eT (ia p)) &&_)=false
   rw [(h2 p hp).2]
   rfl
  simp only [jS] at hp
  subst hp
  refine ⟨⟨hc,c.2,hf⟩,?_⟩
  show (left (eT x) && !Lit.sameKey (eT x) (eT x))=false
  rw [mX hx hx]
  simp
 have hl:(left (eT k) && !Lit.sameKey (eT k) (eT x))=false:=hl
 rw [mX (hg k d hk) hx] at hl
 by_cases e:k=x
 ·subst e
  rw [hf] at hk
  cases hk
  simp
 exact vg _ (h3 k d hk (by simpa [e] using hl) hd)
theorem CollM.all {left:Lit->Bool} (h:CollM f left ps) (hl:∀kl,left kl=false):AllM f ps:=by
 refine ⟨h.1,fun p=>⟨fun hp=>(h.2.1 p hp).1,fun hp=> ?_⟩⟩
 obtain ⟨h0,s,hf⟩:=hp
 exact h.2.2 (ia p) _ hf (hl _) h0
end
section
open Go.RowKit Go.Maps
structure CellsAt (w:World) (bc bm n:Nat) (f:eD):Prop where
 cell:w.heap[bc]? =some (.cells #[.map (some bm)] 218 (0,0))
 map:CMapAt w bm n f
theorem CellsAt.c0 (h:CellsAt w bc bm n f):w.cell? ⟨bc,0,none⟩=some (.map (some bm)):=by simp [World.cell?,h.cell]
theorem CellsAt.lt {w:World} {bc bm n:Nat} {f:eD} (h:CellsAt w bc bm n f):bc<w.heap.size/\bm<w.heap.size:=⟨(jJ.1 h.cell).1,h.map.lt⟩
theorem CellsAt.ne (h:CellsAt w bc bm n f):bc≠bm:=fun e=>by
 obtain ⟨⟨D,⟨es,clock,hb,_⟩,_⟩,_⟩:=h.map
 have:=h.cell
 rw [e,hb] at this
 cases this
theorem CellsAt.same {w w':World} {bc bm n:Nat} {f:eD} (h:CellsAt w bc bm n f) (h1:w'.heap[bc]? =w.heap[bc]?) (h2:w'.heap[bm]? =w.heap[bm]?):CellsAt w' bc bm n f:=⟨h1.trans h.cell,h.map.same h2⟩
theorem CellsAt.later (h:CellsAt w bc bm n f) (hb:Below w.heap.size w w'):CellsAt w' bc bm n f:=h.same (hb.block _ h.lt.1) (hb.block _ h.lt.2)
theorem CellsAt.mono {w:World} {bc bm n n':Nat} {f:eD} (h:CellsAt w bc bm n f) (hn:n<=n'):CellsAt w bc bm n' f:=⟨h.cell,h.map.mono hn⟩
theorem It (w:World):Calls prog 67 #[] w fun e w'=>e= .returned (.pointer (some ⟨w.heap.size+1,0,none⟩))/\w'=(w.alloc (.map #[] 0)).alloc (.cells #[.map (some w.heap.size)] 218):=by
 have hmm:= @run_makeMap prog
 go_enter func67,ntmps67
 exact ka9
theorem Lo (w:World) (bc bm:Nat) (h:w.cell? ⟨bc,0,none⟩=some (.map (some bm))):Calls prog 104 #[.pointer (some ⟨bc,0,none⟩)] w fun e w'=>e= .returned (.map (some bm))/\w'=w:=by
 go_enter func104,ntmps104
 exact ka9
theorem lO (a b:Int×Int):dO a.1 a.2 b.1 b.2=decide (CLt a b):=by
 unfold dO CLt
 by_cases h:a.1=b.1
 ·rw [if_pos h]
  simp [h]
 rw [if_neg h]
 simp [h]
def nV (w:World) (bc bm n:Nat) (f:eD) (m:dw×bQ) (w':World):Prop:=CellsAt w' bc bm (n+1) (pJ f m)/\Keeps (fun j=>j=bm) w w'
theorem KJ (w:World) (bc bm n:Nat) (f:eD) (a:Int) (s c:ByteArray) (t b:Int) (h:CellsAt w bc bm n f) (hn:n<=1000000) (hk:WfK (a,s)):
  Calls prog 207 #[.pointer (some ⟨bc,0,none⟩),.agg #[.int .i64 a,.string s],.agg #[.string c,.int .i64 t,.int .i64 b]] w fun e w'=>e= .returned (.bool (gH f (a,s) (c,(t,b))))/\nV w bc bm n f ((a,s),(c,(t,b))) w':=by
 obtain ⟨S,hS⟩:=za w.heap.size
 obtain ⟨U,hU⟩:=za ((w.alloc (.cells #[.int .i64 a,.string s] 204)).alloc (.cells #[.string c,.int .i64 t,.int .i64 b] 206))
 have hKU:Keeps (fun _=>False) w U:=by rw [hU];exact ((Keeps.refl _ w).alloc _).alloc _
 have hsU:U.heap.size=S+2:=by rw [hU,hS];simp
 have hu1:U.heap[S+1]? =some (.cells #[.string c,.int .i64 t,.int .i64 b] 206 (0,0)):=by
  have:=heap_alloc_new (w.alloc (.cells #[.int .i64 a,.string s] 204)) (.cells #[.string c,.int .i64 t,.int .i64 b] 206)
  rw [vL] at this
  rw [hU,hS]
  exact this
 have hu0:U.heap[S]? =some (.cells #[.int .i64 a,.string s] 204 (0,0)):=by
  exact kg3
 have hA:CellsAt U bc bm n f:=h.same (hKU.block _ h.lt.1 (fun e=>e)) (hKU.block _ h.lt.2 (fun e=>e))
 obtain ⟨Z,hZ⟩:=za (U.alloc (.cells #[.string ⟨#[]⟩,.int .i64 0,.int .i64 0] 206))
 have hbZ:Below U.heap.size U Z:=by rw [hZ];exact zh U _
 have hAZ:CellsAt Z bc bm n f:=hA.later hbZ
 have c0:U.cell? ⟨bc,0,none⟩=some (.map (some bm)):=hA.c0
 have c1:=hAZ.c0
 have l0:=(hA.later (jN _ U).drew).map.look hk
 have l1:=(hAZ.later (jN _ Z).drew).map.look hk
 have k0:U.cell? ⟨S,0,none⟩=some (.int .i64 a):=by simp [World.cell?,hu0]
 have k1:U.cell? ⟨S,1,none⟩=some (.string s):=by simp [World.cell?,hu0]
 have j0:Z.cell? ⟨S,0,none⟩=some (.int .i64 a):=(hbZ.cell (p:=⟨S,0,none⟩) zO).trans k0
 have j1:Z.cell? ⟨S,1,none⟩=some (.string s):=(hbZ.cell (p:=⟨S,1,none⟩) zO).trans k1
 unfold pI at l0 l1
 cases hf:f (a,s) with
 | none=>
  have hg:gH f (a,s) (c,(t,b))=true:=by unfold gH;rw [hf]
  rw [hg]
  rw [hf] at l0 l1
  simp only [Option.getD_none,uT] at l0 l1
  unfold tn BZ at l0 l1
  dsimp only at l0 l1
  have HA:Aside (CellsAt U bc bm n f/\Keeps (fun _=>False) w U/\U.heap.size=S+2/\U.heap[S]? =some (.cells #[.int .i64 a,.string s] 204 (0,0))/\U.heap[S+1]? =some (.cells #[.string c,.int .i64 t,.int .i64 b] 206 (0,0))):=⟨hA,hKU,hsU,hu0,hu1⟩
  clear hA hKU hu0 hu1 hAZ hbZ h hg
  subst hZ
  go_enter func207,ntmps207
  go_wp2_with fail
  rw [<-hU,<-hS]
  have HS:Aside (S=w.heap.size):=hS
  clear hU hS
  have hu1':=HA.o.2.2.2.2
  have hbV:=(jN U.heap.size U).alloc zg (.cells #[.string ⟨#[]⟩,.int .i64 0,.int .i64 0] 206)
  have m0:(U.alloc (.cells #[.string ⟨#[]⟩,.int .i64 0,.int .i64 0] 206)).cell? ⟨S+1,0,none⟩=some (.string c):=(hbV.cell (p:=⟨S+1,0,none⟩) zO).trans xq
  have m1:(U.alloc (.cells #[.string ⟨#[]⟩,.int .i64 0,.int .i64 0] 206)).cell? ⟨S+1,1,none⟩=some (.int .i64 t):=(hbV.cell (p:=⟨S+1,1,none⟩) zO).trans xq
  have m2:(U.alloc (.cells #[.string ⟨#[]⟩,.int .i64 0,.int .i64 0] 206)).cell? ⟨S+1,2,none⟩=some (.int .i64 b):=(hbV.cell (p:=⟨S+1,2,none⟩) zO).trans xq
  obtain ⟨w2,hrun,hM2,hT2⟩:=((HA.o.1.later hbV).later (jN _ _).drew |>.later (jN _ _).drew).map.store zu hk (c,(t,b))
  have HP:Aside (nV w bc bm n f ((a,s),(c,(t,b))) w2):=by
   have hKV:=aP hT2.grown
   have hne:=HA.o.1.ne
   have hlt:=HA.o.1.lt
   have hs2:=hbV.size
   refine ⟨⟨?_,?_⟩,?_⟩
   ·rw [hKV.block bc (by simp [World.drew];omega) (fun e=>hne ym)]
    exact (hbV.block bc hlt.1).trans HA.o.1.cell
   ·have:pJ f ((a,s),(c,(t,b)))=fun x=>if x=(a,s) then some (c,(t,b)) else f x:=rh (by unfold gH;rw [hf])
    rw [this]
    exact hM2
   exact ((HA.o.2.1.mono (fun _ _ e=>e.elim)).then (((aV hbV).drew).drew) (fun i hi e=>by have:=HA.o.2.1.size;omega)).then hKV (fun i hi e=>ym)
  unfold pI tn at hrun
  dsimp only at hrun
  have HR:=HP
  clear hM2 hT2 hbV hu1'
  go_region
  all_goals
   go_wp2_with fail
   go_region
  all_goals
   go_wp2
   go_ret
   exact ⟨rfl,HP.o⟩
 | some o=>
  obtain ⟨vo,tO,bo⟩:=o
  rw [hf] at l0 l1
  simp only [uX,uU] at l0 l1
  unfold tn at l0 l1
  dsimp only at l0 l1
  obtain ⟨V,hV⟩:=za ((U.alloc (.cells #[.string vo,.int .i64 tO,.int .i64 bo] 206)).drew)
  have hbV:Below U.heap.size U V:=by rw [hV];exact ((jN U.heap.size U).alloc zg _).drew
  have hv1:V.heap[S+1]? =some (.cells #[.string c,.int .i64 t,.int .i64 b] 206 (0,0)):=(hbV.block _ zj).trans hu1
  have hv0:V.heap[S]? =some (.cells #[.int .i64 a,.string s] 204 (0,0)):=(hbV.block _ zj).trans hu0
  have hv2:V.heap[S+2]? =some (.cells #[.string vo,.int .i64 tO,.int .i64 bo] 206 (0,0)):=by
   rw [hV,<-hsU]
   exact heap_alloc_new U _
  have hKV:Keeps (fun _=>False) w V:=(hKU.then (aV hbV) (fun i hi e=>by have:=hKU.size;omega))
  have hAV:CellsAt V bc bm n f:=hA.later hbV
  have hsV:V.heap.size=S+3:=by rw [hV];show (U.alloc _).heap.size=_;rw [vL,hsU]
  have hg:gH f (a,s) (c,(t,b))=dO tO bo t b:=by unfold gH;rw [hf];exact (lO (tO,bo) (t,b)).symm
  rw [hg]
  have HA:Aside (CellsAt V bc bm n f/\Keeps (fun _=>False) w V/\V.heap.size=S+3/\V.heap[S]? =some (.cells #[.int .i64 a,.string s] 204 (0,0))/\V.heap[S+1]? =some (.cells #[.string c,.int .i64 t,.int .i64 b] 206 (0,0))/\V.heap[S+2]? =some (.cells #[.string vo,.int .i64 tO,.int .i64 bo] 206 (0,0))/\gH f (a,s) (c,(t,b))=dO tO bo t b):=⟨hAV,hKV,hsV,hv0,hv1,hv2,hg⟩
  have x1:V.cell? ⟨S+1,1,none⟩=some (.int .i64 t):=by simp [World.cell?,hv1]
  have x2:V.cell? ⟨S+1,2,none⟩=some (.int .i64 b):=by simp [World.cell?,hv1]
  have y1:V.cell? ⟨S+2,1,none⟩=some (.int .i64 tO):=yv
  have y2:V.cell? ⟨S+2,2,none⟩=some (.int .i64 bo):=yv
  clear hA hKU hu0 hu1 hAZ hbZ h hg hbV hv0 hv1 hv2 hKV hAV hsV
  subst hZ
  go_enter func207,ntmps207
  go_wp2_with fail
  rw [<-hU,<-hS]
  have HS:Aside (S=w.heap.size):=hS
  clear hU hS
  go_region
  all_goals
   rw [<-hV]
   clear l0 l1 c0 c1 k0 k1 j0 j1 hV
   go_wp2_with fail
   refine (oA tO bo t b _).mono ?_
   rintro e w3 ⟨rfl,hb3⟩
   have hA3:CellsAt w3 bc bm n f:=HA.o.1.later hb3
   have hK3:Keeps (fun _=>False) w w3:=HA.o.2.1.then (aV hb3) (fun i hi e=>by have:=HA.o.2.1.size;omega)
   cases hl:dO tO bo t b with
   | false=>
    have HP:Aside (nV w bc bm n f ((a,s),(c,(t,b))) w3):=by
     have:pJ f ((a,s),(c,(t,b)))=f:=BN (HA.o.2.2.2.2.2.2.trans hl)
     exact ⟨by rw [this];exact hA3.mono (Nat.le_succ n),hK3.mono (fun _ _ e=>e.elim)⟩
    clear hA3 hK3 hb3
    go_wp2
    go_ret
    exact ⟨by rw [hl];rfl,HP.o⟩
   | true=>
    obtain ⟨w2,hrun,hM2,hT2⟩:=(hA3.later (jN _ _).drew).map.store zu hk (c,(t,b))
    have HP:Aside (nV w bc bm n f ((a,s),(c,(t,b))) w2):=by
     have hKV:=aP hT2.grown
     refine ⟨⟨?_,?_⟩,?_⟩
     ·rw [hKV.block bc hA3.lt.1 (fun e=>hA3.ne ym)]
      exact hA3.cell
     ·have:pJ f ((a,s),(c,(t,b)))=fun x=>if x=(a,s) then some (c,(t,b)) else f x:=rh (HA.o.2.2.2.2.2.2.trans hl)
      rw [this]
      exact hM2
     exact ((hK3.mono (fun _ _ e=>e.elim)).drew).then hKV (fun i hi e=>ym)
    have c3:=hA3.c0
    have hs3:=HA.o.2.2.1
    have k0:w3.cell? ⟨S,0,none⟩=some (.int .i64 a):=(hb3.cell (p:=⟨S,0,none⟩) zO).trans (by simp [World.cell?,HA.o.2.2.2.1])
    have k1:w3.cell? ⟨S,1,none⟩=some (.string s):=(hb3.cell (p:=⟨S,1,none⟩) zO).trans (by simp [World.cell?,HA.o.2.2.2.1])
    have m0:w3.cell? ⟨S+1,0,none⟩=some (.string c):=(hb3.cell (p:=⟨S+1,0,none⟩) zO).trans qb
    have m1:w3.cell? ⟨S+1,1,none⟩=some (.int .i64 t):=(hb3.cell (p:=⟨S+1,1,none⟩) zO).trans qb
    have m2:w3.cell? ⟨S+1,2,none⟩=some (.int .i64 b):=(hb3.cell (p:=⟨S+1,2,none⟩) zO).trans qb
    unfold pI tn at hrun
    dsimp only at hrun
    clear hA3 hK3 hb3 hM2 hT2 hs3
    go_wp2_with fail
    go_region
    all_goals
     go_wp2
     go_ret
     exact ⟨by rw [hl];rfl,HP.o⟩
end
section
open Go.RowKit Go.Lib Go.Sort
abbrev OpX:=Int×Int×Int×Nat×Int×Int×ByteArray×ByteArray
def cN (x:OpX):List Value:=[.int .i64 x.1,.int .i64 x.2.1,.int .i64 x.2.2.1,.int .u8 (x.2.2.2.1:Int),.int .i64 x.2.2.2.2.1,.int .i64 x.2.2.2.2.2.1,.string x.2.2.2.2.2.2.1,.string x.2.2.2.2.2.2.2]
theorem cB (x:OpX):∀v∈cN x,v.oneCell'=true:=by
 intro v hv
 simp [cN] at hv
 exact kg8
theorem bA (hb:Below w.heap.size w w') (h:w.cell? ⟨b,o,none⟩=some v):w'.cell? ⟨b,o,none⟩=some v:=by
 exact kf6
def cellsOf (xs:List OpX):List Value:=xs.flatMap cN
theorem fK (x:OpX) (xs:List OpX):cellsOf (x::xs)=cN x++cellsOf xs:=rfl
theorem bO (x:OpX):(cN x).length=8:=rfl
theorem bR:∀xs:List OpX,(cellsOf xs).length=xs.length*8
 | []=>rfl
 | x::xs=>by rw [fK,jP,bR xs,bO,jY];omega
theorem sm (xs:List OpX):∀u∈cellsOf xs,u.oneCell'=true:=by
 intro u hu
 obtain ⟨x,_,hx⟩:=List.mem_flatMap.1 hu
 exact cB x u hx
theorem bW:∀(xs:List OpX) (i c:Nat),i<xs.length->c<8->(cellsOf xs)[i*8+c]? =some ((cN xs[i]!)[c]!)
 | [],i,_,hi,_=>absurd hi zq
 | x::xs,0,c,_,hc=>by
  have e:0*8+c=c:=zj
  rw [fK,e,uC xt,jK xt]
  rw [getElem!_pos _ c xt]
  rfl
 | x::xs,i+1,c,hi,hc=>by
  rw [fK,List.getElem?_append_right (by rw [bO];omega),bO,show (i+1)*8+c - 8=i*8+c by omega,bW xs i c qQ hc]
  simp
theorem cl (a b:List OpX):cellsOf (a++b)=cellsOf a++cellsOf b:=List.flatMap_append
def OpsAt (w:World) (v:Value) (xs:List OpX):Prop:=
 (v= .slice none 0 0/\xs= [])\/∃blk off cap,v= .slice (some ⟨blk,off,none⟩) xs.length cap/\∀j u,(cellsOf xs)[j]? =some u->w.cell? ⟨blk,off+j,none⟩=some u
theorem OpsAt.later {xs:List OpX} (h:OpsAt w v xs) (hb:Below w.heap.size w w'):OpsAt w' v xs:=by
 rcases h with h | ⟨g,o,c,h1,h2⟩
 ·exact .inl h
 exact .inr ⟨g,o,c,h1,fun j u hj=>bA hb (h2 j u hj)⟩
theorem fV:(prog.info? 61).map (fun i=>(i.zero,i.size,i.bytes))=some (some (.agg #[.int .i64 0,.int .i64 0,.int .i64 0,.int .u8 0,.int .i64 0,.int .i64 0,.string ⟨#[]⟩,.string ⟨#[]⟩]),8,80):=zk
theorem IV {off:Nat} {xs:List OpX} (hc:∀j u,(cellsOf xs)[j]? =some u->w.cell? ⟨b,off+j,none⟩=some u) (i c:Nat) (hi:i<xs.length) (h8:c<8):w.cell? ⟨b,off+i*8+c,none⟩=some ((cN xs[i]!)[c]!):=by
 rw [uj];exact hc _ _ (bW xs i c hi h8)
theorem iw {base:Nat} {xs:List OpX} (h:w.ownsRow base 61 8 v xs.length (cellsOf xs)):OpsAt w v xs:=by
 rcases h.2 with ⟨h1,h2⟩ | ⟨g,cap,cur,rfl,_⟩
 ·exact .inl ⟨h1,ve.1 h2⟩
 refine .inr ⟨g,0,cap,rfl,fun j u hj=> ?_⟩
 have hl:j<(cellsOf xs).length:=(jI.1 hj).1
 rw [bR] at hl
 rw [vh,h.cellAt j hl,hj]
structure NJ (w:World) (g p:Nat) (t b m:Int) (kd:Nat) (node other:Int) (name value:ByteArray):Prop where
 c0:w.cell? ⟨g,p,none⟩=some (.int .i64 t)
 c1:w.cell? ⟨g,p+1,none⟩=some (.int .i64 b)
 c2:w.cell? ⟨g,p+2,none⟩=some (.int .i64 m)
 c3:w.cell? ⟨g,p+3,none⟩=some (.int .u8 (kd:Int))
 c4:w.cell? ⟨g,p+4,none⟩=some (.int .i64 node)
 c5:w.cell? ⟨g,p+5,none⟩=some (.int .i64 other)
 c6:w.cell? ⟨g,p+6,none⟩=some (.string name)
 c7:w.cell? ⟨g,p+7,none⟩=some (.string value)
theorem Hz {g:Nat} {xs:List OpX} (hc:∀j u,(cellsOf xs)[j]? =some u->w.cell? ⟨g,o+j,none⟩=some u) (i:Nat) (hi:i<xs.length) {t b m:Int} {kd:Nat} {node other:Int} {name value:ByteArray} (hx:xs[i]! =(t,b,m,kd,node,other,name,value)):NJ w g (o+i*8) t b m kd node other name value:=by
 have h:=fun c h8=>IV hc i c hi h8
 rw [hx] at h
 exact ⟨h 0 zj,h 1 zj,h 2 zj,h 3 zj,h 4 zj,h 5 zj,h 6 zj,h 7 zj⟩
end
section
open Go.RowKit Go.Lib Go.Sort
def OpsIn (w:World) (ao:Option Addr) (xs:List OpX):Prop:=xs= []\/∃blk off,ao=some ⟨blk,off,none⟩/\∀j u,(cellsOf xs)[j]? =some u->w.cell? ⟨blk,off+j,none⟩=some u
theorem OpsIn.later {ao:Option Addr} {xs:List OpX} (h:OpsIn w ao xs) (hb:Below w.heap.size w w'):OpsIn w' ao xs:=by
 rcases h with h | ⟨g,o,h1,h2⟩
 ·exact .inl h
 exact .inr ⟨g,o,h1,fun j u hj=>bA hb (h2 j u hj)⟩
end
section
def bY (x:OpX):Nat:=opE x.1 x.2.1 x.2.2.1 x.2.2.2.1 x.2.2.2.2.1 x.2.2.2.2.2.1 x.2.2.2.2.2.2.1.data.toList x.2.2.2.2.2.2.2.data.toList
def NZ (x:OpX):dw:=(x.2.2.2.2.1,x.2.2.2.2.2.2.1)
def wS (x:OpX):bQ:=(x.2.2.2.2.2.2.2,(x.1,x.2.1))
def BE (x:OpX):Option (dw×bQ):=if bY x=0/\x.2.2.2.1=115 then some (NZ x,wS x) else none
def fD (xs:List OpX):List (dw×bQ):=xs.filterMap BE
theorem Cn (xs ys:List OpX):fD (xs++ys)=fD xs++fD ys:=List.filterMap_append
def fA (xs:List OpX):eD:=nZ (fD xs) noC
def rm (f:eD) (x:OpX):eD:=if bY x=0/\x.2.2.2.1=115 then pJ f (NZ x,wS x) else f
theorem nr (xs:List OpX) (x:OpX):fA (xs++ [x])=rm (fA xs) x:=by
 unfold fA rm
 rw [Cn]
 by_cases h:bY x=0/\x.2.2.2.1=115
 ·have e:fD [x]= [(NZ x,wS x)]:=by simp [fD,BE,h]
  rw [e,nI,if_pos h]
 have e:fD [x]= []:=by simp [fD,BE,h]
 rw [e,vZ,if_neg h]
def OneO (xs:List OpX):Prop:=∀x∈xs,∀y∈xs,x.1=y.1->x.2.1=y.2.1->x=y
theorem ij {x:OpX} {m:dw×bQ} (h:BE x=some m):m=(NZ x,wS x):=by
 unfold BE at h
 split at h
 ·exact (Option.some.inj h).symm
 cases h
theorem OneO.marks {xs:List OpX} (h:OneO xs):OI (fD xs):=by
 intro k c d hc hd e
 obtain ⟨x,hx,ex⟩:=uI.1 hc
 obtain ⟨y,hy,ey⟩:=uI.1 hd
 have e1:=ij ex
 have e2:=ij ey
 have c1:c=wS x:=(Prod.mk.inj e1).2
 have d1:d=wS y:=(Prod.mk.inj e2).2
 subst c1
 subst d1
 have e3:(x.1,x.2.1)=(y.1,y.2.1):=e
 rw [h x hx y hy (Prod.mk.inj e3).1 (Prod.mk.inj e3).2]
end
section
abbrev byO (x:OpX):Int:=x.2.1
abbrev ah (x:OpX):Int:=x.2.2.1
abbrev kdO (x:OpX):Nat:=x.2.2.2.1
abbrev aG (x:OpX):Int:=x.2.2.2.2.1
abbrev aF (x:OpX):Int:=x.2.2.2.2.2.1
def idO (x:OpX):Int:=x.1*4+x.2.1
def stO (x:OpX):Int×Int:=(x.1,x.2.1)
def KnownN (S:List OpX) (nd:Int):Prop:=∃x∈S,kdO x=109/\aG x=nd/\idO x=nd
def LetterN (S:List OpX) (nd id:Int):Prop:=∃x∈S,kdO x=105/\aG x=nd/\idO x=id
def RefOk (S:List OpX) (x:OpX):Prop:=((kdO x=109/\idO x=aG x)\/KnownN S (aG x))/\(kdO x=109->aF x=0\/aF x=1\/KnownN S (aF x))/\((kdO x=105/\0<aF x)\/kdO x=100->LetterN S (aG x) (aF x))
theorem KnownN.mono {S T:List OpX} (h:∀x,x∈S->x∈T) (k:KnownN S nd):KnownN T nd:=by
 obtain ⟨x,hx,k⟩:=k
 exact ⟨x,h x hx,k⟩
theorem LetterN.mono {S T:List OpX} (h:∀x,x∈S->x∈T) {id:Int} (k:LetterN S nd id):LetterN T nd id:=by
 obtain ⟨x,hx,k⟩:=k
 exact ⟨x,h x hx,k⟩
theorem RefOk.mono {S T:List OpX} (h:∀x,x∈S->x∈T) {x:OpX} (k:RefOk S x):RefOk T x:=
 ⟨k.1.imp (fun e=>e) (KnownN.mono h),fun e=>(k.2.1 e).imp (fun e=>e) (fun e=>e.imp (fun e=>e) (KnownN.mono h)),fun e=>(k.2.2 e).mono h⟩
structure WellK (S:List OpX):Prop where
 ok:∀x∈S,bY x=0
 one:∀x∈S,∀y∈S,byO x=byO y->ah x=ah y->x=y
 gap:∀x∈S,ah x=1\/∃y∈S,byO y=byO x/\ah y+1=ah x
 rise:∀x∈S,∀y∈S,byO x=byO y->ah x+1=ah y->CLt (stO x) (stO y)
 refs:∀x∈S,RefOk S x
theorem mv:WellK []:=⟨fun x h=>yY,fun x h=>yY,fun x h=>yY,fun x h=>yY,fun x h=>yY⟩
theorem WellK.congr {S T:List OpX} (h:WellK S) (e:∀x,x∈S↔x∈T):WellK T:=
 ⟨fun x hx=>h.ok x ((e x).2 hx),fun x hx y hy=>h.one x ((e x).2 hx) y ((e y).2 hy),fun x hx=>(h.gap x ((e x).2 hx)).imp (fun q=>q) (fun ⟨y,hy,q⟩=>⟨y,(e y).1 hy,q⟩),fun x hx y hy=>h.rise x ((e x).2 hx) y ((e y).2 hy),fun x hx=>(h.refs x ((e x).2 hx)).mono (fun y hy=>(e y).1 hy)⟩
def Compat (S T:List OpX):Prop:=∀x∈S,∀y∈T,byO x=byO y->ah x=ah y->x=y
theorem Compat.symm {S T:List OpX} (h:Compat S T):Compat T S:=fun x hx y hy e1 e2=>(h y hy x hx e1.symm e2.symm).symm
theorem oG {x:OpX} (h:bY x=0):1<=ah x:=(ax h).2.2.2.2.1
theorem WellK.union {S T:List OpX} (hS:WellK S) (hT:WellK T) (hc:Compat S T):WellK (S++T):=by
 have across:∀ {A B:List OpX},WellK A->WellK B->Compat A B->∀x∈A,∀y∈B,byO x=byO y->ah x+1=ah y->CLt (stO x) (stO y):=fun {A B} hA hB hAB x hx y hy e1 e2=>by
  rcases hB.gap y hy with q | ⟨z,hz,z1,z2⟩
  ·have:=oG (hA.ok x hx)
   omega
  obtain rfl:=hAB x hx z hz zj zj
  exact hB.rise x hz y hy e1 e2
 refine ⟨fun x hx=> ?_,fun x hx y hy e1 e2=> ?_,fun x hx=> ?_,fun x hx y hy e1 e2=> ?_,fun x hx=> ?_⟩
 ·rcases jO.1 hx with h | h
  ·exact hS.ok x h
  exact hT.ok x h
 ·rcases jO.1 hx with h | h<;>rcases jO.1 hy with k | k
  ·exact hS.one x h y k e1 e2
  ·exact hc x h y k e1 e2
  ·exact hc.symm x h y k e1 e2
  exact hT.one x h y k e1 e2
 ·rcases jO.1 hx with h | h
  ·exact (hS.gap x h).imp (fun q=>q) (fun ⟨y,hy,q⟩=>⟨y,vg _ hy,q⟩)
  exact (hT.gap x h).imp (fun q=>q) (fun ⟨y,hy,q⟩=>⟨y,vB _ hy,q⟩)
 ·rcases jO.1 hx with h | h<;>rcases jO.1 hy with k | k
  ·exact hS.rise x h y k e1 e2
  ·exact across hS hT hc x h y k e1 e2
  ·exact across hT hS hc.symm x h y k e1 e2
  exact hT.rise x h y k e1 e2
 rcases jO.1 hx with h | h
 ·exact (hS.refs x h).mono (fun y hy=>vg _ hy)
 exact (hT.refs x h).mono (fun y hy=>vB _ hy)
theorem WellK.less {S:List OpX} (h:WellK S) {x:OpX} (hx:x∈S):∀(d:Nat) {y:OpX},y∈S->byO x=byO y->ah x+(d+1)=ah y->CLt (stO x) (stO y)
 | 0,y,hy,e1,e2=>h.rise x hx y hy e1 zj
 | d+1,y,hy,e1,e2=>by
  rcases h.gap y hy with q | ⟨z,hz,z1,z2⟩
  ·have:=oG (h.ok x hx)
   omega
  exact fC (h.less hx d hz zj zj) (h.rise z hz y hy z1 z2)
theorem WellK.stamp {S:List OpX} (h:WellK S) {x y:OpX} (hx:x∈S) (hy:y∈S) (e:stO x=stO y):x=y:=by
 have e1:byO x=byO y:=(Prod.mk.inj e).2
 rcases Int.lt_trichotomy (ah x) (ah y) with q | q | q
 ·have:=h.less hx (ah y - ah x - 1).toNat hy e1 zj
  exact kj3
 ·exact h.one x hx y hy e1 q
 have:=h.less hy (ah x - ah y - 1).toNat hx e1.symm zj
 exact kj3
theorem WellK.add {S:List OpX} (h:WellK S) {x:OpX} (hok:bY x=0) (hn:ah x=1\/∃y∈S,byO y=byO x/\ah y+1=ah x) (hnew:∀y∈S,byO y=byO x->ah y<ah x) (hst:∀y∈S,CLt (stO y) (stO x)) (hr:RefOk (x::S) x):WellK (x::S):=by
 have sub:∀y,y∈S->y∈x::S:=fun y hy=>vf _ hy
 refine ⟨fun y hy=> ?_,fun y hy z hz e1 e2=> ?_,fun y hy=> ?_,fun y hy z hz e1 e2=> ?_,fun y hy=> ?_⟩
 ·rcases jQ.1 hy with rfl | hy
  ·exact hok
  exact h.ok y hy
 ·rcases jQ.1 hy with e | ky<;>rcases jQ.1 hz with e' | kz
  ·rw [e,e']
  ·rw [e] at e1 e2
   have:=hnew z kz e1.symm
   omega
  ·rw [e'] at e1 e2
   have:=hnew y ky e1
   omega
  exact h.one y ky z kz e1 e2
 ·rcases jQ.1 hy with e | hy
  ·subst e
   exact hn.imp (fun q=>q) (fun ⟨z,hz,q⟩=>⟨z,sub z hz,q⟩)
  exact (h.gap y hy).imp (fun q=>q) (fun ⟨z,hz,q⟩=>⟨z,sub z hz,q⟩)
 ·rcases jQ.1 hy with e | ky<;>rcases jQ.1 hz with e' | kz
  ·rw [e,e'] at e2
   omega
  ·rw [e] at e1 e2
   have:=hnew z kz e1.symm
   omega
  ·rw [e']
   exact hst y ky
  exact h.rise y ky z kz e1 e2
 rcases jQ.1 hy with e | hy
 ·rw [e];exact hr
 exact (h.refs y hy).mono sub
theorem kF {L M:List OpX} (hL:L.Pairwise (fun a b=>CLt (stO a) (stO b))) (hM:M.Pairwise (fun a b=>CLt (stO a) (stO b))) (e:∀x,x∈L↔x∈M):L=M:=
 ew (R:=fun a b=>CLt (stO a) (stO b)) (fun _=>dJ) (fun _ _ _=>fC) hL hM e
structure PN (n:Nat) (K:Nat->List OpX):Prop where
 well:∀r,r<n->WellK (K r)
 compat:∀r,r<n->∀s,s<n->Compat (K r) (K s)
 own:∀r,r<n->∀s,s<n->∀x∈K r,byO x=(s:Int)->x∈K s
end
section
open Go Go.Maps
abbrev mn:=Int×Int
abbrev BH:=mn->Option OpX
def noN:BH:=fun _=>none
def Cf (k:mn):Value:=.agg #[.int .i64 k.1,.int .i64 k.2]
theorem IS {p q:mn} (h:Cf p=Cf q):p=q:=by
 obtain ⟨a,s⟩:=p
 obtain ⟨a',s'⟩:=q
 simp [Cf] at h
 obtain ⟨rfl,rfl⟩:=h
 rfl
def ar (x:OpX):Value:=.agg #[.int .i64 x.1,.int .i64 x.2.1,.int .i64 x.2.2.1,.int .u8 (x.2.2.2.1:Int),.int .i64 x.2.2.2.2.1,.int .i64 x.2.2.2.2.2.1,.string x.2.2.2.2.2.2.1,.string x.2.2.2.2.2.2.2]
def aT:OpX:=(0,0,0,0,0,0,⟨#[]⟩,⟨#[]⟩)
def Cg (x:OpX):DataW Unit:=.agg [.lit (.int .i64 x.1),.lit (.int .i64 x.2.1),.lit (.int .i64 x.2.2.1),.lit (.int .u8 (x.2.2.2.1:Int)),.lit (.int .i64 x.2.2.2.2.1),.lit (.int .i64 x.2.2.2.2.2.1),.lit (.string x.2.2.2.2.2.2.1.data.toList),.lit (.string x.2.2.2.2.2.2.2.data.toList)]
theorem Ho {p q:OpX} (h:Cg p=Cg q):p=q:=by
 obtain ⟨t,b,n,k,nd,o,⟨⟨s⟩⟩,⟨⟨v⟩⟩⟩:=p
 obtain ⟨t',b',n',k',nd',o',⟨⟨s'⟩⟩,⟨⟨v'⟩⟩⟩:=q
 simp [Cg] at h
 obtain ⟨rfl,rfl,rfl,h4,rfl,rfl,rfl,rfl⟩:=h
 obtain rfl:k=k':=zj
 rfl
def opL (l:List Value):Option (DataW Unit×List MemPlace):=match l with
 | [.int .i64 t,.int .i64 b,.int .i64 n,.int .u8 k,.int .i64 nd,.int .i64 o,.string s,.string v]=>if 0<=k then some (Cg (t,b,n,k.toNat,nd,o,s,v),[]) else none
 | _=>none
def opR (v:Value):Option (DataW Unit×List MemPlace):=match v with
 | .agg cs=>opL cs.toList
 | _=>none
theorem Jq (x:OpX):opR (ar x)=some (Cg x,[]):=by
 simp [opR,ar,opL]
theorem Lt (h:opL l=some z):∃x:OpX,l=cN x/\z=(Cg x,[]):=by
 unfold opL at h
 split at h
 ·rename_i t b n k nd o s v
  split at h
  ·rename_i hk
   cases h
   refine ⟨(t,b,n,k.toNat,nd,o,s,v),?_,rfl⟩
   simp [cN,Int.toNat_of_nonneg hk]
  cases h
 cases h
theorem Kc (h:opR v=some z):∃x,v=ar x/\z=(Cg x,[]):=by
 unfold opR at h
 split at h
 ·rename_i cs
  obtain ⟨x,e,rfl⟩:=Lt h
  refine ⟨x,?_,rfl⟩
  unfold ar
  unfold cN at e
  rw [<-e]
 cases h
def WfN (k:mn):Prop:=(Lit.int .i64 k.1).wf=true/\(Lit.int .i64 k.2).wf=true
def Ah (k:mn):Lit:=.string (keyBytes [.int .i64 k.1,.int .i64 k.2])
section
variable {P:Program} {K I:TypeId} {f g:Field}
theorem Hx (hu:P.underlying K=some (.struct #[f,g])) (f1:f.type=I) (f2:f.offset=0) (f3:(f.name != "_")=true) (g1:g.type=I) (g2:g.offset=1) (g3:(g.name != "_")=true) (hI:P.underlying I=some (.int .i64)) (cK:P.cellsOf K=2) (cI:P.cellsOf I=1) (hT:P.keyType K=true) (e:Nat) (he:P.types.size=e+1) {k:mn} (h:WfN k):keyOf P K (Cf k)=some (Ah k):=by
 obtain ⟨h1,h2⟩:=h
 have hf:(Cf k).formed P K=true:=by simp [Value.formed,Cf,hu,cK]
 unfold keyOf
 rw [hu]
 dsimp only
 rw [hT,hf]
 simp only [Bool.and_self,if_true]
 rw [eZ hu,he]
 simp [Cf,Value.cells,cK,cI,f1,f2,f3,g1,g2,g3,gA hI,h1,h2,Ah]
end
theorem Lx:222<prog.types.size:=of_decide_eq_true zk
theorem JJ:(match prog.underlying 222 with | some (.array _ _) | some (.struct _)=>true | _=>false)=true:=zk
theorem lawN:Keyed prog 222:=Keyed.of_law (deep_law_laid Jc (m:=2) zj Lx zk JJ)
theorem Me:prog.keyType 222=true:=zk
theorem DT:prog.cellsOf 222=2:=zk
theorem ol {k:mn} (h:WfN k):keyOf prog 222 (Cf k)=some (Ah k):=by
 obtain ⟨e,he⟩:=su
 exact Hx underlying222 rfl rfl zo rfl rfl zo underlying3 DT lA Me e he h
theorem Ey {a b:mn} (ha:WfN a) (hb:WfN b) (h:a≠b):Ah a≠Ah b:=fun e=>h (IS (lawN.inj (ol ha) (by rw [e];exact ol hb)))
theorem Ll {k:mn} :WideAt.IsKeyLit (Ah k):=trivial
theorem NE {k:mn} (h0: -2^63<=k.1) (h1:k.1<2^63) (h2: -2^63<=k.2) (h3:k.2<2^63):WfN k:=⟨Dz h0 h1,Dz h2 h3⟩
def ReadsN (D:DataW Unit) (f:BH):Prop:=∀k,WfN k->match f k with
 | none=>has D (Ah k)=false
 | some c=>∀z,D.atKey (Ah k) z=Cg c
theorem ReadsN.gone {f:BH} (h:ReadsN D f) {k:mn} (hk:WfN k) (hf:f k=none):has D (Ah k)=false:=by
 exact kl0
theorem ReadsN.held {f:BH} (h:ReadsN D f) {k:mn} (hk:WfN k) {c:OpX} (hf:f k=some c) (z:DataW Unit):D.atKey (Ah k) z=Cg c:=by
 exact kk0
theorem ReadsN.has {D:DataW Unit} {f:BH} (h:ReadsN D f) {k:mn} (hk:WfN k):Maps.has D (Ah k)=(f k).isSome:=by
 cases hf:f k with
 | none=>rw [h.gone hk hf];rfl
 | some p=>rw [has_true_of_atKey (h.held hk hf)];rfl
theorem ReadsN.at {f:BH} (h:ReadsN D f) {k:mn} (hk:WfN k):D.atKey (Ah k) (Cg aT)=Cg ((f k).getD aT):=by
 cases hf:f k with
 | none=>rw [atKey_of_not_has (h.gone hk hf)];rfl
 | some p=>rw [h.held hk hf];rfl
theorem Ak {f:BH} (h:ReadsN D f) (hD:IsMap D) {k:mn} (hk:WfN k) (c:OpX):ReadsN (D.put (Ah k) (Cg c)) (fun x=>if x=k then some c else f x):=by
 intro x hx
 dsimp only
 by_cases e:x=k
 ·subst e
  rw [if_pos rfl]
  exact fun z=>atKey_put_same hD Ll _ _
 rw [if_neg e]
 cases hf:f x with
 | none=>rw [has_put_other (Ey hx hk e)];exact h.gone hx hf
 | some q=>intro z;rw [atKey_put_other (Ey hx hk e)];exact h.held hx hf z
def NMapAt (w:World) (b n:Nat) (f:BH):Prop:=∃D,w.ownsMap prog 222 opR b n D/\ReadsN D f
theorem NMapAt.lt {w:World} {b n:Nat} {f:BH} (h:NMapAt w b n f):b<w.heap.size:=by
 obtain ⟨D,h,_⟩:=h;exact h.lt
theorem NMapAt.same {f:BH} (h:NMapAt w b n f) (e:w'.heap[b]? =w.heap[b]?):NMapAt w' b n f:=by
 exact km2
theorem tz (w:World):NMapAt (w.alloc (.map #[] 0)) w.heap.size 0 noN:=
 ⟨_,World.ownsMap_made w prog 222 opR,fun _ _=>rfl⟩
theorem NO (w:World):(zeroValue 61).run prog w= .ok (ar aT) w:=zeroValue61 w
theorem NMapAt.look {f:BH} (h:NMapAt w b n f) {k:mn} (hk:WfN k):
  (Instr.lookup 219 (.map (some b)) (Cf k) true).run prog w= .ok (.tuple #[ar ((f k).getD aT),.bool (f k).isSome]) w:=by
 obtain ⟨D,h,r⟩:=h
 obtain ⟨v,ps,hrun,hv⟩:=h.look_ok lawN underlying219 (NO w) (Jq aT) (ol hk)
 obtain ⟨p,rfl,hp⟩:=Kc hv
 rw [r.at hk,Prod.mk.injEq] at hp
 rw [hrun,r.has hk,Ho hp.1]
theorem NMapAt.store {w:World} {b n:Nat} {f:BH} (h:NMapAt w b n f) (hn:n<maxLen) {k:mn} (hk:WfN k) (c:OpX):
  ∃w',(Instr.mapUpdate 219 (.map (some b)) (Cf k) (ar c)).run prog w= .ok () w'/\NMapAt w' b (n+1) (fun x=>if x=k then some c else f x)/\w.mapTurned w' b:=by
 obtain ⟨D,h,r⟩:=h
 obtain ⟨w',hrun,h',ht⟩:=h.store lawN underlying219 hn (ol hk) (Jq c)
 exact ⟨w',hrun,⟨_,h',Ak r h.isMap hk c⟩,ht⟩
end
section
open Go Go.RowKit Go.Lib Go.Sort
end
section
open Go.RowKit
theorem Ev (n:Int) (w:World) (h1:4<=n) (h2:n<4294967300):
  Calls prog 203 #[.int .i64 n] w fun e w'=>e= .returned (.tuple #[.agg #[.int .i64 (n / 4),.int .i64 (n % 4)],.nilIface])/\Below w.heap.size w w':=by
 go_enter func203,ntmps203
 go_wp2_with (go_at_call 249;refine (kq _ _ _ zj zj zj zj).mono ?_;rintro e w1 ⟨rfl,hb⟩;obtain ⟨hc,hf⟩:=Gr hb)
 have c0:w1.cell? ⟨w.heap.size,0,none⟩=some (.int .i64 0):=jq
 have c1:w1.cell? ⟨w.heap.size,1,none⟩=some (.int .i64 0):=jq
 refine bodyPost_ret (v:=.tuple #[.agg #[.int .i64 (n / 4),.int .i64 (n % 4)],.nilIface]) jG rfl ⟨rfl,?_⟩
 exact ((((zh _ _).alloc zq _).trans (hb.mono zl)).setCell zq _).setCell zq _
end
section
open Go.RowKit
theorem wQ (n:Int) (h:n<0):n.tdiv 4<=0:=by
 have e:n.tdiv 4= -((-n).tdiv 4):=by rw [Int.neg_tdiv];omega
 have e2:(-n).tdiv 4=(-n) / 4:=Int.tdiv_eq_ediv_of_nonneg zj
 omega
theorem FT (n:Int) (w:World) (u:TypeId) (x:Value) (hg:w.cell? ⟨0,0,none⟩=some (.iface u x)) (hz:0<w.heap.size) (h:n<0) (h2: -9223372036854775808<=n):
  Calls prog 203 #[.int .i64 n] w fun e w'=>e= .returned (.tuple #[.agg #[.int .i64 0,.int .i64 0],.iface u x])/\Below w.heap.size w w':=by
 have hq:=wQ n h
 go_enter func203,ntmps203
 go_wp2_with fail
 refine (pW _ _ _ (.iface u x) (by rw [uq _ _ _ yG,uq _ _ _ hz];exact hg) yG zj).mono ?_
 exact kb6
theorem El (n:Int) (w:World) (u:TypeId) (x:Value) (hg:w.cell? ⟨0,0,none⟩=some (.iface u x)) (hz:0<w.heap.size) (h:0<=n) (h2:n<4\/4294967300<=n) (h3:n<=9223372036854775807):
  Calls prog 203 #[.int .i64 n] w fun e w'=>e= .returned (.tuple #[.agg #[.int .i64 0,.int .i64 0],.iface u x])/\Below w.heap.size w w':=by
 have hq:¬(1<=n / 4/\n / 4<=1073741824/\0<=n % 4/\n % 4<4):=zj
 have H:Hid (¬(1<=n / 4/\n / 4<=1073741824/\0<=n % 4/\n % 4<4)):=hq
 clear hq h2
 go_enter func203,ntmps203
 go_wp2_with fail
 refine (pW _ _ _ (.iface u x) (by rw [uq _ _ _ yG,uq _ _ _ hz];exact hg) yG H.o).mono ?_
 exact kb6
theorem Np (n:Int) (w:World) (u:TypeId) (x:Value) (hg:w.cell? ⟨0,0,none⟩=some (.iface u x)) (hz:0<w.heap.size) (h:n<4\/4294967300<=n) (h2: -9223372036854775808<=n) (h3:n<=9223372036854775807):
  Calls prog 203 #[.int .i64 n] w fun e w'=>e= .returned (.tuple #[.agg #[.int .i64 0,.int .i64 0],.iface u x])/\Below w.heap.size w w':=by
 by_cases hn:n<0
 ·exact FT n w u x hg hz hn h2
 exact El n w u x hg hz zj h h3
end
section
open Go.RowKit
end
section
open Go.RowKit
end
section
open Go.ChangeShapes Go.WideShapes Go.ChangeAt Go.RowKit Go.Joins
theorem gPow:prog.globalNamed "internal/strconv.uint64pow10" =some 13:=zk
theorem tPow:(prog.globals[13]?).map (·.type)=some 368:=zk
theorem Hn:prog.cellsOf 368=20:=zk
theorem JZ:prog.cellsOf 325=1:=zk
theorem Mg {W:World} (h:Lib.VarReads prog W "internal/strconv.uint64pow10" (Lib.tabData .u64 Lib.pow10Tab)):Lib.TabIs prog W "internal/strconv.uint64pow10" .u64 Lib.pow10Tab:=by
 obtain ⟨g,t,cs,fuel,p,hg,ht,hvar,hd⟩:=h
 obtain rfl:=Option.some.inj (gPow.symm.trans hg)
 obtain rfl:=Option.some.inj (tPow.symm.trans ht)
 unfold Lib.TabIs
 rw [hvar,<-Lib.cells_of_tab underlying368 underlying325 JZ Hn hd]
