import Derived.Test.YtjclejjkganhfaaGreatDoorHeldTk
import Derived.Test.YtjclejjkganhfaaGreatDoorSR02
import Derived.Test.YtjclejjkganhfaaGreatDoorSR03
import Derived.Test.YtjclejjkganhfaaGreatDoorSR04
import Derived.DeepKeys4
import Derived.Shelf.SlSortCmp.WholeK
import Derived.Shelf.SlSortCmp.NoneTotal
import Derived.Laws.Cover1
import Derived.Sort.Grow
set_option linter.unusedSimpArgs false
set_option linter.unusedVariables false
set_option maxRecDepth 100000
set_option maxHeartbeats 64000000
namespace Go.Proofs.YtjclejjkganhfaaGreatDoor
open Go.Proofs.Tryz
section
open Maps
def FP(k:Cb):Value:=.agg #[qI k.1,.string k.2]
theorem JE{p q}(h:FP p=FP q):p=q:=by
 grind [FP]
def Hb(c:pl):Value:=.agg #[.string c.1,qI c.2.1,qI c.2.2]
theorem Re{p q}(h:Hb p=Hb q):p=q:=by
 grind [Hb]
def Kh:pl:=(⟨#[]⟩,0,0)
def KM(c:pl):DataW Unit:=.agg [.lit (.string c.1.data.toList),.lit (.int .i64 c.2.1),.lit (.int .i64 c.2.2)]
theorem KH{p q}(h:KM p=KM q):p=q:=by
 obtain ⟨⟨⟨s⟩⟩,a,b⟩:=p
 simp_all [KM]
def zcM(l:List Value):Option (DataW Unit×List MemPlace):=match l with
 | [.string s,.int .i64 a,.int .i64 b]=>some (KM (s,a,b),[])
 | _=>none
def Mi(v:Value):Option (DataW Unit×List MemPlace):=match v with
 | .agg cs=>zcM cs.toList
 | _=>none
theorem Og(c):Mi (Hb c)=some (KM c,[]):=rfl
theorem Uq{l}{z}(h:zcM l=some z):∃c:pl,l= [.string c.1,qI c.2.1,qI c.2.2]/\z=(KM c,[]):=by
 unfold zcM at h
 grind
theorem EO{v}{z}(h:Mi v=some z):∃c,v=Hb c/\z=(KM c,[]):=by
 unfold Mi at h;split at h
 ·rename_i cs;obtain ⟨c,e,rfl⟩:=Uq h;refine ⟨c,?_,rfl⟩;unfold Hb;rw [<-e]
 cases h
theorem FH:∀(x y:qU),Op.bytesLess x y=decide (x<y)
 | [],[]=>uz
 | _::_,[]=>uz
 | [],_::_=>uz
 | a::x,b::y=>by
  rw [Op.bytesLess,FH x y]
  grind [List.cons_lt_cons_iff]
theorem Dm(a b:qY):Op.bytesLess a.toList b.toList=decide (a.data.toList<b.data.toList):=by
 grind [FH,Zu]
def WfK(k:Cb):Prop:=(Lit.int .i64 k.1).wf=true/\k.2.size<=maxLen
def rh(k:Cb):Lit:=.string (keyBytes [.int .i64 k.1,.string k.2.data.toList])
section
variable {P:Program} {K I S:TypeId} {f g:Field}
theorem pu{fs}(hu:P.underlying K=some (.struct fs))(d)(cs):P.keyLits (d+1) K cs=if cs.length=P.cellsOf K/\fs.all (·.name != "_")=true then (fs.toList.mapM fun f=>P.keyLits d f.type ((cs.drop f.offset).take (P.cellsOf f.type))).map List.flatten else none:=by
 conv=>lhs;unfold Program.keyLits
 simp only [hu]
theorem tN(hI:P.underlying I=some (.int .i64))(d:Nat)(v:Value):P.keyLits (d+1) I [v]=match v with | .int .i64 n=>if (Lit.int .i64 n).wf=true then some [.int .i64 n] else none | _=>none:=by
 conv=>lhs;unfold Program.keyLits
 grind
theorem Cn(hS:P.underlying S=some .string)(d:Nat)(v:Value):P.keyLits (d+1) S [v]=match v with | .string s=>if s.size<=maxLen then some [.string s.data.toList] else none | _=>none:=by
 conv=>lhs;unfold Program.keyLits
 grind
theorem XF(hu:P.underlying K=some (.struct #[f,g]))(f1:f.type=I)(f2:f.offset=0)(f3:(f.name != "_")=true)(g1:g.type=S)(g2:g.offset=1)(g3:(g.name != "_")=true)(hI:P.underlying I=some (.int .i64))(hS:P.underlying S=some .string)(cK:P.cellsOf K=2)(cI:P.cellsOf I=1)(cS:P.cellsOf S=1)(hT:P.keyType K=true)(e)(he:P.types.size=e+1){k}(h:WfK k):keyOf P K (FP k)=some (rh k):=by
 obtain ⟨h1,h2⟩:=h
 have hf:(FP k).formed P K=true:=by simp [Value.formed,FP,hu,cK]
 unfold keyOf;rw [hu];dsimp only;rw [hT,hf];simp only [Bool.and_self,if_true];rw [pu hu,he];simp [FP,Value.cells,cK,cI,cS,f1,f2,f3,g1,g2,g3,tN hI,Cn hS,h1,h2,rh]
theorem Sf(hw:(match P.underlying K with | some (.array _ _) | some (.struct _)=>true | _=>false)=true)(hu:P.underlying K=some (.struct #[f,g]))(f1:f.type=I)(f2:f.offset=0)(g1:g.type=S)(g2:g.offset=1)(hI:P.underlying I=some (.int .i64))(hS:P.underlying S=some .string)(cK:P.cellsOf K=2)(cI:P.cellsOf I=1)(cS:P.cellsOf S=1)(e:Nat)(he:P.types.size=e+1){v:Value}{l:Lit}(h:keyOf P K v=some l):∃k,WfK k/\v=FP k/\l=rh k:=by
 obtain ⟨xs,L,rfl,h1,rfl⟩:=keyOf_top hw h;rw [pu hu,he] at h1;split at h1
 ·rename_i hc
  obtain ⟨a,b,hx⟩:∃a b,xs.toList= [a,b]:=by
   rw [cK] at hc;have h2:=hc.1
   match hl:xs.toList,h2 with
   | [a,b],_=>exact ⟨a,b,rfl⟩
  rw [hx] at h1;simp only [List.mapM_cons,List.mapM_nil,f1,f2,g1,g2,cI,cS,List.drop_zero,List.take,List.drop,ZT,tN hI,Cn hS] at h1
  cases a<;>simp at h1
  rename_i q n
  cases q<;>simp at h1
  cases b<;>simp at h1
  rename_i s;by_cases bG:(Lit.int .i64 n).wf=true
  ·by_cases hsz:s.size<=maxLen
   ·simp [bG,hsz] at h1;subst h1;refine ⟨(n,s),⟨bG,hsz⟩,?_,rfl⟩;unfold FP;congr 1;rw [<-YW,hx]
   simp_all
  simp [bG] at h1
 cases h1
end
theorem VJ:274<prog.types.size:=of_decide_eq_true zk
theorem Qm:(match prog.underlying 274 with | some (.array _ _) | some (.struct _)=>true | _=>false)=true:=zk
theorem VE:laidOutB prog=true:=zk
theorem lawK:Keyed prog 274:=Keyed.of_law (deep_law_laid VE (m:=2) zj VJ zk Qm)
theorem zc4:prog.keyType 274=true:=zk
theorem KU:prog.cellsOf 274=2:=zk
theorem CW:prog.cellsOf 3=1:=zk
theorem Fn:prog.cellsOf 9=1:=zk
theorem JI:∃e,prog.types.size=e+1:=Nat.exists_eq_succ_of_ne_zero (by have:=VJ;omega)
theorem Js{k}(h:WfK k):keyOf prog 274 (FP k)=some (rh k):=by
 obtain ⟨e,he⟩:=JI;exact XF underlying274 rfl rfl zo rfl rfl zo underlying3 underlying9 KU CW Fn zc4 e he h
theorem NB{v}{l}(h:keyOf prog 274 v=some l):∃k,WfK k/\v=FP k/\l=rh k:=by
 obtain ⟨e,he⟩:=JI;exact Sf Qm underlying274 rfl rfl rfl rfl underlying3 underlying9 KU CW Fn e he h
theorem Hc{a b}(ha:WfK a)(hb:WfK b)(h:a≠b):rh a≠rh b:=fun e=>h (JE (lawK.inj (Js ha) (by rw [e];exact Js hb)))
theorem Rv{k} :WideAt.IsKeyLit (rh k):=trivial
theorem Gv{a b}(ha:WfK a)(hb:WfK b):Lit.sameKey (rh a) (rh b)=decide (a=b):=by
 grind [WideAt.sameKey_self,Rv,sameKey_ne,Hc]
theorem RN{k}(h0: -2^63<=k)(h1:k<2^63):(Lit.int .i64 k).wf=true:=by
 exact ki1
theorem zbS{k}(h0: -2^63<=k.1)(h1:k.1<2^63)(h2:k.2.size<=1000000):WfK k:=⟨RN h0 h1,zB⟩
def M0(D:DataW Unit)(f:Do):Prop:=∀k,WfK k->match f k with
 | none=>has D (rh k)=false
 | some c=>∀z,D.atKey (rh k) z=KM c
theorem M0.X9{D}{f}(h:M0 D f){k}(hk:WfK k)(hf:f k=none):has D (rh k)=false:=by
 exact kj8
theorem M0.held{D}{f}(h:M0 D f){k}(hk:WfK k){c}(hf:f k=some c)(z):D.atKey (rh k) z=KM c:=by
 exact kj8
theorem M0.has{D}{f}(h:M0 D f){k}(hk:WfK k):Maps.has D (rh k)=(f k).isSome:=by
 cases hf:f k with
 | none=>rw [h.X9 hk hf];rfl
 | some p=>rw [has_true_of_atKey (h.held hk hf)];rfl
theorem M0.at{D}{f}(h:M0 D f){k}(hk:WfK k):D.atKey (rh k) (KM Kh)=KM ((f k).getD Kh):=by
 cases hf:f k with
 | none=>rw [atKey_of_not_has (h.X9 hk hf)];rfl
 | some p=>rw [h.held hk hf];rfl
theorem M0.got{D}{f}(h:M0 D f){k}{c}(hk:WfK k)(aN:∀z,D.atKey (rh k) z=KM c):f k=some c:=by
 have hh:=h.has hk;rw [has_true_of_atKey aN] at hh
 cases hf:f k with
 | none=>rw [hf] at hh;cases hh
 | some p=>
  have:=h.held hk hf .nil;rw [aN] at this;rw [KH this]
theorem LI{D}{f}(h:M0 D f)(hD:IsMap D){k}(hk:WfK k)(c):M0 (D.put (rh k) (KM c)) (fun x=>if x=k then some c else f x):=by
 intro x hx;dsimp only;by_cases e:x=k
 ·subst e;rw [if_pos rfl]
  exact fun z=>atKey_put_same hD Rv _ _
 rw [if_neg e]
 cases hf:f x with
 | none=>rw [has_put_other (Hc hx hk e)];exact h.X9 hx hf
 | some q=>intro z;rw [atKey_put_other (Hc hx hk e)];exact h.held hx hf z
def aai(f:Do):Prop:=∀k c,f k=some c->WfK k
theorem LF:aai noC:=fun k c h=>qa
theorem aai.put{f}(h:aai f){k}(hk:WfK k)(c):aai (fun x=>if x=k then some c else f x):=by
 intro x d hx;dsimp only at hx;split at hx
 ·rename_i e;rw [e];exact hk
 exact h x d hx
structure L6 (w:qW) (b n:Nat) (f:Do):Prop where
 reads:∃D,w.ownsMap prog 274 Mi b n D/\M0 D f
 aaa:aai f
theorem L6.lt{w}{b n}{f}(h:L6 w b n f):b<w.heap.size:=by
 obtain ⟨D,h,_⟩:=h.reads;exact h.lt
theorem L6.mono{w}{b n n'}{f}(h:L6 w b n f)(hn:n<=n'):L6 w b n' f:=by
 obtain ⟨⟨D,h,r⟩,g⟩:=h;exact ⟨⟨D,h.mono hn,r⟩,g⟩
theorem L6.same{w w'}{b n}{f}(h:L6 w b n f)(e:w'.heap[b]? =w.heap[b]?):L6 w' b n f:=by
 exact kh3
theorem He(w:qW):L6 (w.alloc (.map #[] 0)) w.heap.size 0 noC:=
 ⟨⟨_,YT w prog 274 Mi,fun _ _=>rfl⟩,LF⟩
theorem TJ(w):(zeroValue 276).run prog w= .ok (Hb Kh) w:=zeroValue276 w
theorem L6.F{w}{b n}{f}(h:L6 w b n f){k}(hk:WfK k):
  (Instr.lookup 189 (.map (some b)) (FP k) true).run prog w= .ok (.tuple #[Hb ((f k).getD Kh),.bool (f k).isSome]) w:=by
 obtain ⟨⟨D,h,r⟩,_⟩:=h;obtain ⟨v,ps,ae,hv⟩:=h.look_ok lawK underlying189 (TJ w) (Og Kh) (Js hk);obtain ⟨p,rfl,hp⟩:=EO hv;rw [r.at hk,Prod.mk.injEq] at hp;rw [ae,r.has hk,KH hp.1]
theorem L6.store{w}{b n}{f}(h:L6 w b n f)(hn:n<maxLen){k}(hk:WfK k)(c):
  ∃w',(Instr.mapUpdate 189 (.map (some b)) (FP k) (Hb c)).run prog w= .ok () w'/\L6 w' b (n+1) (fun x=>if x=k then some c else f x)/\w.mapTurned w' b:=by
 obtain ⟨⟨D,h,r⟩,g⟩:=h;obtain ⟨w',ae,h',ht⟩:=h.store lawK underlying189 hn (Js hk) (Og c);exact ⟨w',ae,⟨⟨_,h',LI r h.isMap hk c⟩,g.put hk c⟩,ht⟩
def acb(f:Do)(ps:List Mrk):Prop:=(ps.map Ao).Nodup/\∀p:Mrk,p∈ps↔p.2.2.size≠0/\∃s,f (Ao p)=some (p.2.2,s)
theorem acb.N8{f}{ps qs}(h:acb f ps)(hp:qs.Perm ps)(hs:qs.Pairwise (fun a b=>¬KLt (Ao b) (Ao a))):P9 f qs:=by
 refine ⟨?_,fun p=>(hp.mem_iff).trans (h.2 p)⟩;have hn:=(hp.map _).nodup_iff.2 h.1;have hn':=YO.1 hn
 exact (hs.and hn').imp (fun {a b} h=>by
  rcases QM h.2 with q | q
  ·exact q
  ·exact absurd q h.1)
def V7(f:Do)(left:Lit->Bool)(ps:List Mrk):Prop:=
 (ps.map Ao).Nodup/\(∀p∈ps,(p.2.2.size≠0/\∃s,f (Ao p)=some (p.2.2,s))/\left (rh (Ao p))=false)/\∀k c,f k=some c->left (rh k)=false->c.1.size≠0->(k.1,k.2,c.1)∈ps
theorem Hz{D}{f}(hr:M0 D f)(hg:aai f):V7 f (has D) []:=
 ⟨YU,fun p hp=>by simp at hp,fun k c hf hl _=>by rw [hr.has (hg k c hf),hf] at hl;cases hl⟩
theorem V7.skip{f}{left}{ps}(h:V7 f left ps)(hg:aai f){x}{c}(hx:WfK x)(hf:f x=some c)(hc:c.1.size=0):V7 f (fun z=>left z && !z.sameKey (rh x)) ps:=by
 obtain ⟨h1,h2,h3⟩:=h;refine ⟨h1,fun p hp=>⟨(h2 p hp).1,?_⟩,fun k d hk hl hd=> ?_⟩
 ·simp_all
 exact kk0
theorem V7.K6{f}{left}{ps}(h:V7 f left ps)(hg:aai f){x}{c}(hx:WfK x)(hlx:left (rh x)=true)(hf:f x=some c)(hc:c.1.size≠0):V7 f (fun z=>left z && !z.sameKey (rh x)) (ps++ [(x.1,x.2,c.1)]):=by
 obtain ⟨h1,h2,h3⟩:=h;refine ⟨?_,fun p hp=> ?_,fun k d hk hl hd=> ?_⟩
 ·grind
 ·rcases uV.1 hp with hp | hp
  ·refine ⟨(h2 p hp).1,?_⟩
   show (left (rh (Ao p)) &&_)=false
   rw [(h2 p hp).2];rfl
  grind [Zf,rh,Gv]
 exact kk0
theorem V7.all{f}{left}{ps}(h:V7 f left ps)(hl:∀kl,left kl=false):acb f ps:=by
 refine ⟨h.1,fun p=>⟨fun hp=>(h.2.1 p hp).1,fun hp=> ?_⟩⟩;obtain ⟨h0,s,hf⟩:=hp;exact h.2.2 (Ao p) _ hf (hl _) h0
end
section
open RowKit Maps
structure E9 (w:qW) (bc bm n:Nat) (f:Do):Prop where
 cell:w.heap[bc]? =some (.cells #[.map (some bm)] 191 (0,0))
 map:L6 w bm n f
theorem E9.c0{w}{bc bm n}{f}(h:E9 w bc bm n f):w.cell? (qB bc)=some (.map (some bm)):=by simp [World.cell?,h.cell]
theorem E9.lt{w}{bc bm n}{f}(h:E9 w bc bm n f):bc<w.heap.size/\bm<w.heap.size:=⟨(uK.1 h.cell).1,h.map.lt⟩
theorem E9.ne{w}{bc bm n}{f}(h:E9 w bc bm n f):bc≠bm:=fun e=>by
 obtain ⟨⟨D,⟨es,aM,hb,_⟩,_⟩,_⟩:=h.map;have:=h.cell
 simp_all
theorem E9.same{w w'}{bc bm n}{f}(h:E9 w bc bm n f)(h1:w'.heap[bc]? =w.heap[bc]?)(h2:w'.heap[bm]? =w.heap[bm]?):E9 w' bc bm n f:=⟨h1.trans h.cell,h.map.same h2⟩
theorem E9.later{w w'}{bc bm n}{f}(h:E9 w bc bm n f)(hb:qL w w'):E9 w' bc bm n f:=h.same (hb.block _ h.lt.1) (hb.block _ h.lt.2)
theorem E9.mono{w}{bc bm n n'}{f}(h:E9 w bc bm n f)(hn:n<=n'):E9 w bc bm n' f:=⟨h.cell,h.map.mono hn⟩
theorem Sv(w):qC 79 #[] w fun e w'=>e= .returned (qP (w.heap.size+1))/\w'=(w.alloc (.map #[] 0)).alloc (.cells #[.map (some w.heap.size)] 191):=by
 have jG:= @run_makeMap prog;go_enter func79,ntmps79;exact ka7
theorem zaJ(w)(bc bm)(h:w.cell? (qB bc)=some (.map (some bm))):qC 183 #[qP bc] w fun e w'=>e= .returned (.map (some bm))/\w'=w:=by
 go_enter func183,ntmps183;exact ka7
theorem CQ(a b):oa a.1 a.2 b.1 b.2=decide (CLt a b):=by
 unfold oa CLt
 grind
def DB(w:qW)(bc bm n:Nat)(f:Do)(m:Cb×pl)(w':qW):Prop:=E9 w' bc bm (n+1) (FO f m)/\m7 (fun j=>j=bm) w w'
theorem WQ(w)(bc bm n)(f)(a)(s c)(t b)(h:E9 w bc bm n f)(hn:n<=1000000)(hk:WfK (a,s)):
  qC 282 #[qP bc,.agg #[qI a,.string s],.agg #[.string c,qI t,qI b]] w fun e w'=>e= .returned (.bool (tA f (a,s) (c,(t,b))))/\DB w bc bm n f ((a,s),(c,(t,b))) w':=by
 obtain ⟨S,hS⟩:=za w.heap.size;obtain ⟨U,hU⟩:=za ((w.alloc (.cells #[qI a,.string s] 274)).alloc (.cells #[.string c,qI t,qI b] 276))
 have hKU:m7 (fun _=>False) w U:=by rw [hU];exact ((m7.refl _ w).alloc _).alloc _
 have hsU:U.heap.size=S+2:=by rw [hU,hS];simp
 have cA:U.heap[S+1]? =some (.cells #[.string c,qI t,qI b] 276 (0,0)):=by
  have:=heap_alloc_new (w.alloc (.cells #[qI a,.string s] 274)) (.cells #[.string c,qI t,qI b] 276);exact kl4
 have bI:U.heap[S]? =some (.cells #[qI a,.string s] 274 (0,0)):=by
  exact kf1
 have hA:=h.same (hKU.block _ h.lt.1 (fun e=>e)) (hKU.block _ h.lt.2 (fun e=>e));obtain ⟨Z,hZ⟩:=za (U.alloc (.cells #[.string ⟨#[]⟩,qI 0,qI 0] 276))
 have hbZ:qL U Z:=by rw [hZ];exact zh U _
 have hAZ:=hA.later hbZ;have c0:=hA.c0;have c1:=hAZ.c0;have l0:=(hA.later (uM _ U).drew).map.F hk;have l1:=(hAZ.later (uM _ Z).drew).map.F hk
 have k0:U.cell? (qB S)=some (qI a):=by simp [World.cell?,bI]
 have k1:U.cell? (qA S 1)=some (.string s):=by simp [World.cell?,bI]
 have j0:=(hbZ.cell (p:=(qB S)) yi).trans k0;have j1:=(hbZ.cell (p:=(qA S 1)) yi).trans k1;unfold FP at l0 l1
 cases hf:f (a,s) with
 | none=>
  have hg:tA f (a,s) (c,(t,b))=true:=by unfold tA;rw [hf]
  rw [hg];rw [hf] at l0 l1;simp only [Option.getD_none,Yy] at l0 l1;unfold Hb Kh at l0 l1;dsimp only at l0 l1
  have HA:Aside (E9 U bc bm n f/\m7 (fun _=>False) w U/\U.heap.size=S+2/\U.heap[S]? =some (.cells #[qI a,.string s] 274 (0,0))/\U.heap[S+1]? =some (.cells #[.string c,qI t,qI b] 276 (0,0))):=⟨hA,hKU,hsU,bI,cA⟩
  clear hA hKU bI cA hAZ hbZ h hg;subst hZ;go_enter func282,ntmps282;go_wp2_with fail;rw [<-hU,<-hS];have HS:Aside (S=w.heap.size):=hS;clear hU hS;have jw:=HA.o.2.2.2.2;have ai:=(uM U.heap.size U).alloc zg (.cells #[.string ⟨#[]⟩,qI 0,qI 0] 276);have m0:(U.alloc (.cells #[.string ⟨#[]⟩,qI 0,qI 0] 276)).cell? (qB (S+1))=some (.string c):=(ai.cell (p:=(qB (S+1))) yi).trans vu;have m1:(U.alloc (.cells #[.string ⟨#[]⟩,qI 0,qI 0] 276)).cell? (qA (S+1) 1)=some (qI t):=(ai.cell (p:=(qA (S+1) 1)) yi).trans vu;have m2:(U.alloc (.cells #[.string ⟨#[]⟩,qI 0,qI 0] 276)).cell? (qA (S+1) 2)=some (qI b):=(ai.cell (p:=(qA (S+1) 2)) yi).trans vu;obtain ⟨w2,ae,ew,hT2⟩:=((HA.o.1.later ai).later (uM _ _).drew |>.later (uM _ _).drew).map.store zB hk (c,(t,b))
  have HP:Aside (DB w bc bm n f ((a,s),(c,(t,b))) w2):=by
   have lw:=lS hT2.grown;have hne:=HA.o.1.ne;have hlt:=HA.o.1.lt;refine ⟨⟨?_,?_⟩,?_⟩
   ·rw [lw.block bc (by simp [World.drew];omega) (fun e=>hne yF)];exact (ai.block bc hlt.1).trans HA.o.1.cell
   ·have:FO f ((a,s),(c,(t,b)))=fun x=>if x=(a,s) then some (c,(t,b)) else f x:=Ft (by unfold tA;rw [hf])
    rw [this];exact ew
   exact ((HA.o.2.1.mono (fun _ _ e=>e.elim)).then (((lW ai).drew).drew) (fun i hi e=>by have:=HA.o.2.1.size;omega)).then lw (fun i hi e=>yF)
  unfold FP Hb at ae;dsimp only at ae;clear ew hT2 ai jw;go_region
  all_goals
   go_wp2_with fail;go_region
  all_goals
   go_wp2;go_ret;exact ⟨rfl,HP.o⟩
 | some o=>
  obtain ⟨vo,tO,bo⟩:=o;rw [hf] at l0 l1;simp only [YP,Yz] at l0 l1;unfold Hb at l0 l1;dsimp only at l0 l1;obtain ⟨V,hV⟩:=za ((U.alloc (.cells #[.string vo,qI tO,qI bo] 276)).drew)
  have ai:qL U V:=by rw [hV];exact ((uM U.heap.size U).alloc zg _).drew
  have fO:=(ai.block _ zj).trans cA;have hv0:=(ai.block _ zj).trans bI
  have dx:V.heap[S+2]? =some (.cells #[.string vo,qI tO,qI bo] 276 (0,0)):=by
   rw [hV,<-hsU];exact heap_alloc_new U _
  have lw:=(hKU.then (lW ai) (fun i hi e=>zj))
  have hAV:=hA.later ai
  have hsV:V.heap.size=S+3:=by rw [hV];show (U.alloc _).heap.size=_;rw [Zt,hsU]
  have hg:tA f (a,s) (c,(t,b))=oa tO bo t b:=by unfold tA;rw [hf];exact (CQ (tO,bo) (t,b)).symm
  rw [hg]
  have HA:Aside (E9 V bc bm n f/\m7 (fun _=>False) w V/\V.heap.size=S+3/\V.heap[S]? =some (.cells #[qI a,.string s] 274 (0,0))/\V.heap[S+1]? =some (.cells #[.string c,qI t,qI b] 276 (0,0))/\V.heap[S+2]? =some (.cells #[.string vo,qI tO,qI bo] 276 (0,0))/\tA f (a,s) (c,(t,b))=oa tO bo t b):=⟨hAV,lw,hsV,hv0,fO,dx,hg⟩
  have x1:V.cell? (qA (S+1) 1)=some (qI t):=by simp [World.cell?,fO]
  have x2:V.cell? (qA (S+1) 2)=some (qI b):=by simp [World.cell?,fO]
  have y1:V.cell? (qA (S+2) 1)=some (qI tO):=yV;have y2:V.cell? (qA (S+2) 2)=some (qI bo):=yV;clear hA hKU bI cA hAZ hbZ h hg ai hv0 fO dx lw hAV hsV;subst hZ;go_enter func282,ntmps282;go_wp2_with fail;rw [<-hU,<-hS];have HS:Aside (S=w.heap.size):=hS;clear hU hS;go_region
  all_goals
   rw [<-hV];clear l0 l1 c0 c1 k0 k1 j0 j1 hV;go_wp2_with fail;refine (Ep tO bo t b _).mono ?_;rintro e w3 ⟨rfl,hb3⟩;have lB:=HA.o.1.later hb3
   have hK3:=HA.o.2.1.then (lW hb3) (fun i hi e=>by have:=HA.o.2.1.size;omega)
   cases hl:oa tO bo t b with
   | false=>
    have HP:Aside (DB w bc bm n f ((a,s),(c,(t,b))) w3):=by
     have:FO f ((a,s),(c,(t,b)))=f:=Kb (HA.o.2.2.2.2.2.2.trans hl);exact ⟨by rw [this];exact lB.mono (Nat.le_succ n),hK3.mono (fun _ _ e=>e.elim)⟩
    clear lB hK3 hb3;go_wp2;go_ret;exact ⟨by rw [hl];rfl,HP.o⟩
   | true=>
    obtain ⟨w2,ae,ew,hT2⟩:=(lB.later (uM _ _).drew).map.store zB hk (c,(t,b))
    have HP:Aside (DB w bc bm n f ((a,s),(c,(t,b))) w2):=by
     have lw:=lS hT2.grown;refine ⟨⟨?_,?_⟩,?_⟩
     ·rw [lw.block bc lB.lt.1 (fun e=>lB.ne yF)];exact lB.cell
     ·have:FO f ((a,s),(c,(t,b)))=fun x=>if x=(a,s) then some (c,(t,b)) else f x:=Ft (HA.o.2.2.2.2.2.2.trans hl)
      rw [this];exact ew
     exact ((hK3.mono (fun _ _ e=>e.elim)).drew).then lw (fun i hi e=>yF)
    have c3:=lB.c0;have gN:=HA.o.2.2.1;have k0:w3.cell? (qB S)=some (qI a):=(hb3.cell (p:=(qB S)) yi).trans (by simp [World.cell?,HA.o.2.2.2.1]);have k1:w3.cell? (qA S 1)=some (.string s):=(hb3.cell (p:=(qA S 1)) yi).trans (by simp [World.cell?,HA.o.2.2.2.1]);have m0:w3.cell? (qB (S+1))=some (.string c):=(hb3.cell (p:=(qB (S+1))) yi).trans (by simp [World.cell?,HA.o.2.2.2.2.1]);have m1:w3.cell? (qA (S+1) 1)=some (qI t):=(hb3.cell (p:=(qA (S+1) 1)) yi).trans zj;have m2:w3.cell? (qA (S+1) 2)=some (qI b):=(hb3.cell (p:=(qA (S+1) 2)) yi).trans zj;unfold FP Hb at ae;dsimp only at ae;clear lB hK3 hb3 ew hT2 gN;go_wp2_with fail;go_region
    all_goals
     go_wp2;go_ret;exact ⟨by rw [hl];rfl,HP.o⟩
end
section
open Shelf RowKit Lib Go.Sort
def Ew(a b:qU):Int:=if a<b then -1 else if b<a then 1 else 0
def orZ(a b:Int):Int:=if a=0 then b else a
def zaP(x y:Mrk):Int:=orZ (Aq x.1 y.1) (Ew x.2.1.data.toList y.2.1.data.toList)
theorem tq(x y):ltOf zaP x y=decide (KLt (Ao x) (Ao y)):=by
 unfold ltOf zaP orZ Aq;by_cases h1:x.1<y.1
 ·simp [h1]
 rw [if_neg h1];by_cases h2:y.1<x.1
 ·grind
 have h3:x.1=y.1:=zj;rw [if_neg h2,if_pos rfl];unfold Ew
 grind
theorem Uj:SWO (ltOf zaP) where
 irrefl x:=by rw [tq];simp_all
 trans x y z h1 h2:=by
  rw [tq] at*
  grind
 ntrans x y z h1 h2:=by
  rw [tq] at*
  grind
def mh(m:Mrk):List Value:=[qI m.1,.string m.2.1,.string m.2.2]
theorem zdw(a)(w):qC 247 #[.string a] w fun e w'=>e= .returned (.bool false)/\w'=w:=by
 go_enter func247,ntmps247;go_wp2;go_ret;exact ⟨zr,rfl⟩
theorem SE(a b)(w):qC 187 #[.string a,.string b] w fun e w'=>e= .returned (qI (Ew a.data.toList b.data.toList))/\w'=w:=by
 unfold Ew;by_cases h1:a.data.toList<b.data.toList
 ·have d1:=(Dm _ _).trans <| decide_eq_true h1
  rw [if_pos h1];exact ke5
 have d1:=(Dm _ _).trans <| decide_eq_false h1
 rw [if_neg h1];by_cases h2:b.data.toList<a.data.toList
 ·have d2:(a.toList==b.toList)=false:=by
   rw [Zu,Zu];exact beq_false_of_ne (fun e=>by rw [e] at h2;exact List.lt_irrefl _ h2)
  rw [if_pos h2];exact ke5
 have d2:(a.toList==b.toList)=true:=by
  rw [Zu,Zu];by_cases e:a.data.toList=b.data.toList
  ·rw [e];simp
  rcases AA e with q | q
  ·exact absurd q h1
  exact absurd q h2
 rw [if_neg h2];exact ke5
theorem za0(w)(g)(a b)(h0:w.cell? (qB g)=some (qI a))(h1:w.cell? (qA g 1)=some (qI b)):
  qC 186 #[qG g 2 2] w fun e w'=>e= .returned (qI (orZ a b))/\w'=w:=by
 unfold orZ;by_cases ha:a=0
 ·rw [if_pos ha]
  have da:(a !=0)=false:=by simp [ha]
  by_cases hb:b=0
  ·have db:(b !=0)=false:=by simp [hb]
   have HB:=Lib.hid hb;go_enter func186,ntmps186;go_wp2;refine wp_loop_rounds 3 ?_;rw [rounds_succ];go_wp2;rw [rounds_succ];go_wp2;rw [rounds_succ];go_wp2;go_ret;exact ⟨by rw [HB.o];rfl,rfl⟩
  have db:(b !=0)=true:=by simp [hb]
  go_enter func186,ntmps186;go_wp2;refine wp_loop_rounds 2 ?_;rw [rounds_succ];go_wp2;rw [rounds_succ];exact ka7
 rw [if_neg ha]
 have da:(a !=0)=true:=by simp [ha]
 go_enter func186,ntmps186;go_wp2;refine wp_loop_rounds 1 ?_;rw [rounds_succ];exact ka7
theorem Ti(x y)(w):qC 185 (#[.agg (mh x).toArray,.agg (mh y).toArray]++ #[]) w fun e w'=>e= .returned (qI (zaP x y))/\∃q os',w'=grow (w.drewN q) os':=by
 obtain ⟨a,s,c⟩:=x;obtain ⟨a',s',c'⟩:=y;unfold mh;dsimp only;obtain ⟨S,hS⟩:=za w.heap.size;obtain ⟨U,hU⟩:=za ((w.alloc (.cells #[qI a,.string s,.string c] 221)).alloc (.cells #[qI a',.string s',.string c'] 221))
 have cA:U.heap[S+1]? =some (.cells #[qI a',.string s',.string c'] 221 (0,0)):=by
  have:=heap_alloc_new (w.alloc (.cells #[qI a,.string s,.string c] 221)) (.cells #[qI a',.string s',.string c'] 221);exact kl4
 have bI:U.heap[S]? =some (.cells #[qI a,.string s,.string c] 221 (0,0)):=by
  exact kf1
 have x0:U.drew.cell? (qB S)=some (qI a):=yO;have x1:U.drew.cell? (qA S 1)=some (.string s):=yO;have y0:U.drew.cell? (qB (S+1))=some (qI a'):=yP;have y1:U.drew.cell? (qA (S+1) 1)=some (.string s'):=yP
 have HX:Aside (U.drew.cell? (qB S)=some (qI a)/\U.drew.cell? (qA S 1)=some (.string s)/\U.drew.cell? (qB (S+1))=some (qI a')/\U.drew.cell? (qA (S+1) 1)=some (.string s')):=⟨x0,x1,y0,y1⟩
 have HU:Aside (∃os,U=grow w os):=⟨_,vV⟩
 clear bI cA x0 x1 y0 y1;go_enter func185,ntmps185;go_wp2_with fail;rw [<-hU,<-hS];clear hU hS;refine lV (S:=fun w'=>w'.cell? (qB S)=some (qI a)/\w'.cell? (qA S 1)=some (.string s)/\w'.cell? (qB (S+1))=some (qI a')/\w'.cell? (qA (S+1) 1)=some (.string s')) zk HX.o (fun aa=> ?_);refine tk 0 aa ?_ (y:=ty zu);refine tk 1 aa ?_ (y:=ty zu);refine tk 2 aa ?_ (y:=ty zu);refine tk 3 aa ?_ (y:=ty zu);refine tk 5 aa ?_ (y:=ty zu);refine tk 6 aa ?_ (y:=ty zu);refine tk 7 aa ?_ (y:=ty zu);refine tk 8 aa ?_ (y:=ty zu);refine an (i:=4) zk rfl (fun K hK=> ?_);go_simp;refine (BQ _ _ _).mono ?_;rintro e w1 ⟨rfl,rfl⟩;refine hK _ _ HX.o ?_;clear hK K;refine qn ?_;refine an (i:=9) zk rfl (fun K hK=> ?_);go_simp;refine (SE _ _ _).mono ?_;rintro e w1 ⟨rfl,rfl⟩;refine hK _ _ HX.o ?_;clear hK K;refine qn ?_;refine an (i:=10) zk rfl (fun K hK=> ?_);go_simp;obtain ⟨V,hV⟩:=za ((U.alloc (.cells #[qI (Aq a a'),qI (Ew s.data.toList s'.data.toList)] 3)).drew)
 have ai:Below U.drew.heap.size U.drew V:=by rw [hV];exact ⟨rfl,rfl,rfl,((uM U.heap.size U).alloc zg _).size,((uM U.heap.size U).alloc zg (.cells #[qI (Aq a a'),qI (Ew s.data.toList s'.data.toList)] 3)).block⟩
 have hVn:V.heap[U.heap.size]? =some (.cells #[qI (Aq a a'),qI (Ew s.data.toList s'.data.toList)] 3 (0,0)):=xB
 have HV:Aside (∃q os',V=grow (w.drewN q) os'):=by
  exact km5
 have g0:V.cell? (qB U.heap.size)=some (qI (Aq a a')):=xq;have g1:V.cell? (qA U.heap.size 1)=some (qI (Ew s.data.toList s'.data.toList)):=xq;rw [<-hV]
 have HY:Aside (V.cell? (qB S)=some (qI a)/\V.cell? (qA S 1)=some (.string s)/\V.cell? (qB (S+1))=some (qI a')/\V.cell? (qA (S+1) 1)=some (.string s')):=⟨oJ ai HX.o.1,oJ ai HX.o.2.1,oJ ai HX.o.2.2.1,oJ ai HX.o.2.2.2⟩
 exact kc5
theorem NH(blk off size)(w):CmpLays prog 185 #[] mh 3 zaP blk off size w:=fun _ _ _ _ x y=>Ti x y _
theorem Wy:∀args w,(callFunc 185 args).run prog w= .ok (.enter 185 args) w:=enters_of func185 zk rfl
theorem oM(x):(mh x).length=3:=rfl
theorem Dk(x):∀v∈mh x,v.oneCell'=true:=by
 intro v hv;simp only [mh,uX,ZP,or_false] at hv
 rcases hv with rfl | rfl | rfl<;>rfl
theorem Af(w)(g n)(d)(os):m7 (fun k=>k=g) w (sortWorldK mh 3 w g 0 n d os):=by
 refine ⟨rfl,rfl,rfl,?_,fun k hk hs=> ?_⟩
 ·exact kk8
 exact kg9
theorem zbd{w}{l9 g cap n}{ps}(h:w.ownsRow l9 221 3 (qG g n cap) n (mP mh ps))(hn:n=ps.length):HoldsK mh 3 w g 0 ps.toArray:=fun j hj=>by
 rw [size_flatK] at hj;simp only [Zl] at hj;have h1:j / 3<ps.length:=zj;have h2:j / 3*3+j % 3=j:=zj;refine ⟨?_,yS⟩;rw [Zc,h.cellAt j zj,get_flatK _ _ _ _ yG];have:=mi (enc:=mh) oM (L:=ps) (i:=j / 3) (c:=j % 3) (x:=ps[j / 3]) (uJ h1) zj
 grind [uJ,oM]
theorem Fi{w}{g}{d}(h:HoldsK mh 3 w g 0 d)(j)(u)(hj:(mP mh d.toList)[j]? =some u):w.cell? (qA g j)=some u:=by
 have hl:=(uI.1 hj).1;rw [mu oM,ZK] at hl;have h1:j / 3<d.size:=zj;have h2:j / 3*3+j % 3=j:=zj;have H:=(h j xc).1;rw [Zc,get_flatK _ _ _ _ zj] at H;have:=mi (enc:=mh) oM (L:=d.toList) (i:=j / 3) (c:=j % 3) (x:=d[j / 3]) (by rw [YZ,Yf h1]) zj
 grind
theorem zbJ(w)(l9 g cap)(ps)(hown:w.ownsRow l9 221 3 (qG g ps.length cap) ps.length (mP mh ps))(hl:ps.length<=100000):
  qC 184 #[qG g ps.length cap,.func (.func 185) #[] #[]] w fun e w'=>e=qT #[]/\∃qs:List Mrk,qs.Perm ps/\qs.Pairwise (fun a b=>¬KLt (Ao b) (Ao a))/\(∀j u,(mP mh qs)[j]? =some u->w'.cell? (qA g j)=some u)/\m7 (fun k=>k=g) w w':=by
 have hH:=zbd hown rfl;have hblk:=(hown.lt g rfl).2;have h:=AnyQ.slices_SortFunc GI 3 isAgg221 sizeOf221 mh oM Dk zaP Uj 185 #[] g 0 cap ps.toArray w Wy (NH g 0 ps.toArray.size w) hH hblk zm;refine Calls.mono h ?_;rintro e w' ⟨rfl,d',n,os,hp,hs,rfl⟩;simp only [Zl] at hp hs;have hsz:d'.size=ps.length:=qv
 have hperm:d'.toList.Perm ps:=by
  exact kb3
 refine ⟨rfl,d'.toList,hperm,?_,?_,Af w g n d' os⟩
 ·rw [ZN];intro i j hi hj aA;have hi':i<d'.size:=xL;have hj':j<d'.size:=yG;have:=hs i j (uW _) aA zj;rw [tq,getElem!_pos d' i hi',getElem!_pos d' j hj'] at this;have:=of_decide_eq_false this;exact ko5
 exact Fi ((show SWK mh 3 w g 0 d' _ from ⟨n,os,rfl⟩).holds hblk hH (by rw [hsz];simp))
theorem Hm(p)(cap)(fv)(w):qC 184 #[.slice p 0 cap,fv] w fun e w'=>e=qT #[]/\w'=w:=
 AnyF.slices_SortFunc_none GI p cap fv w
end
section
open RowKit Maps
theorem zcY:(prog.info? 221).map (fun i=>(i.zero,i.size,i.bytes))=some (some (.agg #[qI 0,.string ⟨#[]⟩,.string ⟨#[]⟩]),3,40):=zk
theorem EA{s:qY}(h:s.size=0):s.toList.isEmpty=true:=by
 simp_all
theorem Ig{s:qY}(h:s.size≠0):s.toList.isEmpty=false:=by
 rw [Zu];have:s.data.toList.length≠0:=xl
 grind
theorem LO(w:qW)(a)(s c)(j)(u)(hj:(mh (a,s,c))[j]? =some u):(w.alloc (.cells #[qI a,.string s,.string c] 221)).cell? (((qB w.heap.size):Addr).add j)=some u:=by
 simp_all [Addr.add_lit,Zc,heap_alloc_new,mh]
theorem RW(w)(bc bm n)(f)(hC:E9 w bc bm n f)(hn:n<=100000):
  qC 133 #[qP bc] w fun e w'=>∃ao cap qs,e= .returned (.slice ao qs.length cap)/\P9 f qs/\qs.length<=n/\N9 mh w' ao qs/\qL w w'/\∀g o,ao=some (qA g o)->w.heap.size<=g:=by
 obtain ⟨i0,hi,aD,aw,aH⟩:=info_parts zcY;have hall:=zaJ w bc bm hC.c0;obtain ⟨⟨D,hown,hr⟩,hg⟩:=hC.map;have bO:=hown.size_le;have hlt:=hC.lt;clear hC;go_enter func133,ntmps133
 go_wp2_with (first
  | (go_at_call 183;refine hall.mono ?_;clear hall;rintro e w' ⟨rfl,hw'⟩;have hw2:=hw'.symm;subst hw2)
  | (at_range;refine wpList_range_own _ rfl _ 189 rfl 274 276 lawK underlying189 _ bm n D rfl hown ?_;intro w0 dD hg0 fq)
  | go_in)
 go_frame;have hb0:=(uM _ w).grown hg0 zg (by intro k hk;cases hk);obtain ⟨r,jB⟩:=ze w.heap.size
 rw [<-jB.o] at dD |-
 have H0:Aside (w0.ranges prog 274 Mi bm r n D (has D) (size D)/\qL w w0/\M0 D f/\aai f/\bm<w.heap.size):=⟨dD,hb0,hr,hg,hlt.2⟩
 clear dD hg0 fq hb0 hr hg hlt hown
 go_loopw [3] (fun s3 wr=>∃(left:Lit->Bool) (eZ:Nat) (ps:List Mrk) (v:Value),v=s3/\Aside (wr.ranges prog 274 Mi bm r n D left eZ/\ps.length+eZ<=n/\V7 f left ps/\wr.ownsRow (r+1) 221 3 v ps.length (mP mh ps)/\qL w wr/\r<wr.heap.size))
  (fun _ wr=>wr.rangeLeft bm r)
 case atStart=>exact ⟨_,_,[],_,rfl,⟨H0.o.1,by simpa using bO,Hz H0.o.2.2.1 H0.o.2.2.2.1,Zi _ _ _ _,H0.o.2.1,H0.o.1.lt⟩⟩
 case round=>
  obtain ⟨left,eZ,ps,v,rfl,A⟩:=hrel;obtain ⟨u,hu⟩:=za wr;subst hu;have fW:=A.o.1
  go_wp2_with (first
   | (at_next;refine wpList_next_ranges _ rfl _ rfl 274 lawK Mi FP Hb (fun Y9 kl hk=>by obtain ⟨x,_,hx,_⟩:=NB hk;exact ⟨x,hx⟩) (fun v y hv=>by obtain ⟨c,rfl,_⟩:=EO hv;exact ⟨c,rfl⟩) bm r n _ _ _ rfl fW ?_ ?_)
   | go_in)
  ·intro fj cP;have hall:=A.o.2.2.1.all cP;have gx:ps.length<=n:=vZ;have hown:=A.o.2.2.2.1;have jW:=A.o.2.2.2.2.1;have hr1:=jB.o
   rcases hown.2 with ⟨rfl,h0⟩ | ⟨g,cap,cur,rfl,hbg,-⟩
   ·have bq:=Zg.1 h0
    have HH:Aside (P9 f []/\qL w u):=⟨by subst bq;exact hall.N8 (List.Perm.refl _) List.Pairwise.nil,jW⟩
    clear hall hown jW bq h0 fj cP hr1;go_wp2_with (go_at_call 184;refine (Hm none 0 _ _).mono ?_;rintro e w' ⟨rfl,rfl⟩);go_ret;exact ⟨none,0,[],rfl,HH.o.1,uW _,.inl rfl,HH.o.2,fun g o e=>yN⟩
   have hs:=zbJ u (r+1) g cap ps hown zj;have bY:=(hown.lt g rfl).2
   have HH:Aside (acb f ps/\ps.length<=n/\qL w u/\w.heap.size<=g/\g<u.heap.size):=⟨hall,gx,jW,zj,bY⟩
   clear hall hown jW gx hbg bY fj cP hr1;go_wp2_with fail;refine hs.mono ?_;clear hs;rintro e w2 ⟨rfl,qs,hp,hpw,hcells,hk⟩
   have H2:Aside (P9 f qs/\qs.length=ps.length/\qs.length<=n/\(∀j u,(mP mh qs)[j]? =some u->w2.cell? (qA g j)=some u)/\qL w w2/\w.heap.size<=g):=
    ⟨HH.o.1.N8 hp hpw,hp.length_eq,um,hcells,HH.o.2.2.1.trans (hk.m8 (HH.o.2.2.1.size) (fun k e=>by have:=HH.o.2.2.2.1;omega)),HH.o.2.2.2.1⟩
   clear hp hpw hcells hk HH;go_wp2;go_ret;exact ⟨_,cap,qs,by rw [H2.o.2.1];rfl,H2.o.1,H2.o.2.2.1,.inr ⟨g,0,rfl,fun j u hj=>by rw [Zc];exact H2.o.2.2.2.1 j u hj⟩,H2.o.2.2.2.2.1,fun g' o e=>by cases e;exact H2.o.2.2.2.2.2⟩
  intro a nm c t b kl yd yp w2 bu dZ bT hv aN dC hlt hg2 aJ iI;obtain ⟨x',fL,ex,rfl⟩:=NB dZ;obtain rfl:(a,nm)=x':=JE ex;obtain ⟨c',ec,ez⟩:=EO hv;obtain rfl:(c,t,b)=c':=Re ec;obtain rfl:yd=KM (c,t,b):=(Prod.mk.inj ez).1;have kZ:=H0.o.2.2.1.got fL aN;have hk2:m7 (fun k=>k=r) u w2:=(lS hg2).mono (fun k _ e=>ve);have hb2:=A.o.2.2.2.2.1.trans (hk2.m8 A.o.2.2.2.2.1.size (fun k e=>xR));have ho2:=mD A.o.2.2.2.1 (fun g hg=>hk2.block g (A.o.2.2.2.1.lt g hg).2 (by have:=(A.o.2.2.2.1.lt g hg).1;omega))
  unfold FP Hb at iI |-
  dsimp only at iI |-
  obtain ⟨S,hS⟩:∃S,Aside (w2.heap.size=S):=⟨_,rfl⟩
  by_cases hc:c.size=0
  ·have kg:=A.o.2.2.1.skip H0.o.2.2.2.1 fL kZ hc;have hce:=EA hc
   have H2:Aside (w2.ranges prog 274 Mi bm r n D (fun z=>left z && !z.sameKey (rh (a,nm))) bu/\ps.length+bu<=n/\V7 f (fun z=>left z && !z.sameKey (rh (a,nm))) ps/\w2.ownsRow (r+1) 221 3 v ps.length (mP mh ps)/\qL w w2/\bu<eZ):=⟨dC,vZ,kg,ho2,hb2,hlt⟩
   clear kg dC hlt hg2 aJ hk2 hb2 ho2 kZ aN hv dZ bT ec ez ex;go_wp2;obtain ⟨h1,h2,h3,h4,h5,h6⟩:=H2.o;refine ⟨⟨_,bu,ps,v,rfl,(h1.alloc _).alloc _,h2,h3,(h4.alloc _).alloc _,(h5.alloc h5.size _).alloc (by have:=h5.size;simp;omega) _,((h1.alloc _).alloc _).lt⟩,?_⟩;rw [((h1.alloc _).alloc _).left_eq,fW.left_eq];exact h6
  have kg:=A.o.2.2.1.K6 H0.o.2.2.2.1 fL bT kZ hc;have hce:=Ig hc;obtain ⟨W3,lm⟩:=za ((w2.alloc (.cells #[qI a,.string nm] 274)).alloc (.cells #[.string c,qI t,qI b] 276))
  have hb3:qL w2 W3:=by rw [lm];exact (zh w2 _).alloc zr _
  have gN:W3.heap.size=w2.heap.size+2:=by rw [lm];simp
  have q0:W3.heap[w2.heap.size]? =some (.cells #[qI a,.string nm] 274 (0,0)):=by
   rw [lm,uR _ _ _ zr];exact heap_alloc_new w2 _
  have q1:W3.heap[w2.heap.size+1]? =some (.cells #[.string c,qI t,qI b] 276 (0,0)):=by
   have:=heap_alloc_new (w2.alloc (.cells #[qI a,.string nm] 274)) (.cells #[.string c,qI t,qI b] 276);rw [Zt] at this;rw [lm];exact this
  have jz:W3.ranges prog 274 Mi bm r n D (fun z=>left z && !z.sameKey (rh (a,nm))) bu:=by rw [lm];exact (dC.alloc _).alloc _
  have ho3:W3.ownsRow (r+1) 221 3 v ps.length (mP mh ps):=by rw [lm];exact (ho2.alloc _).alloc _
  have H2:Aside (W3.ranges prog 274 Mi bm r n D (fun z=>left z && !z.sameKey (rh (a,nm))) bu/\ps.length+1+bu<=n/\V7 f (fun z=>left z && !z.sameKey (rh (a,nm))) (ps++ [(a,nm,c)])/\W3.ownsRow (r+1) 221 3 v ps.length (mP mh ps)/\qL w W3/\bu<eZ):=⟨jz,vZ,kg,ho3,zi hb2 hb3,hlt⟩
  clear kg dC hlt hg2 aJ hk2 hb2 ho2 kZ aN hv dZ bT ec ez ex jz ho3 hb3;go_upto_region 6 with fail;rw [<-lm]
  rw [hS.o] at q0 q1 gN |-
  have f0:W3.cell? (qB S)=some (qI a):=by simp [World.cell?,q0]
  have f1:W3.cell? (qA S 1)=some (.string nm):=by simp [World.cell?,q0]
  have f2:W3.cell? (qB (S+1))=some (.string c):=by simp [World.cell?,q1]
  obtain ⟨X,hX⟩:∃X,Aside (W3.heap.size=X):=⟨_,rfl⟩
  clear q0 q1 lm iI gN
  have gx:ps.length+1<=n:=by have:=H2.o.2.1;omega
  have hbs:r+1<=W3.heap.size:=H2.o.1.lt;obtain ⟨va,vc,rfl⟩:=mC H2.o.2.2.2.1;go_wp2_with (at_builtin;refine wpList_append_own _ rfl _ _ 218 rfl (r+1) 221 i0 _ 3 40 underlying218 hi aD aw aH rfl zj _ _ _ rfl (H2.o.2.2.2.1.alloc _) (qB W3.heap.size) 1 1 (mh (a,nm,c)) rfl rfl (LO W3 a nm c) (Dk _) zB zj zm ?_);intro v2 u2 hown ag hnil;clear hnil f0 f1 f2
  have hrow:∀g,(Value.slice va ps.length vc).ownBlock=some g->r+1<=g:=fun g hg=>(H2.o.2.2.2.1.lt g hg).1
  have hbm:=H0.o.2.2.2.2;have hr1:=jB.o;have h5:=H2.o.2.2.2.2.1;have dB:=(H2.o.1.alloc _).kept ag (fun e=>by have:=hrow bm e.symm;omega) (fun e=>by have:=hrow r e.symm;omega)
  have R4:Aside (u2.ranges prog 274 Mi bm r n D (fun z=>left z && !z.sameKey (rh (a,nm))) bu/\(ps++ [(a,nm,c)]).length+bu<=n/\V7 f (fun z=>left z && !z.sameKey (rh (a,nm))) (ps++ [(a,nm,c)])/\u2.ownsRow (r+1) 221 3 v2 (ps++ [(a,nm,c)]).length (mP mh (ps++ [(a,nm,c)]))/\qL w u2/\r<u2.heap.size):=by
   refine ⟨dB,by have:=H2.o.2.1;simp;omega,H2.o.2.2.1,?_,(h5.alloc h5.size _).grown ag (by have:=h5.size;simp;omega) (fun k hk=>by have:=hrow k hk;omega),dB.lt⟩;rw [uQ,nR];simpa [mP] using hown
  have hm:u2.rangeLeft bm r<u.rangeLeft bm r:=by rw [dB.left_eq,fW.left_eq];exact H2.o.2.2.2.2.2
  clear hown ag hrow dB h5 hr1 hbm;go_wp2;exact ⟨⟨_,_,_,_,rfl,R4⟩,hm⟩
end
section
open RowKit Lib Go.Sort
abbrev OpX:=Int×Int×Int×Nat×Int×Int×ByteArray×ByteArray
def ny(x:OpX):List Value:=(qVl x)
theorem ng(x):∀v∈ny x,v.oneCell'=true:=by
 intro v hv;simp [ny] at hv;exact kh2
theorem lO{w w'}{b o}{v}(hb:qL w w')(h:w.cell? (qA b o)=some v):w'.cell? (qA b o)=some v:=by
 exact kg7
def cellsOf(xs:qX):List Value:=xs.flatMap ny
theorem rs(x)(xs):cellsOf (x::xs)=ny x++cellsOf xs:=rfl
theorem nK(x):(ny x).length=8:=rfl
theorem mo:∀xs:List OpX,(cellsOf xs).length=xs.length*8
 | []=>rfl
 | x::xs=>by rw [rs,uQ,mo xs,nK,Za];omega
theorem JV(xs):∀u∈cellsOf xs,u.oneCell'=true:=by
 intro u hu;obtain ⟨x,_,hx⟩:=List.mem_flatMap.1 hu;exact ng x u hx
theorem ma:∀(xs:qX) (i c:Nat),i<xs.length->c<8->(cellsOf xs)[i*8+c]? =some ((ny xs[i]!)[c]!)
 | [],i,_,hi,_=>absurd hi zr
 | x::xs,0,c,_,hc=>by
  grind [rs,Yh,nK,uJ]
 | x::xs,i+1,c,hi,hc=>by
  rw [rs,List.getElem?_append_right (by rw [nK];omega),nK,show (i+1)*8+c - 8=i*8+c by omega,ma xs i c xL hc];simp
theorem oR(a b):cellsOf (a++b)=cellsOf a++cellsOf b:=List.flatMap_append
def M1(w:qW)(v:Value)(xs:qX):Prop:=
 (v=qE/\xs= [])\/∃blk off cap,v= .slice (some (qA blk off)) xs.length cap/\∀j u,(cellsOf xs)[j]? =some u->w.cell? (qA blk (off+j))=some u
theorem M1.later{w w'}{v}{xs}(h:M1 w v xs)(hb:qL w w'):M1 w' v xs:=by
 rcases h with h | ⟨g,o,c,h1,h2⟩
 ·exact .inl h
 exact .inr ⟨g,o,c,h1,fun j u hj=>lO hb (h2 j u hj)⟩
theorem rA:(prog.info? 88).map (fun i=>(i.zero,i.size,i.bytes))=some (some (.agg qZa),8,80):=zk
theorem Rf{w:qW}{b off}{xs}(hc:∀j u,(cellsOf xs)[j]? =some u->w.cell? (qA b (off+j))=some u)(i c)(hi:i<xs.length)(h8:c<8):w.cell? (qA b (off+i*8+c))=some ((ny xs[i]!)[c]!):=by
 simp_all [Yt,ma]
theorem Cg{w}{l9}{v}{xs}(h:w.ownsRow l9 88 8 v xs.length (cellsOf xs)):M1 w v xs:=by
 rcases h.2 with ⟨h1,h2⟩ | ⟨g,cap,cur,rfl,_⟩
 ·exact .inl ⟨h1,Zg.1 h2⟩
 refine .inr ⟨g,0,cap,rfl,fun j u hj=> ?_⟩;have hl:=(uI.1 hj).1;rw [mo] at hl;rw [Zc,h.cellAt j hl,hj]
structure zb1 (w:qW) (g p:Nat) (t b m:Int) (kd:Nat) (l8 other:Int) (name value:qY):Prop where
 c0:w.cell? (qA g p)=some (qI t)
 c1:w.cell? (qA g (p+1))=some (qI b)
 c2:w.cell? (qA g (p+2))=some (qI m)
 c3:w.cell? (qA g (p+3))=some (.int .u8 (kd:Int))
 c4:w.cell? (qA g (p+4))=some (qI l8)
 c5:w.cell? (qA g (p+5))=some (qI other)
 c6:w.cell? (qA g (p+6))=some (.string name)
 c7:w.cell? (qA g (p+7))=some (.string value)
theorem Uh{w}{g o}{xs}(hc:∀j u,(cellsOf xs)[j]? =some u->w.cell? (qA g (o+j))=some u)(i)(hi:i<xs.length){t b m}{kd}{l8 other}{name value}(hx:xs[i]! =(t,b,m,kd,l8,other,name,value)):zb1 w g (o+i*8) t b m kd l8 other name value:=by
 have h:=fun c h8=>Rf hc i c hi h8
 rw [hx] at h;exact ⟨h 0 zj,h 1 zj,h 2 zj,h 3 zj,h 4 zj,h 5 zj,h 6 zj,h 7 zj⟩
def F1(w:qW)(ao:qO)(xs:qX):Prop:=xs= []\/∃blk off,ao=some (qA blk off)/\∀j u,(cellsOf xs)[j]? =some u->w.cell? (qA blk (off+j))=some u
theorem F1.later{w w'}{ao}{xs}(h:F1 w ao xs)(hb:qL w w'):F1 w' ao xs:=by
 rcases h with h | ⟨g,o,h1,h2⟩
 ·exact .inl h
 exact kk1
end
section
def mv(x:OpX):Nat:=opE x.1 x.2.1 x.2.2.1 x.2.2.2.1 x.2.2.2.2.1 x.2.2.2.2.2.1 x.2.2.2.2.2.2.1.data.toList x.2.2.2.2.2.2.2.data.toList
def za6(x:OpX):Cb:=(x.2.2.2.2.1,x.2.2.2.2.2.2.1)
def Nx(x:OpX):pl:=(x.2.2.2.2.2.2.2,(x.1,x.2.1))
def Kz(x:OpX):Option (Cb×pl):=if mv x=0/\x.2.2.2.1=115 then some (za6 x,Nx x) else none
def rR(xs:qX):List (Cb×pl):=xs.filterMap Kz
theorem Mw(xs ys):rR (xs++ys)=rR xs++rR ys:=List.filterMap_append
def rm(xs:qX):Do:=DT (rR xs) noC
def Gy(f:Do)(x:OpX):Do:=if mv x=0/\x.2.2.2.1=115 then FO f (za6 x,Nx x) else f
theorem Dr(xs)(x):rm (xs++ [x])=Gy (rm xs) x:=by
 unfold rm Gy;rw [Mw];by_cases h:mv x=0/\x.2.2.2.1=115
 ·simp_all [rR,za6,Nx,Kz,Dv,if_pos]
 have e:rR [x]= []:=by simp [rR,Kz,h]
 simp_all
def abk(xs:qX):Prop:=∀x∈xs,∀y∈xs,x.1=y.1->x.2.1=y.2.1->x=y
theorem Ay{x}{m}(h:Kz x=some m):m=(za6 x,Nx x):=by
 grind [Kz,Option.some.inj]
theorem abk.N8{xs}(h:abk xs):zc5 (rR xs):=by
 intro k c d hc hd e;obtain ⟨x,hx,ex⟩:=Yo.1 hc;obtain ⟨y,hy,ey⟩:=Yo.1 hd;have e1:=Ay ex;have e2:=Ay ey;have c1:=(Prod.mk.inj e1).2;have d1:=(Prod.mk.inj e2).2;subst c1;subst d1;have e3:(x.1,x.2.1)=(y.1,y.2.1):=e;rw [h x hx y hy (Prod.mk.inj e3).1 (Prod.mk.inj e3).2]
abbrev byO(x:OpX):Int:=x.2.1
abbrev mB(x:OpX):Int:=x.2.2.1
abbrev kdO(x:OpX):Nat:=x.2.2.2.1
abbrev mY(x:OpX):Int:=x.2.2.2.2.1
abbrev mX(x:OpX):Int:=x.2.2.2.2.2.1
def idO(x:OpX):Int:=x.1*4+x.2.1
def stO(x:OpX):Int×Int:=(x.1,x.2.1)
def m9(S:qX)(nd:Int):Prop:=∃x∈S,kdO x=109/\mY x=nd/\idO x=nd
def I6(S:qX)(nd id:Int):Prop:=∃x∈S,kdO x=105/\mY x=nd/\idO x=id
def L8(S:qX)(x:OpX):Prop:=((kdO x=109/\idO x=mY x)\/m9 S (mY x))/\(kdO x=109->mX x=0\/mX x=1\/m9 S (mX x))/\((kdO x=105/\0<mX x)\/kdO x=100->I6 S (mY x) (mX x))
theorem m9.mono{S T}(h:∀x,x∈S->x∈T){nd}(k:m9 S nd):m9 T nd:=by
 obtain ⟨x,hx,k⟩:=k;exact ⟨x,h x hx,k⟩
theorem I6.mono{S T}(h:∀x,x∈S->x∈T){nd id}(k:I6 S nd id):I6 T nd id:=by
 obtain ⟨x,hx,k⟩:=k;exact ⟨x,h x hx,k⟩
theorem L8.mono{S T}(h:∀x,x∈S->x∈T){x}(k:L8 S x):L8 T x:=
 ⟨k.1.imp (fun e=>e) (m9.mono h),fun e=>(k.2.1 e).imp (fun e=>e) (fun e=>e.imp (fun e=>e) (m9.mono h)),fun e=>(k.2.2 e).mono h⟩
structure D5 (S:qX):Prop where
 ok:∀x∈S,mv x=0
 one:∀x∈S,∀y∈S,byO x=byO y->mB x=mB y->x=y
 gap:∀x∈S,mB x=1\/∃y∈S,byO y=byO x/\mB y+1=mB x
 L3:∀x∈S,∀y∈S,byO x=byO y->mB x+1=mB y->CLt (stO x) (stO y)
 R9:∀x∈S,L8 S x
theorem Cu:D5 []:=⟨fun x h=>qo,fun x h=>qo,fun x h=>qo,fun x h=>qo,fun x h=>qo⟩
theorem D5.congr{S T}(h:D5 S)(e:∀x,x∈S↔x∈T):D5 T:=
 ⟨fun x hx=>h.ok x ((e x).2 hx),fun x hx y hy=>h.one x ((e x).2 hx) y ((e y).2 hy),fun x hx=>(h.gap x ((e x).2 hx)).imp (fun q=>q) (fun ⟨y,hy,q⟩=>⟨y,(e y).1 hy,q⟩),fun x hx y hy=>h.L3 x ((e x).2 hx) y ((e y).2 hy),fun x hx=>(h.R9 x ((e x).2 hx)).mono (fun y hy=>(e y).1 hy)⟩
def Q8(S T:qX):Prop:=∀x∈S,∀y∈T,byO x=byO y->mB x=mB y->x=y
theorem Q8.symm{S T}(h:Q8 S T):Q8 T S:=fun x hx y hy e1 e2=>(h y hy x hx e1.symm e2.symm).symm
theorem Ez{x}(h:mv x=0):1<=mB x:=(mT h).2.2.2.2.1
theorem D5.adp{S T}(hS:D5 S)(hT:D5 T)(hc:Q8 S T):D5 (S++T):=by
 have across:∀ {A B:qX},D5 A->D5 B->Q8 A B->∀x∈A,∀y∈B,byO x=byO y->mB x+1=mB y->CLt (stO x) (stO y):=fun {A B} hA hB hAB x hx y hy e1 e2=>by
  rcases hB.gap y hy with q | ⟨z,hz,z1,z2⟩
  ·have:=Ez (hA.ok x hx);omega
  obtain rfl:=hAB x hx z hz zj zj;exact hB.L3 x hz y hy e1 e2
 refine ⟨fun x hx=> ?_,fun x hx y hy e1 e2=> ?_,fun x hx=> ?_,fun x hx y hy e1 e2=> ?_,fun x hx=> ?_⟩
 ·rcases uV.1 hx with h | h
  ·exact hS.ok x h
  exact hT.ok x h
 ·rcases uV.1 hx with h | h<;>rcases uV.1 hy with k | k
  ·exact hS.one x h y k e1 e2
  ·exact hc x h y k e1 e2
  ·exact hc.symm x h y k e1 e2
  exact hT.one x h y k e1 e2
 ·rcases uV.1 hx with h | h
  ·exact (hS.gap x h).imp (fun q=>q) (fun ⟨y,hy,q⟩=>⟨y,Zm _ hy,q⟩)
  exact (hT.gap x h).imp (fun q=>q) (fun ⟨y,hy,q⟩=>⟨y,ZB _ hy,q⟩)
 ·rcases uV.1 hx with h | h<;>rcases uV.1 hy with k | k
  ·exact hS.L3 x h y k e1 e2
  ·grind
  ·exact across hT hS hc.symm x h y k e1 e2
  exact hT.L3 x h y k e1 e2
 rcases uV.1 hx with h | h
 ·exact (hS.R9 x h).mono (fun y hy=>Zm _ hy)
 exact (hT.R9 x h).mono (fun y hy=>ZB _ hy)
theorem D5.X5{S}(h:D5 S){x}(hx:x∈S):∀(d:Nat) {y:OpX},y∈S->byO x=byO y->mB x+(d+1)=mB y->CLt (stO x) (stO y)
 | 0,y,hy,e1,e2=>h.L3 x hx y hy e1 zj
 | d+1,y,hy,e1,e2=>by
  rcases h.gap y hy with q | ⟨z,hz,z1,z2⟩
  ·have:=Ez (h.ok x hx);omega
  exact wN (h.X5 hx d hz zj zj) (h.L3 z hz y hy z1 z2)
theorem D5.Y{S}(h:D5 S){x y}(hx:x∈S)(hy:y∈S)(e:stO x=stO y):x=y:=by
 have e1:byO x=byO y:=(Prod.mk.inj e).2
 rcases Int.lt_trichotomy (mB x) (mB y) with q | q | q
 ·have:=h.X5 hx (mB y - mB x - 1).toNat hy e1 zj
  grind
 ·exact h.one x hx y hy e1 q
 exact ko4
theorem D5.add{S}(h:D5 S){x}(cU:mv x=0)(hn:mB x=1\/∃y∈S,byO y=byO x/\mB y+1=mB x)(hnew:∀y∈S,byO y=byO x->mB y<mB x)(hst:∀y∈S,CLt (stO y) (stO x))(hr:L8 (x::S) x):D5 (x::S):=by
 have sub:∀y,y∈S->y∈x::S:=fun y hy=>uY _ hy
 refine ⟨fun y hy=> ?_,fun y hy z hz e1 e2=> ?_,fun y hy=> ?_,fun y hy z hz e1 e2=> ?_,fun y hy=> ?_⟩
 ·rcases uX.1 hy with rfl | hy
  ·exact cU
  exact h.ok y hy
 ·rcases uX.1 hy with e | ky<;>rcases uX.1 hz with e' | kz
  ·rw [e,e']
  ·grind
  ·grind
  exact h.one y ky z kz e1 e2
 ·rcases uX.1 hy with e | hy
  ·grind
  exact (h.gap y hy).imp (fun q=>q) (fun ⟨z,hz,q⟩=>⟨z,sub z hz,q⟩)
 ·rcases uX.1 hy with e | ky<;>rcases uX.1 hz with e' | kz
  ·grind
  ·grind
  ·grind
  exact h.L3 y ky z kz e1 e2
 rcases uX.1 hy with e | hy
 ·rw [e];exact hr
 exact (h.R9 y hy).mono sub
structure zdv (n:Nat) (K:Nat->List OpX):Prop where
 G6:∀r,r<n->D5 (K r)
 aba:∀r,r<n->∀s,s<n->Q8 (K r) (K s)
 I8:∀r,r<n->∀s,s<n->∀x∈K r,byO x=(s:Int)->x∈K s
end
section
open Maps
abbrev VA:=Int×Int
abbrev zcV:=VA->Option OpX
def noN:zcV:=fun _=>none
def Me(k:VA):Value:=.agg #[qI k.1,qI k.2]
theorem UT{p q}(h:Me p=Me q):p=q:=by
 grind [Me]
def mJ(x:OpX):Value:=.agg (qVa x)
def lQ:OpX:=(0,0,0,0,0,0,⟨#[]⟩,⟨#[]⟩)
def Ml(x:OpX):DataW Unit:=.agg [.lit (.int .i64 x.1),.lit (.int .i64 x.2.1),.lit (.int .i64 x.2.2.1),.lit (.int .u8 (x.2.2.2.1:Int)),.lit (.int .i64 x.2.2.2.2.1),.lit (.int .i64 x.2.2.2.2.2.1),.lit (.string x.2.2.2.2.2.2.1.data.toList),.lit (.string x.2.2.2.2.2.2.2.data.toList)]
theorem Tp{p q}(h:Ml p=Ml q):p=q:=by
 obtain ⟨t,b,n,k,nd,o,⟨⟨s⟩⟩,⟨⟨v⟩⟩⟩:=p;obtain ⟨t',b',n',k',nd',o',⟨⟨s'⟩⟩,⟨⟨v'⟩⟩⟩:=q
 grind [Ml]
def opL(l:List Value):Option (DataW Unit×List MemPlace):=match l with
 | [.int .i64 t,.int .i64 b,.int .i64 n,.int .u8 k,.int .i64 nd,.int .i64 o,.string s,.string v]=>if 0<=k then some (Ml (t,b,n,k.toNat,nd,o,s,v),[]) else none
 | _=>none
def opR(v:Value):Option (DataW Unit×List MemPlace):=match v with
 | .agg cs=>opL cs.toList
 | _=>none
theorem VI(x):opR (mJ x)=some (Ml x,[]):=by
 simp [opR,mJ,opL]
theorem zaG{l}{z}(h:opL l=some z):∃x:OpX,l=ny x/\z=(Ml x,[]):=by
 unfold opL at h
 grind [ny,Int.toNat_of_nonneg]
theorem XM{v}{z}(h:opR v=some z):∃x,v=mJ x/\z=(Ml x,[]):=by
 unfold opR at h;split at h
 ·rename_i cs;obtain ⟨x,e,rfl⟩:=zaG h;refine ⟨x,?_,rfl⟩;exact congrArg _ (Array.ext' e)
 cases h
def WfN(k:VA):Prop:=(Lit.int .i64 k.1).wf=true/\(Lit.int .i64 k.2).wf=true
def MG(k:VA):Lit:=.string (keyBytes [.int .i64 k.1,.int .i64 k.2])
section
variable {P:Program} {K I:TypeId} {f g:Field}
theorem Tk(hu:P.underlying K=some (.struct #[f,g]))(f1:f.type=I)(f2:f.offset=0)(f3:(f.name != "_")=true)(g1:g.type=I)(g2:g.offset=1)(g3:(g.name != "_")=true)(hI:P.underlying I=some (.int .i64))(cK:P.cellsOf K=2)(cI:P.cellsOf I=1)(hT:P.keyType K=true)(e)(he:P.types.size=e+1){k}(h:WfN k):keyOf P K (Me k)=some (MG k):=by
 obtain ⟨h1,h2⟩:=h
 have hf:(Me k).formed P K=true:=by simp [Value.formed,Me,hu,cK]
 unfold keyOf;rw [hu];dsimp only;rw [hT,hf];simp only [Bool.and_self,if_true];rw [pu hu,he];simp [Me,Value.cells,cK,cI,f1,f2,f3,g1,g2,g3,tN hI,h1,h2,MG]
end
theorem zad:300<prog.types.size:=of_decide_eq_true zk
theorem Ra:(match prog.underlying 300 with | some (.array _ _) | some (.struct _)=>true | _=>false)=true:=zk
theorem lawN:Keyed prog 300:=Keyed.of_law (deep_law_laid VE (m:=2) zj zad zk Ra)
theorem zcj:prog.keyType 300=true:=zk
theorem Qu:prog.cellsOf 300=2:=zk
theorem Eo{k}(h:WfN k):keyOf prog 300 (Me k)=some (MG k):=by
 obtain ⟨e,he⟩:=JI;exact Tk underlying300 rfl rfl zo rfl rfl zo underlying3 Qu CW zcj e he h
theorem PW{a b}(ha:WfN a)(hb:WfN b)(h:a≠b):MG a≠MG b:=fun e=>h (UT (lawN.inj (Eo ha) (by rw [e];exact Eo hb)))
theorem Xi{k} :WideAt.IsKeyLit (MG k):=trivial
theorem zbA{k}(h0: -2^63<=k.1)(h1:k.1<2^63)(h2: -2^63<=k.2)(h3:k.2<2^63):WfN k:=⟨RN h0 h1,RN h2 h3⟩
def U0(D:DataW Unit)(f:zcV):Prop:=∀k,WfN k->match f k with
 | none=>has D (MG k)=false
 | some c=>∀z,D.atKey (MG k) z=Ml c
theorem U0.X9{D}{f}(h:U0 D f){k}(hk:WfN k)(hf:f k=none):has D (MG k)=false:=by
 exact kj8
theorem U0.held{D}{f}(h:U0 D f){k}(hk:WfN k){c}(hf:f k=some c)(z):D.atKey (MG k) z=Ml c:=by
 exact kj8
theorem U0.has{D}{f}(h:U0 D f){k}(hk:WfN k):Maps.has D (MG k)=(f k).isSome:=by
 cases hf:f k with
 | none=>rw [h.X9 hk hf];rfl
 | some p=>rw [has_true_of_atKey (h.held hk hf)];rfl
theorem U0.at{D}{f}(h:U0 D f){k}(hk:WfN k):D.atKey (MG k) (Ml lQ)=Ml ((f k).getD lQ):=by
 cases hf:f k with
 | none=>rw [atKey_of_not_has (h.X9 hk hf)];rfl
 | some p=>rw [h.held hk hf];rfl
theorem Kc{D}{f}(h:U0 D f)(hD:IsMap D){k}(hk:WfN k)(c):U0 (D.put (MG k) (Ml c)) (fun x=>if x=k then some c else f x):=by
 intro x hx;dsimp only;by_cases e:x=k
 ·simp_all [if_pos,atKey_put_same,Xi]
 rw [if_neg e]
 cases hf:f x with
 | none=>rw [has_put_other (PW hx hk e)];exact h.X9 hx hf
 | some q=>intro z;rw [atKey_put_other (PW hx hk e)];exact h.held hx hf z
def K9(w:qW)(b n:Nat)(f:zcV):Prop:=∃D,w.ownsMap prog 300 opR b n D/\U0 D f
theorem K9.lt{w}{b n}{f}(h:K9 w b n f):b<w.heap.size:=by
 obtain ⟨D,h,_⟩:=h;exact h.lt
theorem K9.same{w w'}{b n}{f}(h:K9 w b n f)(e:w'.heap[b]? =w.heap[b]?):K9 w' b n f:=by
 exact kn4
theorem If(w:qW):K9 (w.alloc (.map #[] 0)) w.heap.size 0 noN:=
 ⟨_,YT w prog 300 opR,fun _ _=>rfl⟩
theorem zb2(w):(zeroValue 88).run prog w= .ok (mJ lQ) w:=zeroValue88 w
theorem K9.F{w}{b n}{f}(h:K9 w b n f){k}(hk:WfN k):
  (Instr.lookup 297 (.map (some b)) (Me k) true).run prog w= .ok (.tuple #[mJ ((f k).getD lQ),.bool (f k).isSome]) w:=by
 obtain ⟨D,h,r⟩:=h;obtain ⟨v,ps,ae,hv⟩:=h.look_ok lawN underlying297 (zb2 w) (VI lQ) (Eo hk);obtain ⟨p,rfl,hp⟩:=XM hv;rw [r.at hk,Prod.mk.injEq] at hp;rw [ae,r.has hk,Tp hp.1]
theorem K9.store{w}{b n}{f}(h:K9 w b n f)(hn:n<maxLen){k}(hk:WfN k)(c):
  ∃w',(Instr.mapUpdate 297 (.map (some b)) (Me k) (mJ c)).run prog w= .ok () w'/\K9 w' b (n+1) (fun x=>if x=k then some c else f x)/\w.mapTurned w' b:=by
 obtain ⟨D,h,r⟩:=h;obtain ⟨w',ae,h',ht⟩:=h.store lawN underlying297 hn (Eo hk) (VI c);exact ⟨w',ae,⟨_,h',Kc r h.isMap hk c⟩,ht⟩
end