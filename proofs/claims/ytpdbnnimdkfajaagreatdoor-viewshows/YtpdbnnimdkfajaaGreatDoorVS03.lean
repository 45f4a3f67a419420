import Derived.Test.YtpdbnnimdkfajaaGreatDoorMacA
import Derived.Sort.LotA
import Derived.Test.YtpdbnnimdkfajaaGreatDoorProg
import Derived.BigQuiet
import Derived.WalkSmall
set_option linter.unusedSimpArgs false
set_option linter.unusedVariables false
set_option maxHeartbeats 64000000
namespace Go.Proofs.YtpdbnnimdkfajaaGreatDoor
open Go.Proofs.Tryz
variable {D:DataW Unit} {z:DataW Unit×List MemPlace} {k x:Int} {a s:Int×Int} {vs xs:List Value} {B cap g i j n:Nat} {P:Program} {E:TypeId} {v:Value} {c w w':World}
section
abbrev Plc:=Int×Int×ByteArray
abbrev Sta:=Int->Option Plc
abbrev Mov:=(Int×Int)×Plc
def zeroP:Plc:=(0,0,⟨#[]⟩)
def noSta:Sta:=fun _=>none
def insF (f:Sta):Nat->Int->Int->Bool
 | 0,_,_=>false
 | n+1,node,of=>match f node with
  | none=>false
  | some p=>decide (p.2.1=of) ||insF f n p.2.1 of
def Ins (f:Sta) (node of:Int):Prop:=∃n,insF f n node of=true
theorem insF_none {f:Sta} {node:Int} (h:f node=none) (n:Nat) (of:Int):insF f n node of=false:=by
 cases n<;>simp [insF,h]
theorem insF_some {f:Sta} {node:Int} {p:Plc} (h:f node=some p) (n:Nat) (of:Int):insF f (n+1) node of=(decide (p.2.1=of) ||insF f n p.2.1 of):=by
 simp [insF,h]
theorem insF_succ (f:Sta):∀(n:Nat) (node of:Int),insF f n node of=true->insF f (n+1) node of=true
 | 0,_,_,h=>by simp [insF] at h
 | n+1,node,of,h=>by
  cases hf:f node with
  | none=>rw [insF_none hf] at h;cases h
  | some p=>
   rw [insF_some hf] at h |-
   rw [uI] at h |-
   exact h.imp id (insF_succ f n _ _)
theorem ins_none {f:Sta} {node of:Int} (h:f node=none):¬Ins f node of:=by
 rintro ⟨n,hn⟩
 rw [insF_none h] at hn
 cases hn
theorem ins_some {f:Sta} {node of:Int} {p:Plc} (h:f node=some p):Ins f node of↔p.2.1=of\/Ins f p.2.1 of:=by
 constructor
 ·rintro ⟨n,hn⟩
  cases n with
  | zero=>simp [insF] at hn
  | succ n=>
   rw [insF_some h,uI] at hn
   exact hn.imp zm (fun e=>⟨n,e⟩)
 rintro (e | ⟨n,hn⟩)
 ·exact ⟨1,by rw [insF_some h];simp [e]⟩
 exact ⟨n+1,by rw [insF_some h,hn];simp⟩
def Ranked (f:Sta) (d:Int->Nat):Prop:=∀k p,f k=some p->d p.2.1<d k
theorem ins_up {f:Sta} {y:Int} {p:Plc} (h:f x=some p) (hy:p.2.1=y\/Ins f p.2.1 y):Ins f x y:=(ins_some h).2 hy
def upd (f:Sta) (k:Int) (v:Option Plc):Sta:=fun x=>if x=k then v else f x
theorem upd_same (f:Sta) (k:Int) (v:Option Plc):upd f k v k=v:=by simp [upd]
theorem upd_other {f:Sta} {v:Option Plc} (h:x≠k):upd f k v x=f x:=by simp [upd,h]
structure FineP (p:Plc):Prop where
 ne:p.1≠0
 lo:0<=p.1
 hi:p.1<2^62
 lo':0<=p.2.1
 hi':p.2.1<2^62
 sz:p.2.2.size<=60
theorem FineP.ne_zero {p:Plc} (h:FineP p):p≠zeroP:=fun e=>h.ne qF
structure Good (f:Sta):Prop where
 rank:∃d,Ranked f d
 key:∀k p,f k=some p->p.1=k
 fine:∀k p,f k=some p->FineP p
theorem good_no:Good noSta:=⟨⟨fun _=>0,fun k p h=>xh⟩,fun k p h=>xh,fun k p h=>xh⟩
def Idle (f:Sta) (p:Plc):Prop:=p.1=p.2.1\/Ins f p.2.1 p.1
def step [∀(f:Sta) (p:Plc),Decidable (Idle f p)] (f:Sta) (m:Mov):Sta:=if Idle f m.2 then f else upd f m.2.1 (some m.2)
open scoped Classical
theorem step_idle {f:Sta} {m:Mov} (h:Idle f m.2):step f m=f:=by unfold step;rw [if_pos h]
theorem step_goes {f:Sta} {m:Mov} (h:¬Idle f m.2):step f m=upd f m.2.1 (some m.2):=by unfold step;rw [if_neg h]
theorem step_other {f:Sta} {m:Mov} (h:x≠m.2.1):step f m x=f x:=by
 by_cases hi:Idle f m.2
 ·rw [step_idle hi]
 rw [step_goes hi,upd_other h]
theorem good_step {f:Sta} {m:Mov} (G:Good f) (hm:FineP m.2):Good (step f m):=by
 by_cases hi:Idle f m.2
 ·rw [step_idle hi];exact G
 rw [step_goes hi]
 obtain ⟨s,c,q,nm⟩:=m
 dsimp only at hi hm |-
 have hcq:c≠q:=fun e=>hi (.inl e)
 have hqc:¬Ins f q c:=fun e=>hi (.inr e)
 refine ⟨?_,fun k p h=> ?_,fun k p h=> ?_⟩
 ·obtain ⟨d,hd⟩:=G.rank
  classical
  refine ⟨fun x=>if x=c\/Ins f x c then d x+d q+1 else d x,fun k p h=> ?_⟩
  by_cases hk:k=c
  ·subst hk
   rw [upd_same] at h
   cases h
   dsimp only
   rw [if_neg (fun e=>e.elim (fun e=>hcq e.symm) hqc),if_pos (.inl rfl)]
   omega
  rw [upd_other hk] at h
  have h1:=hd k p h
  dsimp only
  by_cases hp:p.2.1=c\/Ins f p.2.1 c
  ·rw [if_pos hp,if_pos (.inr (ins_up h hp))]
   omega
  rw [if_neg hp]
  split<;>omega
 ·by_cases hk:k=c
  ·subst hk;rw [upd_same] at h;cases h;rfl
  rw [upd_other hk] at h;exact G.key k p h
 by_cases hk:k=c
 ·subst hk;rw [upd_same] at h;cases h;exact hm
 rw [upd_other hk] at h;exact G.fine k p h
def undo (f:Sta) (node:Int) (fr:Plc):Sta:=upd f node (if fr=zeroP then none else some fr)
theorem undo_step {f:Sta} {m:Mov} (G:Good f):undo (step f m) m.2.1 ((f m.2.1).getD zeroP)=f:=by
 funext x
 unfold undo
 by_cases hx:x=m.2.1
 ·subst hx
  rw [upd_same]
  cases h:f m.2.1 with
  | none=>simp
  | some p=>
   rw [uC,if_neg (G.fine _ p h).ne_zero]
 rw [upd_other hx,step_other hx]
def foldS [∀(f:Sta) (p:Plc),Decidable (Idle f p)] (f:Sta) (ms:List Mov):Sta:=ms.foldl step f
theorem foldS_snoc (f:Sta) (ms:List Mov) (m:Mov):foldS f (ms++ [m])=step (foldS f ms) m:=by simp [foldS]
theorem good_fold:∀(ms:List Mov) (f:Sta),Good f->(∀m∈ms,FineP m.2)->Good (foldS f ms)
 | [],_,G,_=>G
 | m::r,f,G,h=>good_fold r (step f m) (good_step G (h m zm)) (fun x hx=>h x (by simp [hx]))
def madeBy [∀(f:Sta) (p:Plc),Decidable (Idle f p)] (ms:List Mov):Sta:=foldS noSta ms
theorem good_made {ms:List Mov} (h:∀m∈ms,FineP m.2):Good (madeBy ms):=good_fold ms _ good_no h
theorem made_snoc (ms:List Mov) (m:Mov):madeBy (ms++ [m])=step (madeBy ms) m:=foldS_snoc _ _ _
theorem made_take {ms:List Mov} {m:Mov} (h:ms[i]? =some m):madeBy (ms.take (i+1))=step (madeBy (ms.take i)) m:=by
 rw [jL,h]
 exact made_snoc _ _
def fromAt [∀(f:Sta) (p:Plc),Decidable (Idle f p)] (ms:List Mov) (i:Nat):Plc:=match ms[i]? with
 | none=>zeroP
 | some m=>(madeBy (ms.take i) m.2.1).getD zeroP
def SLt (a b:Int×Int):Prop:=a.1<b.1\/(a.1=b.1/\a.2<b.2)
theorem slt_irrefl :¬SLt a a:=by unfold SLt;omega
theorem slt_trans {b c:Int×Int} (h:SLt a b) (k:SLt b c):SLt a c:=by unfold SLt at*;omega
theorem slt_total {b:Int×Int} (h:a≠b) (k:¬SLt a b):SLt b a:=by
 obtain ⟨a1,a2⟩:=a
 obtain ⟨b1,b2⟩:=b
 have:¬(a1=b1/\a2=b2):=fun e=>h (by rw [e.1,e.2])
 unfold SLt at*
 dsimp only at*
 omega
def ByStamp (ms:List Mov):Prop:=ms.Pairwise (fun a b=>SLt a.1 b.1)
def insAt (ms:List Mov) (i:Nat) (m:Mov):List Mov:=ms.take i++m::ms.drop i
theorem insAt_perm (ms:List Mov) (i:Nat) (m:Mov):(insAt ms i m).Perm (m::ms):=by
 unfold insAt
 have h1:(ms.take i++m::ms.drop i).Perm (m::(ms.take i++ms.drop i)):=uB
 rwa [jH] at h1
theorem insAt_length (ms:List Mov) (i:Nat) (m:Mov):(insAt ms i m).length=ms.length+1:=by
 rw [(insAt_perm ms i m).length_eq];rfl
theorem insAt_by {ms:List Mov} {m:Mov} (h:ByStamp ms) (h1:∀x∈ms.take i,SLt x.1 m.1) (h2:∀x∈ms.drop i,SLt m.1 x.1):ByStamp (insAt ms i m):=by
 unfold ByStamp insAt
 rw [jW]
 refine ⟨h.sublist (List.take_sublist _ _),jB.2 ⟨h2,h.sublist (List.drop_sublist _ _)⟩,fun a ha b hb=> ?_⟩
 rcases jn.1 hb with rfl | hb
 ·exact h1 a ha
 exact slt_trans (h1 a ha) (h2 b hb)
theorem insAt_take {ms:List Mov} {m:Mov} (hi:i<=ms.length):(insAt ms i m).take i=ms.take i:=by
 unfold insAt
 rw [vu zk,List.take_take,Nat.min_self]
theorem byStamp_unique:∀ {l l':List Mov},l.Perm l'->ByStamp l->ByStamp l'->l=l'
 | [],l',hp,_,_=>by have:=hp.length_eq;cases l' with | nil=>rfl | cons _ _=>simp at this
 | a::r,[],hp,_,_=>by have:=hp.length_eq;simp at this
 | a::r,b::r',hp,h,h'=>by
  obtain ⟨h1,h2⟩:=jB.1 h
  obtain ⟨h1',h2'⟩:=jB.1 h'
  have e:a=b:=by
   rcases jn.1 (hp.mem_iff.1 (jM (a:=a) (l:=r))) with e | ha
   ·exact e
   rcases jn.1 (hp.mem_iff.2 (jM (a:=b) (l:=r'))) with e | hb
   ·exact e.symm
   exact absurd (slt_trans (h1 b hb) (h1' a ha)) slt_irrefl
  subst e
  rw [byStamp_unique (List.perm_cons a |>.1 hp) h2 h2']
structure IsPlaces (f:Sta) (L:List Plc):Prop where
 rise:L.Pairwise (fun a b=>a.1<b.1)
 mem:∀p,p∈L↔f p.1=some p
theorem places_unique:∀ {L L':List Plc},L.Pairwise (fun a b=>a.1<b.1)->L'.Pairwise (fun a b=>a.1<b.1)->(∀p,p∈L↔p∈L')->L=L'
 | [],[],_,_,_=>rfl
 | [],b::r',_,_,h=>qg
 | a::r,[],_,_,h=>qd
 | a::r,b::r',hl,hl',h=>by
  obtain ⟨h1,h2⟩:=jB.1 hl
  obtain ⟨h1',h2'⟩:=jB.1 hl'
  have e:a=b:=by
   rcases jn.1 ((h a).1 zm) with e | ha
   ·exact e
   rcases jn.1 ((h b).2 zm) with e | hb
   ·exact e.symm
   have x:=h1 b hb;have y:=h1' a ha;omega
  subst e
  rw [places_unique h2 h2' (fun p=> ?_)]
  constructor
  ·intro hp
   rcases jn.1 ((h p).1 yK) with e | hp'
   ·subst e;have:=h1 p hp;omega
   exact hp'
  intro hp
  rcases jn.1 ((h p).2 yK) with e | hp'
  ·subst e;have:=h1' p hp;omega
  exact hp'
theorem IsPlaces.unique {f:Sta} {L L':List Plc} (h:IsPlaces f L) (h':IsPlaces f L'):L=L':=
 places_unique h.rise h'.rise (fun p=>(h.mem p).trans (h'.mem p).symm)
end
section
open Go Go.Maps
def cellsP (p:Plc):List Value:=[.int .i64 p.1,.int .i64 p.2.1,.string p.2.2]
def encP (p:Plc):Value:=.agg #[.int .i64 p.1,.int .i64 p.2.1,.string p.2.2]
theorem encP_inj {p q:Plc} (h:encP p=encP q):p=q:=by
 obtain ⟨a,b,s⟩:=p
 obtain ⟨a',b',s'⟩:=q
 simp [encP] at h
 obtain ⟨rfl,rfl,rfl⟩:=h
 rfl
def dat (p:Plc):DataW Unit:=.agg [.lit (.int .i64 p.1),.lit (.int .i64 p.2.1),.lit (.string p.2.2.data.toList)]
theorem dat_inj {p q:Plc} (h:dat p=dat q):p=q:=by
 obtain ⟨a,b,⟨⟨s⟩⟩⟩:=p
 obtain ⟨a',b',⟨⟨s'⟩⟩⟩:=q
 simp [dat] at h
 obtain ⟨rfl,rfl,rfl⟩:=h
 rfl
def plcL (l:List Value):Option (DataW Unit×List MemPlace):=match l with
 | [.int .i64 a,.int .i64 b,.string s]=>some (dat (a,b,s),[])
 | _=>none
def plcR (v:Value):Option (DataW Unit×List MemPlace):=match v with
 | .agg cs=>plcL cs.toList
 | _=>none
theorem plcR_mk (p:Plc):plcR (encP p)=some (dat p,[]):=rfl
theorem plcL_inv {l:List Value} (h:plcL l=some z):∃p:Plc,l= [.int .i64 p.1,.int .i64 p.2.1,.string p.2.2]/\z=(dat p,[]):=by
 unfold plcL at h
 split at h
 ·rename_i a b s
  cases h
  exact ⟨(a,b,s),rfl,rfl⟩
 cases h
theorem plcR_inv (h:plcR v=some z):∃p,v=encP p/\z=(dat p,[]):=by
 unfold plcR at h
 split at h
 ·rename_i cs
  obtain ⟨p,e,rfl⟩:=plcL_inv h
  refine ⟨p,?_,rfl⟩
  unfold encP
  rw [<-e]
 cases h
def Wf (k:Int):Prop:=(Lit.int .i64 k).wf=true
theorem wf_of (h0: -2^63<=k) (h1:k<2^63):Wf k:=by
 unfold Wf
 have e1:IntKind.i64.min= -2^63:=zo
 have e2:IntKind.i64.max=2^63 - 1:=zo
 simp only [Lit.wf,e1,e2,vK,decide_eq_true_eq]
 omega
theorem wf_fine {p:Plc} (h:FineP p):Wf p.1/\Wf p.2.1:=by
 have h1:=h.lo;have h2:=h.hi;have h3:=h.lo';have h4:=h.hi'
 exact ⟨wf_of zi zi,wf_of zi zi⟩
theorem wf_key {f:Sta} (G:Good f) {p:Plc} (h:f k=some p):Wf k:=by
 have:=(wf_fine (G.fine k p h)).1
 rwa [G.key k p h] at this
def ReadsAs (D:DataW Unit) (f:Sta):Prop:=∀k,Wf k->match f k with
 | none=>has D (.int .i64 k)=false
 | some p=>∀z,D.atKey (.int .i64 k) z=dat p
theorem ReadsAs.none {f:Sta} (h:ReadsAs D f) (hk:Wf k) (hf:f k=none):has D (.int .i64 k)=false:=by
 have:=h k hk;rw [hf] at this;exact this
theorem ReadsAs.some {f:Sta} (h:ReadsAs D f) (hk:Wf k) {p:Plc} (hf:f k=some p) (z:DataW Unit):D.atKey (.int .i64 k) z=dat p:=by
 have:=h k hk;rw [hf] at this;exact this z
theorem ReadsAs.has {D:DataW Unit} {f:Sta} (h:ReadsAs D f) {k:Int} (hk:Wf k):Maps.has D (.int .i64 k)=(f k).isSome:=by
 cases hf:f k with
 | none=>rw [h.none hk hf];rfl
 | some p=>rw [has_true_of_atKey (h.some hk hf)];rfl
theorem ReadsAs.at {f:Sta} (h:ReadsAs D f) (hk:Wf k):D.atKey (.int .i64 k) (dat zeroP)=dat ((f k).getD zeroP):=by
 cases hf:f k with
 | none=>rw [atKey_of_not_has (h.none hk hf)];rfl
 | some p=>rw [h.some hk hf];rfl
theorem lit_ne {a b:Int} (h:a≠b):Lit.int .i64 a≠Lit.int .i64 b:=fun e=>h (by injection e)
section
variable {P:Program} {K E T:TypeId}
def MapAt (P:Program) (K:TypeId) (w:World) (b n:Nat) (f:Sta):Prop:=∃D,w.ownsMap P K plcR b n D/\ReadsAs D f
theorem MapAt.lt {w:World} {b n:Nat} {f:Sta} (h:MapAt P K w b n f):b<w.heap.size:=by
 obtain ⟨D,h,_⟩:=h;exact h.lt
theorem MapAt.mono {w:World} {b n n':Nat} {f:Sta} (h:MapAt P K w b n f) (hn:n<=n'):MapAt P K w b n' f:=by
 obtain ⟨D,h,r⟩:=h;exact ⟨D,h.mono hn,r⟩
theorem MapAt.same {b:Nat} {f:Sta} (h:MapAt P K w b n f) (e:w'.heap[b]? =w.heap[b]?):MapAt P K w' b n f:=by
 obtain ⟨D,⟨es,clock,hb,F⟩,r⟩:=h
 exact ⟨D,⟨es,clock,e.trans hb,F⟩,r⟩
theorem MapAt.block {b:Nat} {f:Sta} (h:MapAt P K w b n f):∃es clock,w.heap[b]? =some (.map es clock):=by
 obtain ⟨D,⟨es,clock,hb,F⟩,r⟩:=h
 exact ⟨es,clock,hb⟩
theorem mapAt_made (w:World):MapAt P K (w.alloc (.map #[] 0)) w.heap.size 0 noSta:=
 ⟨_,World.ownsMap_made w P K plcR,fun _ _=>rfl⟩
theorem MapAt.look {b:Nat} {f:Sta} (h:MapAt P K w b n f) (hK:P.underlying K=some (.int .i64)) (hT:P.underlying T=some (.map K E)) (hz:(zeroValue E).run P w= .ok (encP zeroP) w) (hk:Wf k):
  (Instr.lookup T (.map (some b)) (.int .i64 k) true).run P w= .ok (.tuple #[encP ((f k).getD zeroP),.bool (f k).isSome]) w:=by
 obtain ⟨D,h,r⟩:=h
 obtain ⟨v,ps,hrun,hv⟩:=h.look_ok (int_keyed hK) hT hz (plcR_mk zeroP) (keyOf_int_mk hK hk)
 obtain ⟨p,rfl,hp⟩:=plcR_inv hv
 rw [r.at hk,Prod.mk.injEq] at hp
 rw [hrun,r.has hk,dat_inj hp.1]
theorem MapAt.look1 {b:Nat} {f:Sta} (h:MapAt P K w b n f) (hK:P.underlying K=some (.int .i64)) (hT:P.underlying T=some (.map K E)) (hz:(zeroValue E).run P w= .ok (encP zeroP) w) (hk:Wf k):
  (Instr.lookup T (.map (some b)) (.int .i64 k) false).run P w= .ok (encP ((f k).getD zeroP)) w:=by
 obtain ⟨D,h,r⟩:=h
 obtain ⟨v,ps,hrun,hv⟩:=h.lookup (int_keyed hK) hT hz (plcR_mk zeroP) (keyOf_int_mk hK hk)
 obtain ⟨p,rfl,hp⟩:=plcR_inv hv
 rw [r.at hk,Prod.mk.injEq] at hp
 rw [hrun,dat_inj hp.1]
theorem reads_put {f:Sta} (h:ReadsAs D f) (hD:IsMap D) (k:Int) (p:Plc):ReadsAs (D.put (.int .i64 k) (dat p)) (upd f k (some p)):=by
 intro x hx
 by_cases e:x=k
 ·subst e
  rw [upd_same]
  exact fun z=>atKey_put_same hD (show WideAt.IsKeyLit (.int .i64 x) from trivial) _ _
 rw [upd_other e]
 cases hf:f x with
 | none=>rw [has_put_other (lit_ne e)];exact h.none hx hf
 | some q=>intro z;rw [atKey_put_other (lit_ne e)];exact h.some hx hf z
theorem reads_del {f:Sta} (h:ReadsAs D f) (k:Int):ReadsAs (D.del (.int .i64 k)) (upd f k none):=by
 intro x hx
 by_cases e:x=k
 ·subst e
  rw [upd_same]
  exact has_del_same
 rw [upd_other e]
 cases hf:f x with
 | none=>rw [has_del_other (lit_ne e)];exact h.none hx hf
 | some q=>intro z;rw [atKey_del_other (lit_ne e)];exact h.some hx hf z
theorem MapAt.store {w:World} {b n:Nat} {f:Sta} (h:MapAt P K w b n f) (hK:P.underlying K=some (.int .i64)) (hT:P.underlying T=some (.map K E)) (hn:n<maxLen) {k:Int} (hk:Wf k) (p:Plc):
  ∃w',(Instr.mapUpdate T (.map (some b)) (.int .i64 k) (encP p)).run P w= .ok () w'/\MapAt P K w' b (n+1) (upd f k (some p))/\w.mapTurned w' b:=by
 obtain ⟨D,h,r⟩:=h
 obtain ⟨w',hrun,h',ht⟩:=h.store (int_keyed hK) hT hn (keyOf_int_mk hK hk) (plcR_mk p)
 exact ⟨w',hrun,⟨_,h',reads_put r h.isMap k p⟩,ht⟩
theorem MapAt.drop {w:World} {b n:Nat} {f:Sta} (h:MapAt P K w b n f) (hK:P.underlying K=some (.int .i64)) (hT:P.underlying T=some (.map K E)) {k:Int} (hk:Wf k) (ty:TypeId):
  ∃w',(Builtin.delete_ #[T,K] ty #[.map (some b),.int .i64 k]).run P w= .ok (.tuple #[]) w'/\MapAt P K w' b n (upd f k none)/\w.mapTurned w' b:=by
 obtain ⟨D,h,r⟩:=h
 obtain ⟨w',hrun,h',ht⟩:=h.drop (int_keyed hK) hT (keyOf_int_mk hK hk) ty
 exact ⟨w',hrun,⟨_,h',reads_del r k⟩,ht⟩
end
end
section
open scoped Classical
abbrev Ent:=Mov×Plc
structure LogTo (ms:List Mov) (i:Nat) (L:List Ent):Prop where
 movs:L.map (·.1)=ms
 from_:∀j x,j<i->L[j]? =some x->x.2=fromAt ms j
theorem LogTo.len {ms:List Mov} {L:List Ent} (h:LogTo ms i L):L.length=ms.length:=by rw [<-h.movs];simp
theorem LogTo.mov {ms:List Mov} {L:List Ent} (h:LogTo ms i L) {x:Ent} (hx:L[j]? =some x):ms[j]? =some x.1:=by rw [<-h.movs];simp [hx]
theorem LogTo.mono {ms:List Mov} {L:List Ent} (h:LogTo ms i L) (hj:j<=i):LogTo ms j L:=⟨h.movs,fun k x hk hx=>h.from_ k x zi hx⟩
theorem logTo_nil:LogTo [] 0 []:=⟨rfl,fun _ _ h=>zi⟩
theorem fromAt_some {ms:List Mov} {m:Mov} (h:ms[i]? =some m):fromAt ms i=(madeBy (ms.take i) m.2.1).getD zeroP:=by unfold fromAt;rw [h]
theorem fromAt_congr {ms ms':List Mov} (h:ms.take (i+1)=ms'.take (i+1)):fromAt ms i=fromAt ms' i:=by
 have h1:ms[i]? =ms'[i]? :=by
  have e1:(ms.take (i+1))[i]? =ms[i]? :=by rw [vI,if_pos zi]
  have e2:(ms'.take (i+1))[i]? =ms'[i]? :=by rw [vI,if_pos zi]
  rw [<-e1,<-e2,h]
 have h2:ms.take i=ms'.take i:=by
  have e1:(ms.take (i+1)).take i=ms.take i:=qC
  have e2:(ms'.take (i+1)).take i=ms'.take i:=qC
  rw [<-e1,<-e2,h]
 unfold fromAt
 rw [h1,h2]
def layIn (L:List Ent) (i:Nat) (x:Ent):List Ent:=L.take i++x::L.drop i
theorem layIn_to {ms:List Mov} {L:List Ent} {m:Mov} (h:LogTo ms ms.length L) (hi:i<=ms.length) (fr:Plc):LogTo (insAt ms i m) i (layIn L i (m,fr)):=by
 refine ⟨?_,fun j x hj hx=> ?_⟩
 ·unfold layIn insAt
  simp [<-h.movs,List.map_take,List.map_drop]
 have hx':L[j]? =some x:=by
  unfold layIn at hx
  rwa [vD (by simp;have:=h.len;omega),vI,if_pos hj] at hx
 rw [h.from_ j x zi hx']
 refine fromAt_congr ?_
 unfold insAt
 rw [vu zk,List.take_take]
 congr 1
 omega
theorem set_to {ms:List Mov} {L:List Ent} {x:Ent} (h:LogTo ms i L) (hx:L[i]? =some x):LogTo ms (i+1) (L.set i (x.1,fromAt ms i)):=by
 refine ⟨?_,fun j y hj hy=> ?_⟩
 ·rw [<-h.movs,List.map_set]
  apply List.ext_getElem?
  intro j
  by_cases e:j=i
  ·subst e
   have hl:=(jh.1 hx).1
   rw [vB xn]
   simp [hx]
  rw [uh zi]
 by_cases e:j=i
 ·subst e
  rw [vB (jh.1 hx).1] at hy
  cases hy
  rfl
 rw [uh zi] at hy
 exact h.from_ j y zi hy
def Found (ms:List Mov) (s:Int×Int) (i:Nat) (b:Bool):Prop:=
 (b=true/\∃m,ms[i]? =some m/\m.1=s)\/(b=false/\i<=ms.length/\(∀x∈ms.take i,SLt x.1 s)/\∀x∈ms.drop i,SLt s x.1)
def Later (ms:List Mov) (s:Int×Int) (i:Nat):Prop:=∀x∈ms.drop i,SLt s x.1
theorem later_end (ms:List Mov) (s:Int×Int):Later ms s ms.length:=fun x hx=>yy
theorem found_same {ms:List Mov} {m:Mov} (h:ms[i]? =some m) (e:m.1=s):Found ms s i true:=.inl ⟨rfl,m,h,e⟩
theorem found_less {ms:List Mov} {m:Mov} (hb:ByStamp ms) (hl:Later ms s (i+1)) (h:ms[i]? =some m) (e:SLt m.1 s):Found ms s (i+1) false:=by
 have hi:=(jh.1 h).1
 refine .inr ⟨rfl,zi,fun x hx=> ?_,hl⟩
 rw [jL,h] at hx
 rcases ju.1 hx with hx | hx
 ·refine slt_trans ?_ e
  have hp:(ms.take i++ms.drop i).Pairwise (fun a b=>SLt a.1 b.1):=by rw [jH];exact hb
  refine (jW.1 hp).2.2 x hx m ?_
  rw [vN]
  exact ⟨0,by rw [vg,vk,h]⟩
 simp at hx
 rw [hx];exact e
theorem later_step {ms:List Mov} {m:Mov} (hl:Later ms s (i+1)) (h:ms[i]? =some m) (ne:m.1≠s) (nl:¬SLt m.1 s):Later ms s i:=by
 intro x hx
 have hi:=(jh.1 h)
 rw [jZ hi.1] at hx
 rcases jn.1 hx with rfl | hx
 ·rw [hi.2];exact slt_total ne nl
 exact hl x hx
theorem found_first {ms:List Mov} (hl:Later ms s 0):Found ms s 0 false:=.inr ⟨rfl,js _,fun x hx=>yy,hl⟩
theorem found_new {ms:List Mov} {b:Bool} (h:Found ms s i b) (hn:∀m∈ms,m.1≠s):b=false/\i<=ms.length/\(∀x∈ms.take i,SLt x.1 s)/\∀x∈ms.drop i,SLt s x.1:=by
 rcases h with ⟨_,m,hm,e⟩ | h
 ·exact absurd e (hn m (jm hm))
 exact h
end
section
open Go Go.Maps
abbrev TSta:=Int->Option Nat
def noT:TSta:=fun _=>none
def encT_ (p:Option Nat):Value:=.pointer (p.map fun b=>⟨b,0,none⟩)
def datT (p:Option Nat):DataW Unit:=match p with
 | none=>.agg []
 | some b=>.agg [.lit (.int .i64 (b:Int))]
theorem datT_inj {p q:Option Nat} (h:datT p=datT q):p=q:=by
 cases p<;>cases q<;>simp [datT] at h |-
 omega
def ptrR (v:Value):Option (DataW Unit×List MemPlace):=match v with
 | .pointer none=>some (datT none,[])
 | .pointer (some ⟨b,0,none⟩)=>some (datT (some b),[])
 | _=>none
theorem ptrR_mk (p:Option Nat):ptrR (encT_ p)=some (datT p,[]):=by cases p<;>rfl
theorem ptrR_inv (h:ptrR v=some z):∃p,v=encT_ p/\z=(datT p,[]):=by
 unfold ptrR at h
 split at h
 ·cases h;exact ⟨none,rfl,rfl⟩
 ·cases h;exact ⟨some _,rfl,rfl⟩
 cases h
def ReadsT (D:DataW Unit) (f:TSta):Prop:=∀k,Wf k->match f k with
 | none=>has D (.int .i64 k)=false
 | some p=>∀z,D.atKey (.int .i64 k) z=datT (some p)
theorem ReadsT.gone {f:TSta} (h:ReadsT D f) (hk:Wf k) (hf:f k=none):has D (.int .i64 k)=false:=by
 have:=h k hk;rw [hf] at this;exact this
theorem ReadsT.held {f:TSta} (h:ReadsT D f) (hk:Wf k) {p:Nat} (hf:f k=some p) (z:DataW Unit):D.atKey (.int .i64 k) z=datT (some p):=by
 have:=h k hk;rw [hf] at this;exact this z
theorem ReadsT.has {D:DataW Unit} {f:TSta} (h:ReadsT D f) {k:Int} (hk:Wf k):Maps.has D (.int .i64 k)=(f k).isSome:=by
 cases hf:f k with
 | none=>rw [h.gone hk hf];rfl
 | some p=>rw [has_true_of_atKey (h.held hk hf)];rfl
theorem ReadsT.at {f:TSta} (h:ReadsT D f) (hk:Wf k):D.atKey (.int .i64 k) (datT none)=datT (f k):=by
 cases hf:f k with
 | none=>rw [atKey_of_not_has (h.gone hk hf)]
 | some p=>rw [h.held hk hf]
theorem readsT_put {f:TSta} (h:ReadsT D f) (hD:IsMap D) (k:Int) (p:Nat):ReadsT (D.put (.int .i64 k) (datT (some p))) (fun x=>if x=k then some p else f x):=by
 intro x hx
 dsimp only
 by_cases e:x=k
 ·subst e
  rw [if_pos rfl]
  exact fun z=>atKey_put_same hD (show WideAt.IsKeyLit (.int .i64 x) from trivial) _ _
 rw [if_neg e]
 cases hf:f x with
 | none=>rw [has_put_other (lit_ne e)];exact h.gone hx hf
 | some q=>intro z;rw [atKey_put_other (lit_ne e)];exact h.held hx hf z
def GoodT (f:TSta):Prop:=∀k p,f k=some p->Wf k
structure TMapAt (w:World) (b n:Nat) (f:TSta):Prop where
 reads:∃D,w.ownsMap prog 3 ptrR b n D/\ReadsT D f
 good:GoodT f
theorem TMapAt.lt {w:World} {b n:Nat} {f:TSta} (h:TMapAt w b n f):b<w.heap.size:=by
 obtain ⟨D,h,_⟩:=h.reads;exact h.lt
theorem TMapAt.mono {w:World} {b n n':Nat} {f:TSta} (h:TMapAt w b n f) (hn:n<=n'):TMapAt w b n' f:=by
 obtain ⟨⟨D,h,r⟩,g⟩:=h;exact ⟨⟨D,h.mono hn,r⟩,g⟩
theorem TMapAt.same {b:Nat} {f:TSta} (h:TMapAt w b n f) (e:w'.heap[b]? =w.heap[b]?):TMapAt w' b n f:=by
 obtain ⟨⟨D,⟨es,clock,hb,F⟩,r⟩,g⟩:=h
 exact ⟨⟨D,⟨es,clock,e.trans hb,F⟩,r⟩,g⟩
theorem tmapAt_made (w:World):TMapAt (w.alloc (.map #[] 0)) w.heap.size 0 noT:=
 ⟨⟨_,World.ownsMap_made w prog 3 ptrR,fun _ _=>rfl⟩,fun k p h=>yA⟩
theorem zeroPtrL (w:World):(zeroValue 148).run prog w= .ok (encT_ none) w:=zeroValue148 w
theorem TMapAt.look {b:Nat} {f:TSta} (h:TMapAt w b n f) (hk:Wf k):
  (Instr.lookup 67 (.map (some b)) (.int .i64 k) true).run prog w= .ok (.tuple #[encT_ (f k),.bool (f k).isSome]) w:=by
 obtain ⟨⟨D,h,r⟩,_⟩:=h
 obtain ⟨v,ps,hrun,hv⟩:=h.look_ok (int_keyed underlying3) underlying67 (zeroPtrL w) (ptrR_mk none) (keyOf_int_mk underlying3 hk)
 obtain ⟨p,rfl,hp⟩:=ptrR_inv hv
 rw [r.at hk,Prod.mk.injEq] at hp
 rw [hrun,r.has hk,datT_inj hp.1]
theorem TMapAt.look1 {b:Nat} {f:TSta} (h:TMapAt w b n f) (hk:Wf k):
  (Instr.lookup 67 (.map (some b)) (.int .i64 k) false).run prog w= .ok (encT_ (f k)) w:=by
 obtain ⟨⟨D,h,r⟩,_⟩:=h
 obtain ⟨v,ps,hrun,hv⟩:=h.lookup (int_keyed underlying3) underlying67 (zeroPtrL w) (ptrR_mk none) (keyOf_int_mk underlying3 hk)
 obtain ⟨p,rfl,hp⟩:=ptrR_inv hv
 rw [r.at hk,Prod.mk.injEq] at hp
 rw [hrun,datT_inj hp.1]
theorem TMapAt.store {w:World} {b n:Nat} {f:TSta} (h:TMapAt w b n f) (hn:n<maxLen) {k:Int} (hk:Wf k) (p:Nat):
  ∃w',(Instr.mapUpdate 67 (.map (some b)) (.int .i64 k) (encT_ (some p))).run prog w= .ok () w'/\TMapAt w' b (n+1) (fun x=>if x=k then some p else f x)/\w.mapTurned w' b:=by
 obtain ⟨⟨D,h,r⟩,g⟩:=h
 obtain ⟨w',hrun,h',ht⟩:=h.store (int_keyed underlying3) underlying67 hn (keyOf_int_mk underlying3 hk) (ptrR_mk (some p))
 refine ⟨w',hrun,⟨⟨_,h',readsT_put r h.isMap k p⟩,fun x q hx=> ?_⟩,ht⟩
 split at hx
 ·rename_i e;rw [e];exact hk
 exact g x q hx
end
section
open Go Go.RowKit
structure Keeps (S:Nat->Prop) (w w':World):Prop where
 os:w'.os=w.os
 tape:w'.tape=w.tape
 output:w'.output=w.output
 size:w.heap.size<=w'.heap.size
 block:∀k,k<w.heap.size->¬S k->w'.heap[k]? =w.heap[k]?
theorem Keeps.refl (S:Nat->Prop) (w:World):Keeps S w w:=⟨rfl,rfl,rfl,jj _,fun _ _ _=>rfl⟩
theorem Keeps.trans {S:Nat->Prop} {a b c:World} (h:Keeps S a b) (k:Keeps S b c):Keeps S a c:=
 ⟨k.os.trans h.os,k.tape.trans h.tape,k.output.trans h.output,jw h.size k.size,fun i hi hs=>(k.block i (jE hi h.size) hs).trans (h.block i hi hs)⟩
theorem Keeps.then {S T:Nat->Prop} {a b:World} (h:Keeps S a b) (k:Keeps T b c) (hT:∀i,i<a.heap.size->T i->S i):Keeps S a c:=
 ⟨k.os.trans h.os,k.tape.trans h.tape,k.output.trans h.output,jw h.size k.size,fun i hi hs=>(k.block i (jE hi h.size) (fun ht=>hs (hT i hi ht))).trans (h.block i hi hs)⟩
theorem Keeps.mono {S T:Nat->Prop} (h:Keeps S w w') (hs:∀k,k<w.heap.size->S k->T k):Keeps T w w':=
 ⟨h.os,h.tape,h.output,h.size,fun k hk ht=>h.block k hk (fun e=>ht (hs k hk e))⟩
theorem keeps_of_grown {row:Option Nat} (h:w.grownBy w' row):Keeps (fun k=>some k=row) w w':=
 ⟨h.os,h.tape,h.output,h.size,fun k hk hs=>h.block k hk hs⟩
theorem keeps_of_below (h:Below B w w'):Keeps (fun k=>B<=k) w w':=
 ⟨h.os,h.tape,h.output,h.size,fun k _ hs=>h.block k zi⟩
theorem Keeps.below {S:Nat->Prop} (h:Keeps S w w') (hB:B<=w.heap.size) (hs:∀k,S k->B<=k):Below B w w':=
 ⟨h.os,h.tape,h.output,h.size,fun k hk=>h.block k zi (fun e=>by have:=hs k e;omega)⟩
theorem Keeps.drew {S:Nat->Prop} {w w':World} (h:Keeps S w w'):Keeps S w w'.drew:=⟨h.os,h.tape,h.output,h.size,h.block⟩
theorem Keeps.alloc {S:Nat->Prop} {w w':World} (h:Keeps S w w') (o:Obj):Keeps S w (w'.alloc o):=
 h.then (keeps_of_grown (World.grownBy_alloc w' o none)) (fun _ _ e=>yJ)
theorem Keeps.cell {S:Nat->Prop} {w w':World} (h:Keeps S w w') {a:Addr} (ha:a.block<w.heap.size) (hs:¬S a.block):w'.cell? a=w.cell? a:=jr (h.block _ ha hs)
theorem Keeps.frozen {S:Nat->Prop} {w w':World} (h:Keeps S w w') {a:Addr} (ha:a.block<w.heap.size) (hs:¬S a.block):w'.frozen? a=w.frozen? a:=uE (h.block _ ha hs)
def over (c:Array Value):Nat->List Value->Array Value
 | _,[]=>c
 | o,v::r=>over (c.setIfInBounds o v) (o+1) r
theorem over_size:∀(vs:List Value) (o:Nat) (c:Array Value),(over c o vs).size=c.size
 | [],_,_=>rfl
 | v::r,o,c=>by rw [over,over_size r];simp
theorem over_list:∀(vs A B C:List Value) (c:Array Value),c.toList=A++B++C->B.length=vs.length->(over c A.length vs).toList=A++vs++C
 | [],A,B,C,c,h,hl=>by
  have:B= []:=jC.1 hl
  subst this
  simpa [over] using h
 | v::r,A,[],C,c,h,hl=>by simp at hl
 | v::r,A,b::B,C,c,h,hl=>by
  have ih:=over_list r (A++ [v]) B C (c.setIfInBounds A.length v) (by simp [h]) xn
  rw [over]
  simpa using ih
theorem setCells_heap (b:Nat):∀(vs:List Value) (o:Nat) (w:World) (c:Array Value) (t:TypeId),w.heap[b]? =some (.cells c t (0,0))->(w.setCells b o vs).heap[b]? =some (.cells (over c o vs) t (0,0))
 | [],_,_,_,_,h=>h
 | v::r,o,w,c,t,h=>setCells_heap b r (o+1) _ _ t (heap_setCell_same w b o c t v h)
theorem setCells_keeps (b:Nat):∀(vs:List Value) (o:Nat) (w:World),Keeps (fun k=>k=b) w (w.setCells b o vs)
 | [],_,w=>Keeps.refl _ w
 | v::r,o,w=>by
  refine Keeps.trans (b:=w.setCell ⟨b,o,none⟩ v) ⟨rfl,rfl,rfl,?_,fun k _ hk=>heap_setCell_other w ⟨b,o,none⟩ k v hk⟩ (setCells_keeps b r (o+1) _)
  simp [World.setCell]
theorem run_copy_k (w:World) (dT sT ty elem:TypeId) (k b o dLen dCap:Nat) (a:Addr) (sLen sCap:Nat) (cs:List Value)
  (hu:P.underlying dT=some (.slice elem)) (hs:(P.info? elem).map (·.size)=some k) (hn:cs.length=Nat.min sLen dLen*k)
  (hsrc:∀j v,cs[j]? =some v->w.cell? (a.add j)=some v) (hc:∀j,j<cs.length->(w.cell? ⟨b,o+j,none⟩).isSome=true) (hf:∀j,j<cs.length->w.frozen? ⟨b,o+j,none⟩=false) (h1:∀v∈cs,v.oneCell'=true):
  (Builtin.copy_ #[dT,sT] ty #[.slice (some ⟨b,o,none⟩) dLen dCap,.slice (some a) sLen sCap]).run P w= .ok (goInt (Nat.min sLen dLen)) (w.setCells b o cs):=by
 have hl:=run_loadCells_list (P:=P) w a cs hsrc
 have hst:=run_storeCells_cells (P:=P) b o cs 0 w (by simpa using hc) (by simpa using hf) h1
 cases hq:P.info? elem with
 | none=>simp [hq] at hs
 | some i=>
  have hi:i.size=k:=by simpa [hq] using hs
  simp only [vk] at hst
  simp [Builtin.copy_,run_underlying hu,Builtin.lenOf,Builtin.firstCells,sizeOf,typeInfo,hq,hi,<-hn,hl,hst]
theorem owns_laidIn {base k:Nat} (h:w.ownsRow base E k (.slice (some ⟨g,0,none⟩) n cap) n xs) (hroom:n+1<=cap) (hi:i<=n) (hv:vs.length=k):
  ((w.setCells g ((i+1)*k) (xs.drop (i*k))).setCells g (i*k) vs).ownsRow base E k (.slice (some ⟨g,0,none⟩) (n+1) cap) (n+1) (xs.take (i*k)++vs++xs.drop (i*k)):=by
 obtain ⟨hl,h2⟩:=h
 rcases h2 with ⟨hc,_⟩ | ⟨g',cap',cur,hc,hb,hg,hn,hm,hs,ht⟩
 ·cases hc
 cases hc
 have hik:i*k<=n*k:=vm k hi
 have hnk:(n+1)*k=n*k+k:=xe
 have hi1:(i+1)*k=i*k+k:=xe
 have hck:(n+1)*k<=cap*k:=vm k hroom
 have hcl:cur.toList.length=cap*k:=by simpa using hs
 have hcur:cur.toList=xs++cur.toList.drop (n*k):=by
  conv=>lhs;rw [<-jH (n*k) cur.toList]
  rw [ht]
 obtain ⟨C,hC⟩:=za (cur.toList.drop (n*k))
 rw [<-hC] at hcur
 have hCl:C.length=cap*k - n*k:=by rw [hC,jT,hcl]
 have hdl:(xs.drop (i*k)).length=n*k - i*k:=by rw [jT,hl]
 have htl:(xs.take (i*k)).length=i*k:=by rw [jz,hl];omega
 have hg1:=setCells_heap g (xs.drop (i*k)) ((i+1)*k) w cur E hg
 have e1:(cur.toList.take ((i+1)*k)).length=(i+1)*k:=by rw [jz,hcl];omega
 have o1:=over_list (xs.drop (i*k)) (cur.toList.take ((i+1)*k)) ((cur.toList.drop ((i+1)*k)).take (n*k - i*k)) ((cur.toList.drop ((i+1)*k)).drop (n*k - i*k)) cur
  (by rw [jR,jH,jH]) (by rw [jz,jT,hdl,hcl];omega)
 rw [e1] at o1
 obtain ⟨c1,hc1⟩:=za (over cur ((i+1)*k) (xs.drop (i*k)))
 rw [<-hc1] at o1 hg1
 have hs1:c1.size=cap*k:=by rw [hc1,over_size,hs]
 have hg2:=setCells_heap g vs (i*k) _ c1 E hg1
 have hA:cur.toList.take ((i+1)*k)=xs.take (i*k)++(cur.toList.drop (i*k)).take k:=by
  rw [hi1,List.take_add]
  congr 1
  rw [hcur,vu zi]
 have o2:=over_list vs (xs.take (i*k)) ((cur.toList.drop (i*k)).take k) (xs.drop (i*k)++(cur.toList.drop ((i+1)*k)).drop (n*k - i*k)) c1
  (by rw [o1,hA];simp [jR]) (by rw [jz,jT,hcl,hv];omega)
 rw [htl] at o2
 refine ⟨?_,.inr ⟨g,cap,_,rfl,hb,hg2,hroom,hm,by rw [over_size,hs1],?_⟩⟩
 ·rw [jA,jA,htl,hv,hdl];omega
 rw [o2,<-jR,vu qJ,jJ qJ]
theorem owns_newIn {base k G:Nat} {Z:List Value} {row:Array Value} (hg:w.heap[g]? =some (.cells row E (0,0))) (hrow:row.toList=xs.take (i*k)++Z) (hs:row.size=G*k)
  (hb:base<=g) (hroom:n+1<=G) (hm:G<=maxLen) (hi:i<=n) (hl:xs.length=n*k) (hv:vs.length=k):
  ((w.setCells g (i*k) vs).setCells g ((i+1)*k) (xs.drop (i*k))).ownsRow base E k (.slice (some ⟨g,0,none⟩) (n+1) G) (n+1) (xs.take (i*k)++vs++xs.drop (i*k)):=by
 have hik:i*k<=n*k:=vm k hi
 have hnk:(n+1)*k=n*k+k:=xe
 have hi1:(i+1)*k=i*k+k:=xe
 have hck:(n+1)*k<=G*k:=vm k hroom
 have hdl:(xs.drop (i*k)).length=n*k - i*k:=by rw [jT,hl]
 have htl:(xs.take (i*k)).length=i*k:=by rw [jz,hl];omega
 have hZl:Z.length=G*k - i*k:=by
  have:row.toList.length=G*k:=by simpa using hs
  rw [hrow,jA,htl] at this
  omega
 have hg1:=setCells_heap g vs (i*k) w row E hg
 have o1:=over_list vs (xs.take (i*k)) (Z.take k) (Z.drop k) row (by rw [hrow,jR,jH]) (by rw [jz,hZl,hv];omega)
 rw [htl] at o1
 obtain ⟨c1,hc1⟩:=za (over row (i*k) vs)
 rw [<-hc1] at o1 hg1
 have hs1:c1.size=G*k:=by rw [hc1,over_size,hs]
 have hg2:=setCells_heap g (xs.drop (i*k)) ((i+1)*k) _ c1 E hg1
 have hal:(xs.take (i*k)++vs).length=(i+1)*k:=by rw [jA,htl,hv,hi1]
 have o2:=over_list (xs.drop (i*k)) (xs.take (i*k)++vs) ((Z.drop k).take (n*k - i*k)) ((Z.drop k).drop (n*k - i*k)) c1
  (by rw [o1];simp only [jR,jH]) (by rw [jz,jT,hZl,hdl];omega)
 rw [hal] at o2
 refine ⟨?_,.inr ⟨g,G,_,rfl,hb,hg2,hroom,hm,by rw [over_size,hs1],?_⟩⟩
 ·rw [jA,hal,hdl];omega
 rw [o2,vu xV,jJ xV]
end
section
open Go
section
variable {α:Type} {enc:α→List Value} {k:Nat}
def flat (enc:α->List Value) (L:List α):List Value:=L.flatMap enc
theorem flat_nil:flat enc []= []:=rfl
theorem flat_cons (x:α) (L:List α):flat enc (x::L)=enc x++flat enc L:=rfl
theorem flat_append (L M:List α):flat enc (L++M)=flat enc L++flat enc M:=by simp [flat]
theorem flat_len (hk:∀x,(enc x).length=k):∀L:List α,(flat enc L).length=L.length*k
 | []=>by simp [flat]
 | x::L=>by rw [flat_cons,jA,hk,flat_len hk L,jK,Nat.succ_mul];omega
theorem flat_take (hk:∀x,(enc x).length=k) (L:List α) (i:Nat) (hi:i<=L.length):(flat enc L).take (i*k)=flat enc (L.take i):=by
 conv=>lhs;rw [<-jH i L]
 rw [flat_append,vu yk,jJ yk]
theorem flat_drop (hk:∀x,(enc x).length=k) (L:List α) (i:Nat) (hi:i<=L.length):(flat enc L).drop (i*k)=flat enc (L.drop i):=by
 conv=>lhs;rw [<-jH i L]
 rw [flat_append,List.drop_append_of_le_length yk,vR yk]
 rfl
theorem flat_get (hk:∀x,(enc x).length=k) {L:List α} {c:Nat} {x:α} (hx:L[i]? =some x) (hc:c<k):(flat enc L)[i*k+c]? =(enc x)[c]? :=by
 obtain ⟨hil,hie⟩:=jh.1 hx
 have h1:(flat enc L)[i*k+c]? =((flat enc L).drop (i*k))[c]? :=by rw [vg]
 rw [h1,flat_drop hk L i zi,jZ hil,hie,flat_cons,vD (by rw [hk];exact hc)]
theorem flat_lay (hk:∀x,(enc x).length=k) (L:List α) (i:Nat) (hi:i<=L.length) (x:α):flat enc (L.take i++x::L.drop i)=(flat enc L).take (i*k)++enc x++(flat enc L).drop (i*k):=by
 rw [flat_append,flat_cons,flat_take hk L i hi,flat_drop hk L i hi,jR]
theorem flat_set (hk:∀x,(enc x).length=k) (L:List α) (i:Nat) (hi:i<L.length) (x:α):flat enc (L.set i x)=(flat enc L).take (i*k)++enc x++(flat enc L).drop ((i+1)*k):=by
 rw [List.set_eq_take_append_cons_drop,if_pos hi,flat_append,flat_cons,flat_take hk L i zi,flat_drop hk L (i+1) zi,jR]
theorem flat_one (h1:∀x,∀v∈enc x,v.oneCell'=true) (L:List α):∀v∈flat enc L,v.oneCell'=true:=by
 intro v hv
 obtain ⟨x,_,hx⟩:=List.mem_flatMap.1 hv
 exact h1 x v hx
end
theorem owns_over {base k:Nat} {A B C:List Value} (h:w.ownsRow base E k (.slice (some ⟨g,0,none⟩) n cap) n (A++B++C)) (hl:B.length=vs.length):
  (w.setCells g A.length vs).ownsRow base E k (.slice (some ⟨g,0,none⟩) n cap) n (A++vs++C):=by
 obtain ⟨hlen,h2⟩:=h
 rcases h2 with ⟨hc,_⟩ | ⟨g',cap',cur,hc,hb,hg,hn,hm,hs,ht⟩
 ·cases hc
 cases hc
 have hlen':(A++vs++C).length=n*k:=by rw [<-hlen];simp [hl]
 refine ⟨hlen',.inr ⟨g,cap,_,rfl,hb,setCells_heap g vs A.length w cur E hg,hn,hm,by rw [over_size,hs],?_⟩⟩
 have hcur:cur.toList=A++B++(C++cur.toList.drop (n*k)):=by
  conv=>lhs;rw [<-jH (n*k) cur.toList]
  rw [ht];simp
 rw [over_list vs A B _ cur hcur hl,<-jR,vu zi,jJ zi]
end
section
open Go
theorem append_at (w:World) (base:Nat) (t ty e:TypeId) (i:TypeInfo) (z:Value) (size bytes:Nat) (ht:P.underlying t=some (.slice e)) (hi:P.info? e=some i) (hz:i.zero=some z)
  (hsize:i.size=size) (hby:i.bytes=bytes) (hzs:z.cells.size=size) (hsz:0<size)
  (v:Value) (n:Nat) (xs:List Value) (hown:w.ownsRow base e size v n xs)
  (a:Addr) (m c:Nat) (hm0:0<m) (news:List Value) (hl:news.length=m*size) (hnews:∀j u,news[j]? =some u->w.cell? (a.add j)=some u) (h1:∀u∈news,u.oneCell'=true)
  (h63:n+m<=maxLen) (hbytes:(n+m)*bytes<=140737488355328) (hbase:base<=w.heap.size):
  ∃v' w',(Builtin.append_ #[t,t] ty #[v,.slice (some a) m c]).run P w= .ok v' w'/\w'.ownsRow base e size v' (n+m) (xs++news)/\w.grownBy w' v.ownBlock/\
   (v'.ownBlock=v.ownBlock\/v'.ownBlock=some w.heap.size):=by
 obtain ⟨v',w',hrun,h',hg',-⟩:=run_append_own (P:=P) w base t ty e i z size bytes ht hi hz hsize hby hzs hsz v n xs hown a m c news hl hnews h1 h63 hbytes hbase
 refine ⟨v',w',hrun,h',hg',?_⟩
 subst hsize
 subst hby
 have hsmall:n+m<=9223372036854775807:=by simp only [maxLen] at h63;omega
 rcases hown.2 with ⟨rfl,rfl⟩ | ⟨g,cap,cur,rfl,hbg,hg,hnc,hcm,hcs,htake⟩
 ·have hr:=run_append_nil (P:=P) w t ty e i z ht hi hz a m c news hl hnews zi zi qW
  rw [hr] at hrun
  simp only [Result.ok.injEq] at hrun
  right
  rw [<-hrun.1]
  rfl
 by_cases hroom:n+m<=cap
 ·have hfit:n*i.size+news.length<=cur.size:=by rw [hl,hcs,<-ur];exact vm _ hroom
  have hr:=run_append_room (P:=P) w t ty e i ht hi g n cap cur hg a m c news hl hnews h1 hroom hfit
  rw [hr] at hrun
  simp only [Result.ok.injEq] at hrun
  left
  rw [<-hrun.1]
  rfl
 have holds:∀j u,xs[j]? =some u->w.cell? ((⟨g,0,none⟩:Addr).add j)=some u:=hown.cells (g:=g) rfl
 have hr:=run_append_grow (P:=P) w t ty e i z ht hi hz ⟨g,0,none⟩ n cap xs hown.1 holds a m c news hl hnews zi zi (growslice_fits zi hbytes)
 rw [hr] at hrun
 simp only [Result.ok.injEq] at hrun
 right
 rw [<-hrun.1]
 rfl
end
section
open Go.RowKit Go.Maps
theorem zeroPl (w:World):(zeroValue 106).run prog w= .ok (encP zeroP) w:=zeroValue106 w
theorem MapAt.looks {b:Nat} {f:Sta} (h:MapAt prog 3 w b n f) (hk:Wf k):
  (Instr.lookup 184 (.map (some b)) (.int .i64 k) true).run prog w= .ok (.tuple #[encP ((f k).getD zeroP),.bool (f k).isSome]) w:=
 h.look underlying3 underlying184 (zeroPl w) hk
theorem MapAt.looks1 {b:Nat} {f:Sta} (h:MapAt prog 3 w b n f) (hk:Wf k):
  (Instr.lookup 184 (.map (some b)) (.int .i64 k) false).run prog w= .ok (encP ((f k).getD zeroP)) w:=
 h.look1 underlying3 underlying184 (zeroPl w) hk
theorem treeNew (w:World):Calls prog 46 #[] w fun e w'=>e= .returned (.pointer (some ⟨w.heap.size+1,0,none⟩))/\w'=(w.alloc (.map #[] 0)).alloc (.cells #[.map (some w.heap.size),.slice none 0 0] 187):=by
 have hmm:= @run_makeMap prog
 go_enter func46,ntmps46
 go_wp2
 go_ret
 exact ⟨rfl,rfl⟩
