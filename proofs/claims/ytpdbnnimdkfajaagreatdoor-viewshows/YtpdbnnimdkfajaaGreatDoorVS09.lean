import Derived.Test.YtpdbnnimdkfajaaGreatDoorVS05
import Derived.Test.YtpdbnnimdkfajaaGreatDoorVS06
import Derived.Test.YtpdbnnimdkfajaaGreatDoorVS07
import Derived.Deep.DeepCutAuto
set_option linter.unusedSimpArgs false
set_option linter.unusedVariables false
set_option maxRecDepth 100000
set_option maxHeartbeats 64000000
namespace Go.Proofs.YtpdbnnimdkfajaaGreatDoor
open Go.Proofs.Tryz
variable {T id nd:Int} {A:List OpX} {i k:Nat} {ad:Nat→Addr} {cap:Nat→Nat} {ao:Nat→Option Addr} {o x y:OpX} {R:Rws} {W w w':World}
section
open scoped Classical
theorem err_by (h:errO x=0):1<=x.1/\x.1<=1073741824/\0<=byO x/\byO x<4:=by
 have h0:=opE_zero h
 exact ⟨h0.1,h0.2.1,h0.2.2.1,h0.2.2.2.1⟩
theorem err_refs (h:errO x=0):((kdO x=109/\nodeO x<=idO x)\/nodeO x<idO x)/\otherO x<idO x/\0<=nodeO x/\0<=otherO x/\(kdO x=109->2<=nodeO x)/\(kdO x=100->otherO x≠0):=by
 have h0:=opE_zero h
 have hid:4<=idO x:=by unfold idO;have:=h0.1;have:=h0.2.2.1;omega
 unfold errO opE at h
 rw [if_pos ⟨h0.1,h0.2.1,h0.2.2.1,h0.2.2.2.1,h0.2.2.2.2.1,h0.2.2.2.2.2.1⟩] at h
 have e:x.1*4+x.2.1=idO x:=rfl
 rw [e] at h
 unfold kindE at h
 split at h
 ·rename_i hk
  unfold moveE at h
  split at h
  ·cases h
  rename_i hc
  have hk':kdO x=109:=hk
  have e1:x.2.2.2.2.1=nodeO x:=rfl
  have e2:x.2.2.2.2.2.1=otherO x:=rfl
  rw [e1,e2] at hc
  exact ⟨.inl ⟨hk',zi⟩,zi,zi,zi,fun _=>zi,fun k=>by rw [hk'] at k;exact absurd k zo⟩
 rename_i hk
 have hk':kdO x≠109:=hk
 split at h
 ·rename_i hki
  unfold insE at h
  split at h
  ·cases h
  rename_i hc
  have e1:x.2.2.2.2.1=nodeO x:=rfl
  have e2:x.2.2.2.2.2.1=otherO x:=rfl
  rw [e1,e2] at hc
  have hki':kdO x=105:=hki
  exact ⟨.inr zi,zi,zi,zi,fun k=>absurd k hk',fun k=>by rw [hki'] at k;exact absurd k zo⟩
 split at h
 ·unfold delE at h
  split at h
  ·cases h
  rename_i hc
  have e1:x.2.2.2.2.1=nodeO x:=rfl
  have e2:x.2.2.2.2.2.1=otherO x:=rfl
  rw [e1,e2] at hc
  exact ⟨.inr zi,zi,zi,zi,fun k=>absurd k hk',fun _=>zi⟩
 rename_i hkd
 have hkd':kdO x≠100:=hkd
 split at h
 ·unfold setE at h
  split at h
  ·cases h
  rename_i hc
  have e1:x.2.2.2.2.1=nodeO x:=rfl
  have e2:x.2.2.2.2.2.1=otherO x:=rfl
  rw [e1,e2] at hc
  exact ⟨.inr zi,zi,zi,zi,fun k=>absurd k hk',fun k=>absurd k hkd'⟩
 cases h
theorem id_inj (hx:errO x=0) (hy:errO y=0) (e:idO x=idO y):stO x=stO y:=by
 have h1:=err_by hx
 have h2:=err_by hy
 unfold idO at e
 have e1:x.2.1=byO x:=rfl
 have e2:y.2.1=byO y:=rfl
 rw [e1,e2] at e
 have a:x.1=y.1:=zi
 have b:byO x=byO y:=zi
 unfold stO
 rw [a,show x.2.1=y.2.1 from b]
theorem id_lt (hx:errO x=0) (hy:errO y=0) (h:idO x<idO y):CLt (stO x) (stO y):=by
 have h1:=err_by hx
 have h2:=err_by hy
 unfold idO at h
 have e1:x.2.1=byO x:=rfl
 have e2:y.2.1=byO y:=rfl
 rw [e1,e2] at h
 unfold CLt stO
 dsimp only
 rw [e1,e2]
 omega
theorem id_pos (hx:errO x=0):4<=idO x:=by
 have h1:=err_by hx
 unfold idO
 have e1:x.2.1=byO x:=rfl
 rw [e1]
 omega
structure StepOk (A:List OpX) (o:OpX):Prop where
 ok:errO o=0
 new:∀x∈A,stO x≠stO o
 refs:RefOk (o::A) o
 all:∀x∈A,errO x=0/\RefOk A x
 uniq:∀x∈A,∀y∈A,stO x=stO y->x=y
theorem StepOk.perm {B:List OpX} (h:StepOk A o) (e:A.Perm B):StepOk B o:=
 ⟨h.ok,fun x hx=>h.new x (e.mem_iff.2 hx),h.refs.mono (fun x hx=>by rcases jn.1 hx with rfl | hx;exact jM;exact jv _ (e.mem_iff.1 hx)),fun x hx=>⟨(h.all x (e.mem_iff.2 hx)).1,(h.all x (e.mem_iff.2 hx)).2.mono (fun y hy=>e.mem_iff.1 hy)⟩,fun x hx y hy=>h.uniq x (e.mem_iff.2 hx) y (e.mem_iff.2 hy)⟩
theorem StepOk.idnew (h:StepOk A o):∀x∈A,idO x≠idO o:=fun x hx e=>h.new x hx (id_inj (h.all x hx).1 h.ok e)
theorem StepOk.fresh (h:StepOk A o) (e:nodeO o=idO o):(¬KnownN A (nodeO o))/\∀x∈A,nodeO x≠nodeO o:=by
 have hk:¬KnownN A (nodeO o):=fun ⟨x,hx,_,_,q⟩=>h.idnew x hx (q.trans e)
 refine ⟨hk,fun x hx q=> ?_⟩
 rcases (h.all x hx).2.1 with ⟨_,k⟩ | k
 ·exact h.idnew x hx (by rw [k,q,e])
 rw [q] at k;exact hk k
theorem known_tail {A:List OpX} {o:OpX} {nd:Int} (h:KnownN (o::A) nd) (hn:nd≠idO o):KnownN A nd:=by
 obtain ⟨x,hx,q⟩:=h
 rcases jn.1 hx with rfl | hx
 ·exact absurd q.2.2.symm hn
 exact ⟨x,hx,q⟩
theorem letter_tail {A:List OpX} {o:OpX} {nd id:Int} (h:LetterN (o::A) nd id) (hn:id≠idO o):LetterN A nd id:=by
 obtain ⟨x,hx,q⟩:=h
 rcases jn.1 hx with rfl | hx
 ·exact absurd q.2.2.symm hn
 exact ⟨x,hx,q⟩
theorem StepOk.node (h:StepOk A o) (e:nodeO o≠idO o):KnownN A (nodeO o):=by
 rcases h.refs.1 with ⟨_,q⟩ | q
 ·exact absurd q.symm e
 exact known_tail q e
theorem StepOk.letter (h:StepOk A o) (hk:(kdO o=105/\0<otherO o)\/kdO o=100):LetterN A (nodeO o) (otherO o):=by
 have:=(err_refs h.ok).2.1
 exact letter_tail (h.refs.2.2 hk) zi
theorem StepOk.line (h:StepOk A o) (hk:kdO o=105\/kdO o=100\/kdO o=115):nodeO o≠idO o:=by
 rcases (err_refs h.ok).1 with ⟨q,_⟩ | q
 ·rw [q] at hk;rcases hk with k | k | k<;>exact absurd k zo
 omega
theorem StepOk.ungone (h:StepOk A o) (nd:Int):¬GoneIn A nd (idO o):=fun ⟨x,hx,k,e1,e2⟩=>by
 obtain ⟨y,hy,_,_,q⟩:=(h.all x hx).2.2.2 (.inr k)
 exact h.idnew y hy (q.trans e2)
theorem known_cons :KnownN (o::A) nd↔KnownN A nd\/(kdO o=109/\nodeO o=nd/\idO o=nd):=by
 constructor
 ·rintro ⟨x,hx,q⟩
  rcases jn.1 hx with rfl | hx
  ·exact .inr q
  exact .inl ⟨x,hx,q⟩
 rintro (⟨x,hx,q⟩ | q)
 ·exact ⟨x,jv _ hx,q⟩
 exact ⟨o,jM,q⟩
theorem prefix_step {S K ys:List OpX} (hW:WellK S) (hS:∀x,x∈S↔x∈K\/x∈ys) (hK:∀x∈K,RefOk K x) (hs:ys.Pairwise (fun a b=>CLt (stO a) (stO b))) (hoff:∀x∈ys,x∉K) (ho:ys[k]? =some o):StepOk (K++ys.take k) o:=by
 have hoy:o∈ys:=jm ho
 have hkl:=(jh.1 ho).1
 have hsub:∀x,x∈K++ys.take k->x∈S:=fun x hx=>(hS x).2 ((ju.1 hx).imp (fun q=>q) (fun q=>uf q))
 have hp:=jF.1 hs
 have low:∀(j:Nat) (x y:OpX),ys[j]? =some x->y∈S->idO y<idO x->y∈K++ys.take j:=fun j x y hj hy hlt=>by
  have hxS:x∈S:=(hS x).2 (.inr (jm hj))
  have hc:=id_lt (hW.ok y hy) (hW.ok x hxS) hlt
  rcases (hS y).1 hy with q | q
  ·exact jP _ q
  obtain ⟨i,hi,rfl⟩:=jU q
  have hij:i<j:=by
   rcases uc i j with h | h | h
   ·exact h
   ·subst h
    rw [ji hi] at hj
    cases hj
    exact absurd hc clt_irrefl
   obtain ⟨hjl,rfl⟩:=jh.1 hj
   exact absurd (clt_trans hc (hp j i hjl hi h)) clt_irrefl
  refine vi _ (jm (i:=i) ?_)
  rw [vI,if_pos hij]
  exact ji hi
 have refs:∀(j:Nat) (x:OpX),ys[j]? =some x->RefOk (x::(K++ys.take j)) x:=fun j x hj=>by
  have hxS:x∈S:=(hS x).2 (.inr (jm hj))
  have hr:=hW.refs x hxS
  have he:=err_refs (hW.ok x hxS)
  have up:∀y,y∈S->idO y<idO x->y∈x::(K++ys.take j):=fun y hy hl=>jv _ (low j x y hj hy hl)
  refine ⟨?_,fun hk=> ?_,fun hk=> ?_⟩
  ·rcases hr.1 with q | ⟨y,hy,q1,q2,q3⟩
   ·exact .inl q
   rcases he.1 with ⟨q,q'⟩ | q
   ·by_cases e:idO x=nodeO x
    ·exact .inl ⟨q,e⟩
    exact .inr ⟨y,up y hy zi,q1,q2,q3⟩
   exact .inr ⟨y,up y hy zi,q1,q2,q3⟩
  ·rcases hr.2.1 hk with q | q | ⟨y,hy,q1,q2,q3⟩
   ·exact .inl q
   ·exact .inr (.inl q)
   exact .inr (.inr ⟨y,up y hy zi,q1,q2,q3⟩)
  obtain ⟨y,hy,q1,q2,q3⟩:=hr.2.2 hk
  exact ⟨y,up y hy zi,q1,q2,q3⟩
 refine ⟨hW.ok o ((hS o).2 (.inr hoy)),fun x hx e=> ?_,refs k o ho,fun x hx=>⟨hW.ok x (hsub x hx),?_⟩,fun x hx y hy e=>hW.stamp (hsub x hx) (hsub y hy) e⟩
 ·rcases ju.1 hx with q | q
  ·have:=hW.stamp (hsub x hx) ((hS o).2 (.inr hoy)) e
   subst this
   exact hoff x hoy q
  obtain ⟨i,hi,rfl⟩:=jU q
  have hi':i<k/\i<ys.length:=by rw [jz] at hi;omega
  have hc:=hp i k hi'.2 hkl hi'.1
  rw [ud] at e
  rw [(jh.1 ho).2,e] at hc
  exact clt_irrefl hc
 rcases ju.1 hx with q | q
 ·exact (hK x q).mono (fun y hy=>jP _ hy)
 obtain ⟨i,hi,e⟩:=jU q
 have hi':i<k/\i<ys.length:=by rw [jz] at hi;omega
 rw [ud] at e
 have hxi:ys[i]? =some x:=by rw [<-e];exact ji hi'.2
 refine (refs i x hxi).mono (fun y hy=> ?_)
 rcases jn.1 hy with rfl | hy
 ·exact hx
 rcases ju.1 hy with hy | hy
 ·exact jP _ hy
 refine vi _ ?_
 have:ys.take i=(ys.take k).take i:=qC
 rw [this] at hy
 exact uf hy
end
section
open Go.RowKit Go.Lib Go.Sort
def kV (ao:Nat->Option Addr) (cap:Nat->Nat) (R:Rws):Value:=.agg #[.slice (ao 0) (R 0).length (cap 0),.slice (ao 1) (R 1).length (cap 1),.slice (ao 2) (R 2).length (cap 2),.slice (ao 3) (R 3).length (cap 3)]
def KnownAt (w:World) (ao:Nat->Option Addr) (R:Rws):Prop:=∀i,i<4->OpsIn w (ao i) (R i)
theorem KnownAt.later {w w':World} {ao:Nat->Option Addr} {R:Rws} (h:KnownAt w ao R) (hb:Below w.heap.size w w'):KnownAt w' ao R:=fun i hi=>(h i hi).later hb
def KBox (w:World) (b:Nat) (ao:Nat->Option Addr) (cap:Nat->Nat) (R:Rws):Prop:=w.heap[b]? =some (.cells #[.slice (ao 0) (R 0).length (cap 0),.slice (ao 1) (R 1).length (cap 1),.slice (ao 2) (R 2).length (cap 2),.slice (ao 3) (R 3).length (cap 3)] 65 (0,0))
theorem KBox.at {b:Nat} (h:KBox w b ao cap R) (hi:i<4):w.cell? ⟨b,i,none⟩=some (.slice (ao i) (R i).length (cap i)):=by
 unfold KBox at h
 match i,hi with
 | 0,_=>simp [World.cell?,h]
 | 1,_=>simp [World.cell?,h]
 | 2,_=>simp [World.cell?,h]
 | 3,_=>simp [World.cell?,h]
theorem KBox.fz {b:Nat} (h:KBox w b ao cap R) (o:Nat):w.frozen? ⟨b,o,none⟩=false:=by
 unfold KBox at h;simp [World.frozen?,h]
theorem KBox.lt {b:Nat} (h:KBox w b ao cap R):b<w.heap.size:=(jk.1 h).1
theorem KBox.new (w:World) (ao:Nat->Option Addr) (cap:Nat->Nat) (R:Rws):KBox (w.alloc (.cells #[.slice (ao 0) (R 0).length (cap 0),.slice (ao 1) (R 1).length (cap 1),.slice (ao 2) (R 2).length (cap 2),.slice (ao 3) (R 3).length (cap 3)] 65)) w.heap.size ao cap R:=heap_alloc_new w _
theorem KBox.later {b:Nat} (h:KBox w b ao cap R) (hb:Below w.heap.size w w'):KBox w' b ao cap R:=(hb.block b h.lt).trans h
theorem OpsIn.get {ao:Option Addr} {xs:List OpX} (h:OpsIn w ao xs) (hi:xs[i]? =some x):∃blk off,ao=some ⟨blk,off,none⟩/\∀c u,(encX x)[c]? =some u->w.cell? ⟨blk,off+i*8+c,none⟩=some u:=by
 rcases h with h | ⟨b,o,h1,h2⟩
 ·subst h;simp at hi
 refine ⟨b,o,h1,fun c u hc=> ?_⟩
 have hl:=(jh.1 hi)
 have h8:c<8:=(jh.1 hc).1
 have e:=cellsOf_get xs i c hl.1 h8
 rw [vG]
 refine h2 _ _ (e.trans ?_)
 rw [getElem!_pos xs i hl.1,hl.2,getElem!_pos _ c (by rw [encX_len];exact h8),<-(jh.1 hc).2]
theorem results_ct {fn:Func} {p u:Tmp} {ty:TypeId} (h:fn.results= #[.cell p ty,.tmp u]) (tmps:Array Value) (P:Program) (w:World):
  (results fn tmps).run P w=
   ((asAddr (tmps.getD p undef)).run P w).andThen fun a w1=>((loadVar ty a).run P w1).andThen fun v w2=>.ok (.tuple #[v,tmps.getD u undef]) w2:=by
 simp only [results,h]
 simp [Sem.run_bind,Result.andThen]
theorem number_none (w:World) (ao:Nat->Option Addr) (cap:Nat->Nat) (R:Rws) (i n:Nat) (hi:i<4) (hx:(R i).length<=n):
  Calls prog 111 #[kV ao cap R,.int .i64 (i:Int),.int .i64 ((n:Int)+1)] w fun e w'=>e= .returned (.tuple #[encO zeroO,.bool false])/\Below w.heap.size w w':=by
 unfold kV
 have dn:decide (((R i).length:Int)<(n:Int)+1)=true:=zk
 have h4:i=0\/i=1\/i=2\/i=3:=zi
 rcases h4 with rfl | rfl | rfl | rfl
 all_goals
  go_enter func111,ntmps111
  go_wp2
  (try simp only [Exit.inBlock,Exit.then])
  refine bodyPost_ret (v:=.tuple #[encO zeroO,.bool false]) ?_ rfl ⟨rfl,?_⟩
  ·rw [results_ct rfl]
   unfold encO zeroO
   go_simp
  exact (zg w _).alloc zm _
theorem number_some (w:World) (ao:Nat->Option Addr) (cap:Nat->Nat) (R:Rws) (i n:Nat) (x:OpX) (hK:KnownAt w ao R) (hi:i<4) (hn:n<1000) (hx:(R i)[n]? =some x):
  Calls prog 111 #[kV ao cap R,.int .i64 (i:Int),.int .i64 ((n:Int)+1)] w fun e w'=>e= .returned (.tuple #[encO x,.bool true])/\Below w.heap.size w w':=by
 obtain ⟨blk,off,ha,hc⟩:=(hK i hi).get hx
 have hln:=(jh.1 hx).1
 obtain ⟨t,b,m,k,nd,o,s,v⟩:=x
 have hbl:blk<w.heap.size:=jl w ⟨blk,off+n*8+0,none⟩ (hc 0 _ rfl)
 have hcell:∀o1 o2 c u,(encX (t,b,m,k,nd,o,s,v))[c]? =some u->((w.alloc o1).alloc o2).cell? ⟨blk,off+n*8+c,none⟩=some u:=fun o1 o2 c u hu=>by
  rw [(((jo w.heap.size w).alloc ze o1).alloc zm o2).cell (p:=⟨blk,off+n*8+c,none⟩) hbl]
  exact hc c u hu
 have r0:=fun o1 o2=>hcell o1 o2 0 _ rfl
 have r1:=fun o1 o2=>hcell o1 o2 1 _ rfl
 have r2:=fun o1 o2=>hcell o1 o2 2 _ rfl
 have r3:=fun o1 o2=>hcell o1 o2 3 _ rfl
 have r4:=fun o1 o2=>hcell o1 o2 4 _ rfl
 have r5:=fun o1 o2=>hcell o1 o2 5 _ rfl
 have r6:=fun o1 o2=>hcell o1 o2 6 _ rfl
 have r7:=fun o1 o2=>hcell o1 o2 7 _ rfl
 simp only [vk] at r0
 clear hcell hc
 have dn:decide (((R i).length:Int)<(n:Int)+1)=false:=zk
 have en:((n:Int)+1 - 1)=(n:Int):=zi
 have wn:((n:Int)).toNat=n:=zi
 have pn:(0:Int)<=(n:Int):=zi
 have bn:(n:Int)<((R i).length:Int):=zi
 have h4:i=0\/i=1\/i=2\/i=3:=zi
 unfold kV encO
 rcases h4 with rfl | rfl | rfl | rfl
 all_goals
  rw [ha]
  clear ha
  go_enter func111,ntmps111
  go_wp2
  (try simp only [Exit.inBlock,Exit.then])
  refine bodyPost_ret (v:=.tuple #[.agg #[.int .i64 t,.int .i64 b,.int .i64 m,.int .u8 (k:Int),.int .i64 nd,.int .i64 o,.string s,.string v],.bool true]) ?_ rfl ⟨rfl,?_⟩
  ·rw [results_ct rfl]
   go_simp
  exact (zg w _).alloc zm _
end
section
open Go.RowKit Go.Lib Go.Sort
theorem closureT (x:OpX) (tm:Int) (w:World):Calls prog 236 #[encO x,.int .i64 tm] w fun e w'=>e= .returned (.int .i64 (cmpZ x.1 tm))/\Below w.heap.size w w':=by
 obtain ⟨t,b,n,k,nd,o,s,v⟩:=x
 unfold encO
 dsimp only
 go_enter func236,ntmps236
 go_wp2_with (go_at_call 103;refine (cmpZ_any _ _ _).mono ?_;rintro e w' ⟨rfl,rfl⟩)
 go_ret
 exact ⟨rfl,zg w _⟩
def BsAt (xs:List OpX) (tm:Int) (i:Nat) (b:Bool):Prop:=i<=xs.length/\(∀j x,j<i->xs[j]? =some x->x.1<tm)/\(∀j x,i<=j->xs[j]? =some x->tm<=x.1)/\(b=true↔∃x,xs[i]? =some x/\x.1=tm)
def RisesT (xs:List OpX):Prop:=∀(i j:Nat) (x y:OpX),i<=j->xs[i]? =some x->xs[j]? =some y->x.1<=y.1
theorem bsearch_any (ao:Option Addr) (cap:Nat) (xs:List OpX) (tm:Int) (w:World) (hin:OpsIn w ao xs) (hr:RisesT xs) (hn:xs.length<=1000):
  Calls prog 235 #[.slice ao xs.length cap,.int .i64 tm,.func (.func 236) #[] #[]] w fun e w'=>∃(i:Nat) (b:Bool),e= .returned (.tuple #[.int .i64 (i:Int),.bool b])/\BsAt xs tm i b/\Below w.heap.size w w':=by
 have HI:Aside (OpsIn w ao xs/\RisesT xs):=⟨hin,hr⟩
 clear hin hr
 go_enter func235,ntmps235
 go_wp2
 go_loopg [9,10,11] (xs.length+1) (fun kx s9 s10 s11 wr=>∃(i j:Nat),s9= .int .i64 (i:Int)/\s10= .int .i64 (j:Int)/\i<=j/\j<=xs.length/\j - i<kx/\Aside (Below w.heap.size w wr/\(∀k x,k<i->xs[k]? =some x->x.1<tm)/\(∀k x,j<=k->xs[k]? =some x->tm<=x.1)))
 case atStart=>exact ⟨0,xs.length,rfl,rfl,js _,jj _,zi,jo _ w,fun k x hk=>zi,fun k x hk h=>by have:=(jh.1 h).1;omega⟩
 case round=>
  obtain ⟨i,j,rfl,rfl,hij,hj,hkx,A⟩:=hrel
  by_cases hlt:i<j
  ·have d1:decide ((i:Int)<(j:Int))=true:=by simp;omega
   obtain ⟨h,hh⟩:∃h:Nat,h=(i+j) / 2:=⟨_,rfl⟩
   have eh:((i:Int)+(j:Int)) / 2=(h:Int):=zi
   have hl:h<xs.length:=zi
   have wh:((h:Int)).toNat=h:=zi
   have ph:(0:Int)<=(h:Int):=zi
   have bh:(h:Int)<(xs.length:Int):=zi
   have hih:i<=h/\h<j:=zi
   clear hh
   obtain ⟨⟨t,b,n,k,nd,o,s,v⟩,hx⟩:∃x,Aside (xs[h]? =some x):=⟨xs[h],ji hl⟩
   obtain ⟨blk,off,hao,hc⟩:=(HI.o.1.later A.o.1).get hx.o
   subst hao
   have r0:=hc 0 _ rfl
   have r1:=hc 1 _ rfl
   have r2:=hc 2 _ rfl
   have r3:=hc 3 _ rfl
   have r4:=hc 4 _ rfl
   have r5:=hc 5 _ rfl
   have r6:=hc 6 _ rfl
   have r7:=hc 7 _ rfl
   simp only [vk] at r0
   clear hc
   have hcall:=closureT (t,b,n,k,nd,o,s,v) tm wr
   unfold encO at hcall
   dsimp only at hcall
   by_cases hc:t<tm
   ·have ec:cmpZ t tm= -1:=by unfold cmpZ;rw [if_pos hc]
    rw [ec] at hcall
    have HC:Aside (t<tm):=hc
    clear hc ec
    go_wp2_with (go_at_call 236;refine hcall.mono ?_;clear hcall;rintro e w' ⟨rfl,hb'⟩;have A':Aside (Below w.heap.size w w'):=(zh A.o.1 hb');clear hb' r0 r1 r2 r3 r4 r5 r6 r7)
    go_roundg (j - h)
    case measure=>omega
    case rel=>
     refine ⟨h+1,j,zw,rfl,zi,hj,zi,A'.o,fun k' x hk hx'=> ?_,A.o.2.2⟩
     have:=HI.o.2 k' h x _ zi hx' hx.o
     have:=HC.o
     dsimp only at*
     omega
   have hz:0<=cmpZ t tm:=by unfold cmpZ;rw [if_neg hc];split<;>omega
   obtain ⟨z,ez⟩:∃z,cmpZ t tm=z:=⟨_,rfl⟩
   rw [ez] at hcall hz
   have dz:decide (z<0)=false:=zk
   have HC:Aside (¬t<tm):=hc
   clear hc ez
   go_wp2_with (go_at_call 236;refine hcall.mono ?_;clear hcall;rintro e w' ⟨rfl,hb'⟩;have A':Aside (Below w.heap.size w w'):=(zh A.o.1 hb');clear hb' r0 r1 r2 r3 r4 r5 r6 r7)
   go_roundg (h - i+1)
   case measure=>omega
   case rel=>
    refine ⟨i,h,rfl,rfl,zi,zi,zi,A'.o,A.o.2.1,fun k' x hk hx'=> ?_⟩
    have:=HI.o.2 h k' _ x zi hx.o hx'
    have:=HC.o
    dsimp only at*
    omega
  have d1:decide ((i:Int)<(j:Int))=false:=zk
  obtain rfl:i=j:=zi
  by_cases hil:i<xs.length
  ·have d2:decide ((i:Int)<(xs.length:Int))=true:=by simp;omega
   have wh:((i:Int)).toNat=i:=zi
   have ph:(0:Int)<=(i:Int):=zi
   have bh:(i:Int)<(xs.length:Int):=zi
   obtain ⟨⟨t,b,n,k,nd,o,s,v⟩,hx⟩:∃x,Aside (xs[i]? =some x):=⟨xs[i],ji hil⟩
   obtain ⟨blk,off,hao,hc⟩:=(HI.o.1.later A.o.1).get hx.o
   subst hao
   have r0:=hc 0 _ rfl
   have r1:=hc 1 _ rfl
   have r2:=hc 2 _ rfl
   have r3:=hc 3 _ rfl
   have r4:=hc 4 _ rfl
   have r5:=hc 5 _ rfl
   have r6:=hc 6 _ rfl
   have r7:=hc 7 _ rfl
   simp only [vk] at r0
   clear hc
   have hcall:=closureT (t,b,n,k,nd,o,s,v) tm wr
   unfold encO at hcall
   dsimp only at hcall
   have hz:Aside ((cmpZ t tm==0)=decide (t=tm)):=by
    show (cmpZ t tm==0)=decide (t=tm)
    unfold cmpZ
    by_cases h1:t<tm
    ·rw [if_pos h1];have:t≠tm:=by omega
     simp [this]
    rw [if_neg h1]
    by_cases h2:tm<t
    ·rw [if_pos h2];have:t≠tm:=by omega
     simp [this]
    rw [if_neg h2];have:t=tm:=zi
    simp [this]
   obtain ⟨z,ez⟩:=za (cmpZ t tm)
   rw [<-ez] at hcall hz
   clear ez
   go_wp2_with (go_at_call 236;refine hcall.mono ?_;clear hcall;rintro e w' ⟨rfl,hb'⟩;have A':Aside (Below w.heap.size w w'):=(zh A.o.1 hb');clear hb' r0 r1 r2 r3 r4 r5 r6 r7)
   go_ret2
   refine ⟨i,_,rfl,⟨hj,A.o.2.1,A.o.2.2,?_⟩,A'.o⟩
   rw [hz.o,decide_eq_true_iff]
   constructor
   ·intro e;exact ⟨_,hx.o,e⟩
   rintro ⟨x,hx',e⟩
   rw [hx.o] at hx'
   cases hx'
   exact e
  have d2:decide ((i:Int)<(xs.length:Int))=false:=zk
  go_wp2
  go_ret2
  refine ⟨i,false,rfl,⟨hj,A.o.2.1,A.o.2.2,?_⟩,A.o.1⟩
  constructor
  ·intro e;cases e
  rintro ⟨x,hx',e⟩
  have:=(jh.1 hx').1
  omega
end
section
open Go.RowKit Go.Lib Go.Sort
def findK (R:Rws) (id:Int):Option OpX:=(allR R).find? (fun x=>decide (idO x=id))
theorem findK_some (h:findK R id=some x):x∈allR R/\idO x=id:=by
 unfold findK at h
 exact ⟨List.mem_of_find?_eq_some h,by simpa using List.find?_some h⟩
theorem findK_none :findK R id=none↔∀x∈allR R,idO x≠id:=by
 unfold findK
 rw [List.find?_eq_none]
 simp
theorem findK_is (h:RowsN R) (hx:x∈allR R):findK R (idO x)=some x:=by
 cases hf:findK R (idO x) with
 | none=>exact absurd rfl (findK_none.1 hf x hx)
 | some y=>
  obtain ⟨a,b⟩:=findK_some hf
  rw [h.stamp a hx (id_inj (h.num.ok y a) (h.num.ok x hx) b)]
theorem id_range (h:errO x=0):4<=idO x/\idO x<4294967300:=by
 have h1:=err_by h
 unfold idO
 have e1:x.2.1=byO x:=rfl
 rw [e1]
 omega
theorem findK_out (h:RowsN R) (ho:id<4\/4294967300<=id):findK R id=none:=
 findK_none.2 (fun x hx e=>by have:=id_range (h.num.ok x hx);omega)
theorem RowsN.risesT (h:RowsN R) (hi:i<4):∀(a b:Nat) (x y:OpX),a<b->(R i)[a]? =some x->(R i)[b]? =some y->x.1<y.1:=by
 intro a b x y hab hx hy
 obtain ⟨a1,a2,_⟩:=h.num i hi a x hx
 obtain ⟨b1,b2,_⟩:=h.num i hi b y hy
 have hp:=jF.1 (h.rise hi) a b (jh.1 hx).1 (jh.1 hy).1 hab
 rw [(jh.1 hx).2,(jh.1 hy).2] at hp
 unfold CLt stO at hp
 dsimp only at hp
 have e1:x.2.1=byO x:=rfl
 have e2:y.2.1=byO y:=rfl
 omega
theorem RowsN.risesLe (h:RowsN R) (hi:i<4):RisesT (R i):=fun a b x y hab hx hy=>by
 rcases vh a b with q | q
 ·have:=h.risesT hi a b x y q hx hy;omega
 obtain rfl:a=b:=zi
 rw [hx] at hy;cases hy;exact Int.le_refl _
theorem findK_bs {R:Rws} (h:RowsN R) {id:Int} {i k:Nat} {b:Bool} (hi:i<4) (e:id % 4=(i:Int)) (hb:BsAt (R i) (id / 4) k b):(b=false->findK R id=none)/\(b=true->∃x,(R i)[k]? =some x/\findK R id=some x):=by
 obtain ⟨h1,h2,h3,h4⟩:=hb
 refine ⟨fun hf=>findK_none.2 (fun x hx ex=> ?_),fun ht=> ?_⟩
 ·obtain ⟨m,hm,hxm⟩:=mem_allR.1 hx
  obtain ⟨j,a1,a2,a3,_⟩:=h.num.get hm hxm
  have e1:x.2.1=byO x:=rfl
  unfold idO at ex
  obtain rfl:m=i:=zi
  have ht:x.1=id / 4:=zi
  have hkj:j=k:=by
   rcases uc j k with q | q | q
   ·have:=h2 j x q a1;omega
   ·exact q
   have hk:k<(R m).length:=by have:=(jh.1 a1).1;omega
   have ek:=ji hk
   have:=h3 k _ ze ek
   have:=h.risesT hm k j _ x q ek a1
   omega
  subst hkj
  rw [hf] at h4
  exact absurd (h4.2 ⟨x,a1,ht⟩) zo
 obtain ⟨x,hx,et⟩:=h4.1 ht
 refine ⟨x,hx,?_⟩
 obtain ⟨b1,b2,_⟩:=h.num i hi k x hx
 have e1:x.2.1=byO x:=rfl
 have:idO x=id:=by unfold idO;omega
 rw [<-this]
 exact findK_is h (mem_allR.2 ⟨i,hi,jm hx⟩)
def OpBlk (W:World) (b:Nat) (x:OpX):Prop:=W.heap[b]? =some (.cells #[.int .i64 x.1,.int .i64 x.2.1,.int .i64 x.2.2.1,.int .u8 (x.2.2.2.1:Int),.int .i64 x.2.2.2.2.1,.int .i64 x.2.2.2.2.2.1,.string x.2.2.2.2.2.2.1,.string x.2.2.2.2.2.2.2] 38 (0,0))
theorem OpBlk.lt {b:Nat} (h:OpBlk W b x):b<W.heap.size:=(jk.1 h).1
theorem OpBlk.later {W':World} {b:Nat} (h:OpBlk W b x) (hb:Below W.heap.size W W'):OpBlk W' b x:=(hb.block b h.lt).trans h
theorem OpBlk.new (W:World) (x:OpX):OpBlk (W.alloc (.cells #[.int .i64 x.1,.int .i64 x.2.1,.int .i64 x.2.2.1,.int .u8 (x.2.2.2.1:Int),.int .i64 x.2.2.2.2.1,.int .i64 x.2.2.2.2.2.1,.string x.2.2.2.2.2.2.1,.string x.2.2.2.2.2.2.2] 38)) W.heap.size x:=heap_alloc_new W _
theorem OpBlk.cells {b:Nat} (h:OpBlk W b x):W.cell? ⟨b,0,none⟩=some (.int .i64 x.1)/\W.cell? ⟨b,1,none⟩=some (.int .i64 x.2.1)/\W.cell? ⟨b,2,none⟩=some (.int .i64 x.2.2.1)/\W.cell? ⟨b,3,none⟩=some (.int .u8 (x.2.2.2.1:Int))/\W.cell? ⟨b,4,none⟩=some (.int .i64 x.2.2.2.2.1)/\W.cell? ⟨b,5,none⟩=some (.int .i64 x.2.2.2.2.2.1)/\W.cell? ⟨b,6,none⟩=some (.string x.2.2.2.2.2.2.1)/\W.cell? ⟨b,7,none⟩=some (.string x.2.2.2.2.2.2.2)/\∀c,W.frozen? ⟨b,c,none⟩=false:=by
 unfold OpBlk at h
 refine ⟨?_,?_,?_,?_,?_,?_,?_,?_,fun c=> ?_⟩<;>simp [World.cell?,World.frozen?,h]
theorem below_cells {b:Nat} (h:Below w.heap.size w W) (hb:w.heap.size<=b) (o:Nat) (vs:List Value):Below w.heap.size w (W.setCells b o vs):=h.trans ((setCells_keeps b vs o W).below h.size (fun k e=>zi))
theorem kfind_out (w:World) (ao:Nat->Option Addr) (cap:Nat->Nat) (R:Rws) (id:Int) (hE:Op4 ad w) (ho:id<4\/4294967300<=id) (h2: -9223372036854775808<=id) (h3:id<=9223372036854775807):
  Calls prog 196 #[kV ao cap R,.int .i64 id] w fun e w'=>e= .returned (.tuple #[encO zeroO,.bool false])/\Below w.heap.size w w':=by
 unfold kV
 obtain ⟨U,hU⟩:=za ((w.alloc (.cells #[.slice (ao 0) (R 0).length (cap 0),.slice (ao 1) (R 1).length (cap 1),.slice (ao 2) (R 2).length (cap 2),.slice (ao 3) (R 3).length (cap 3)] 65)).alloc (.cells #[.int .i64 0,.int .i64 0,.int .i64 0,.int .u8 0,.int .i64 0,.int .i64 0,.string ⟨#[]⟩,.string ⟨#[]⟩] 38))
 have hb:Below w.heap.size w U:=zG
 have hz:U.heap[w.heap.size+1]? =some (.cells #[.int .i64 0,.int .i64 0,.int .i64 0,.int .u8 0,.int .i64 0,.int .i64 0,.string ⟨#[]⟩,.string ⟨#[]⟩] 38 (0,0)):=by
  rw [hU]
  have:=heap_alloc_new (w.alloc (.cells #[.slice (ao 0) (R 0).length (cap 0),.slice (ao 1) (R 1).length (cap 1),.slice (ao 2) (R 2).length (cap 2),.slice (ao 3) (R 3).length (cap 3)] 65)) (.cells #[.int .i64 0,.int .i64 0,.int .i64 0,.int .u8 0,.int .i64 0,.int .i64 0,.string ⟨#[]⟩,.string ⟨#[]⟩] 38)
  rw [jI] at this
  exact this
 have hE1:=(hE.later hb).c1
 have hcall:=of_no id U _ _ hE1 (jl U ⟨2,0,none⟩ hE1) ho h2 h3
 have HB:Aside (Below w.heap.size w U):=hb
 clear hb hE hE1
 go_enter func196,ntmps196
 go_wp2_with fail
 rw [<-hU]
 clear hU
 refine hcall.mono ?_
 clear hcall
 rintro e w1 ⟨rfl,hb1⟩
 obtain ⟨S,hS⟩:=za w.heap.size
 have hz1:w1.heap[S+1]? =some (.cells #[.int .i64 0,.int .i64 0,.int .i64 0,.int .u8 0,.int .i64 0,.int .i64 0,.string ⟨#[]⟩,.string ⟨#[]⟩] 38 (0,0)):=by
  rw [hS,hb1.block _ (jk.1 hz).1];exact hz
 have hl1:S+1<w1.heap.size:=(jk.1 hz1).1
 have B1:Aside (Below w.heap.size w w1):=zh HB.o hb1
 rw [<-hS]
 clear hb1 hz HB
 obtain ⟨y0,y1,y2,y3,y4,y5,y6,y7,f8⟩:=OpBlk.cells (x:=zeroO) hz1
 unfold zeroO at y0 y1 y2 y3 y4 y5 y6 y7
 dsimp only at y0 y1 y2 y3 y4 y5 y6 y7
 have HS:Aside (S=w.heap.size):=hS
 clear hS hz1
 go_wp2
 (try simp only [Exit.inBlock,Exit.then])
 refine bodyPost_ret (v:=.tuple #[encO zeroO,.bool false]) ?_ rfl ⟨rfl,?_⟩
 ·rw [results_ct rfl]
  unfold encO zeroO
  go_simp
 exact (below_cells (b:=S+1) B1.o qI 0 [.int .i64 0,.int .i64 0,.int .i64 0,.int .u8 0,.int .i64 0,.int .i64 0,.string ⟨#[]⟩,.string ⟨#[]⟩]).alloc (below_cells (b:=S+1) B1.o qI 0 _).size _
theorem kfind_in (w:World) (ao:Nat->Option Addr) (cap:Nat->Nat) (R:Rws) (id:Int) (hK:KnownAt w ao R) (hR:RowsN R) (hl:∀i,i<4->(R i).length<=1000) (h1:4<=id) (h2:id<4294967300):
  Calls prog 196 #[kV ao cap R,.int .i64 id] w fun e w'=>e= .returned (.tuple #[encO ((findK R id).getD zeroO),.bool (findK R id).isSome])/\Below w.heap.size w w':=by
 obtain ⟨i,hi,ei⟩:∃i:Nat,i<4/\id % 4=(i:Int):=⟨(id % 4).toNat,zi,zi⟩
 have wi:((i:Int)).toNat=i:=zi
 have pi:(0:Int)<=(i:Int):=zi
 have bi:(i:Int)<4:=zi
 unfold kV
 obtain ⟨S,hS⟩:=za w.heap.size
 obtain ⟨U,hU⟩:=za ((w.alloc (.cells #[.slice (ao 0) (R 0).length (cap 0),.slice (ao 1) (R 1).length (cap 1),.slice (ao 2) (R 2).length (cap 2),.slice (ao 3) (R 3).length (cap 3)] 65)).alloc (.cells #[.int .i64 0,.int .i64 0,.int .i64 0,.int .u8 0,.int .i64 0,.int .i64 0,.string ⟨#[]⟩,.string ⟨#[]⟩] 38))
 have hb:Below w.heap.size w U:=zG
 have hz:OpBlk U (S+1) zeroO:=by
  rw [hU,hS]
  have:=heap_alloc_new (w.alloc (.cells #[.slice (ao 0) (R 0).length (cap 0),.slice (ao 1) (R 1).length (cap 1),.slice (ao 2) (R 2).length (cap 2),.slice (ao 3) (R 3).length (cap 3)] 65)) (.cells #[.int .i64 0,.int .i64 0,.int .i64 0,.int .u8 0,.int .i64 0,.int .i64 0,.string ⟨#[]⟩,.string ⟨#[]⟩] 38)
  rw [jI] at this
  exact this
 have hk:KBox U S ao cap R:=zM
 have hcall:=of_ok id U h1 h2
 rw [ei] at hcall
 obtain ⟨tm,etm⟩:=za (id / 4)
 rw [<-etm] at hcall
 have HB:Aside (Below w.heap.size w U/\KBox U S ao cap R/\OpBlk U (S+1) zeroO):=⟨hb,hk,hz⟩
 have HS:Aside (S=w.heap.size/\tm=id / 4/\id % 4=(i:Int)):=⟨hS,etm,ei⟩
 clear hb hz hk etm ei
 go_enter func196,ntmps196
 go_wp2_with fail
 rw [<-hU,<-hS]
 clear hU hS
 refine hcall.mono ?_
 clear hcall
 rintro e w1 ⟨rfl,hb1⟩
 obtain ⟨V,hV⟩:=za (w1.alloc (.cells #[.int .i64 tm,.int .i64 (i:Int)] 36))
 have bV:Below w1.heap.size w1 V:=by rw [hV];exact zg w1 _
 have HV:Aside (Below w.heap.size w V/\KBox V S ao cap R/\OpBlk V (S+1) zeroO):=⟨HB.o.1.trans ((hb1.mono HB.o.1.size).trans (bV.mono (jw HB.o.1.size hb1.size))),(HB.o.2.1.later hb1).later bV,(HB.o.2.2.later hb1).later bV⟩
 have hs1:V.heap[w1.heap.size]? =some (.cells #[.int .i64 tm,.int .i64 (i:Int)] 36 (0,0)):=by rw [hV];exact heap_alloc_new w1 _
 have s0:V.cell? ⟨w1.heap.size,0,none⟩=some (.int .i64 tm):=by simp [World.cell?,hs1]
 have s1:V.cell? ⟨w1.heap.size,1,none⟩=some (.int .i64 (i:Int)):=by simp [World.cell?,hs1]
 have k1:=HV.o.2.1.at hi
 have hbs:=bsearch_any (ao i) (cap i) (R i) tm V ((hK.later HV.o.1) i hi) (hR.risesLe hi) (hl i hi)
 clear hb1 HB bV hs1
 go_upto_region 4 with fail
 rw [<-hV]
 clear hV
 go_wp2_with fail
 refine hbs.mono ?_
 clear hbs
 rintro e w2 ⟨k,b,rfl,hbk,hb2⟩
 have hfk:=findK_bs hR hi HS.o.2.2 (by rw [<-HS.o.2.1];exact hbk)
 have H2:Aside (Below w.heap.size w w2/\OpBlk w2 (S+1) zeroO):=⟨zh HV.o.1 hb2,HV.o.2.2.later hb2⟩
 have hl2:=H2.o.2.lt
 have KN:Aside (KnownAt w2 ao R):=hK.later H2.o.1
 obtain ⟨y0,y1,y2,y3,y4,y5,y6,y7,f8⟩:=H2.o.2.cells
 unfold zeroO at y0 y1 y2 y3 y4 y5 y6 y7
 dsimp only at y0 y1 y2 y3 y4 y5 y6 y7
 clear hb2 HV s0 s1 k1
 cases b with
 | false=>
  have HF:Aside (findK R id=none):=hfk.1 rfl
  clear hfk hbk
  go_wp2
  (try simp only [Exit.inBlock,Exit.then])
  refine bodyPost_ret (v:=.tuple #[encO zeroO,.bool false]) ?_ rfl ⟨by rw [HF.o];rfl,?_⟩
  ·rw [results_ct rfl]
   unfold encO zeroO
   go_simp
  exact below_cells (b:=S+1) H2.o.1 qI 0 [.int .i64 0,.int .i64 0,.int .i64 0,.int .u8 0,.int .i64 0,.int .i64 0,.string ⟨#[]⟩,.string ⟨#[]⟩]
 | true=>
  obtain ⟨⟨t,b,n,kd,nd,o,s,v⟩,hx,hf⟩:=hfk.2 rfl
  have HF:Aside (findK R id=some (t,b,n,kd,nd,o,s,v)):=hf
  obtain ⟨blk,off,hao,hc⟩:=(KN.o i hi).get hx
  have hkl:=(jh.1 hx).1
  have hll:=hl i hi
  have r0:=hc 0 _ rfl
  have r1:=hc 1 _ rfl
  have r2:=hc 2 _ rfl
  have r3:=hc 3 _ rfl
  have r4:=hc 4 _ rfl
  have r5:=hc 5 _ rfl
  have r6:=hc 6 _ rfl
  have r7:=hc 7 _ rfl
  simp only [vk] at r0
  have wk:((k:Int)).toNat=k:=zi
  have pk:(0:Int)<=(k:Int):=zi
  have bk:(k:Int)<((R i).length:Int):=zi
  rw [hao]
  clear hfk hbk hf hx hc hao
  go_wp2
  (try simp only [Exit.inBlock,Exit.then])
  refine bodyPost_ret (v:=.tuple #[.agg #[.int .i64 t,.int .i64 b,.int .i64 n,.int .u8 (kd:Int),.int .i64 nd,.int .i64 o,.string s,.string v],.bool true]) ?_ rfl ⟨by rw [HF.o];rfl,?_⟩
  ·rw [results_ct rfl]
   go_simp
  exact below_cells (b:=S+1) H2.o.1 qI 0 [.int .i64 t,.int .i64 b,.int .i64 n,.int .u8 (kd:Int),.int .i64 nd,.int .i64 o,.string s,.string v]
theorem kfind_any (w:World) (ao:Nat->Option Addr) (cap:Nat->Nat) (R:Rws) (id:Int) (hE:Op4 ad w) (hK:KnownAt w ao R) (hR:RowsN R) (hl:∀i,i<4->(R i).length<=1000) (h2: -9223372036854775808<=id) (h3:id<=9223372036854775807):
  Calls prog 196 #[kV ao cap R,.int .i64 id] w fun e w'=>e= .returned (.tuple #[encO ((findK R id).getD zeroO),.bool (findK R id).isSome])/\Below w.heap.size w w':=by
 by_cases h:id<4\/4294967300<=id
 ·rw [findK_out hR h]
  exact kfind_out w ao cap R id hE h h2 h3
 exact kfind_in w ao cap R id hK hR hl zi zi
end
section
theorem join_part (h:RowsK R) {T l:List OpX} (hT:WellK T) (hc:Compat (allR R) T) (hl:∀x,x∈l->x∈T) (hl2:∀x,x∈T->x∈allR R\/x∈l) (hlen:(allR R).length+l.length<=400):∃fresh,(∀a,JoinIs (allR R) l a->a= .inr fresh)/\FreshK (allR R) fresh/\(∀x,x∈allR R++fresh↔x∈allR R\/x∈T)/\WellK (allR R++fresh):=by
 obtain ⟨out,h1,h2⟩:=sift_fine h.num.one hT.one hc hT.ok (l:=l) 0 (fresh:=[]) (fun x hx=>hl x hx) (fun x hx=>yy)
 obtain ⟨k1,k2,k3,k4,k5⟩:=sift_fresh (freshK_nil _) h1
 have hmem:∀x,x∈allR R++out↔x∈allR R\/x∈T:=fun x=>by
  rw [ju]
  constructor
  ·rintro (q | q)
   ·exact .inl q
   exact .inr (h2 x q)
  rintro (q | q)
  ·exact .inl q
  rcases hl2 x q with q | q
  ·exact .inl q
  exact k4 x q
 have hw:WellK (allR R++out):=(h.well.union hT hc).congr (fun x=>by rw [ju];exact (hmem x).symm)
 refine ⟨out,fun a ha=> ?_,k1,hmem,hw⟩
 unfold JoinIs at ha
 rw [h1] at ha
 dsimp only at ha
 rcases ha with ⟨⟨x,hx,q1,q2⟩,_⟩ | ⟨_,⟨x,hx,y,hy,q1,q2,q3⟩,_⟩ | ⟨_,_,⟨x,hx,q⟩,_⟩ | ⟨_,q,_⟩ | ⟨_,_,q⟩
 ·exact ((hw.gap x hx).elim q1 q2).elim
 ·exact (q3 (hw.rise x hx y hy q1 q2)).elim
 ·exact (q (hw.refs x hx)).elim
 ·simp at k5;omega
 exact q
structure NextOp (R:Rws) (i:Nat) (T:Int) (x:OpX):Prop where
 ok:errO x=0
 by_:byO x=(i:Int)
 num:numO x=((R i).length:Int)+1
 time:x.1=T+1
 refs:RefOk (x::allR R) x
theorem num_le {R:Rws} (h:NumK R) {i:Nat} (hi:i<4) {y:OpX} (hy:y∈allR R) (e:byO y=(i:Int)):numO y<=((R i).length:Int):=by
 obtain ⟨k,hk,hyk⟩:=mem_allR.1 hy
 obtain ⟨j,hj,q1,q2,_⟩:=h.get hk hyk
 have:k=i:=zi
 subst this
 have:=(jh.1 hj).1
 omega
theorem NextOp.well {R:Rws} {i:Nat} {T:Int} {x:OpX} (hx:NextOp R i T x) (hR:RowsK R) (hi:i<4) (hT:∀y∈allR R,y.1<=T):WellK (x::allR R)/\∀y∈allR R,byO y=byO x->numO y<numO x:=by
 have hnew:∀y∈allR R,byO y=byO x->numO y<numO x:=fun y hy e=>by
  have:=num_le hR.num hi hy (e.trans hx.by_)
  have:=hx.num
  omega
 refine ⟨hR.well.add hx.ok ?_ hnew (fun y hy=> ?_) hx.refs,hnew⟩
 ·by_cases h0:(R i).length=0
  ·left
   have:=hx.num
   omega
  right
  have hl:(R i).length - 1<(R i).length:=zi
  have hm:(R i)[(R i).length - 1]∈R i:=vJ hl
  obtain ⟨j,hj,q1,q2,_⟩:=hR.num.get hi hm
  have hlast:=hR.num i hi ((R i).length - 1) _ (ji hl)
  refine ⟨(R i)[(R i).length - 1],mem_allR.2 ⟨i,hi,hm⟩,by rw [q1,hx.by_],?_⟩
  have h3:=hlast.2.1
  have:=hx.num
  omega
 have h1:=hT y hy
 have h2:=hx.time
 unfold CLt stO
 dsimp only
 omega
theorem compat_own (hx:NextOp R i T x) (hR:RowsK R) (hi:i<4) (hT:∀y∈allR R,y.1<=T):Compat (allR R) (x::allR R):=fun a ha b hb e1 e2=>by
 rcases jn.1 hb with rfl | hb
 ·have:=(hx.well hR hi hT).2 a ha e1
  omega
 exact hR.well.one a ha b hb e1 e2
theorem NumK.nodup (h:NumK R):(allR R).Nodup:=by
 have row:∀i,i<4->(R i).Nodup:=fun i hi=>by
  unfold List.Nodup
  rw [jF]
  intro a b ha hb hab e
  have h1:=h i hi a _ (ji ha)
  have h2:=h i hi b _ (ji hb)
  rw [e] at h1
  have:=h1.2.1
  have:=h2.2.1
  omega
 have off:∀i j,i<4->j<4->i≠j->∀a∈R i,∀b∈R j,a≠b:=fun i j hi hj hij a ha b hb e=>by
  obtain ⟨_,_,q1,_⟩:=h.get hi ha
  obtain ⟨_,_,q2,_⟩:=h.get hj hb
  rw [e] at q1
  omega
 unfold allR
 simp only [vz,ju]
 refine ⟨row 0 zi,⟨row 1 zi,⟨row 2 zi,row 3 zi,off 2 3 zi zi zi⟩,fun a ha b hb=> ?_⟩,fun a ha b hb=> ?_⟩
 ·rcases hb with hb | hb
  ·exact off 1 2 zi zi zi a ha b hb
  exact off 1 3 zi zi zi a ha b hb
 rcases hb with hb | hb | hb
 ·exact off 0 1 zi zi zi a ha b hb
 ·exact off 0 2 zi zi zi a ha b hb
 exact off 0 3 zi zi zi a ha b hb
theorem len_sub {α:Type} [DecidableEq α]:∀ {l H:List α},l.Nodup->(∀x,x∈l->x∈H)->l.length<=H.length
 | [],_,_,_=>js _
 | x::t,H,hn,hs=>by
  obtain ⟨h1,h2⟩:=List.nodup_cons.1 hn
  have hx:x∈H:=hs x zm
  have:=len_sub (l:=t) (H:=H.erase x) h2 (fun y hy=>(List.mem_erase_of_ne (fun e=>h1 (by rw [<-e];exact hy))).2 (hs y qO))
  rw [List.length_erase_of_mem hx] at this
  have hp:0<H.length:=List.length_pos_of_mem hx
  rw [jK]
  omega
end
section
open Go.RowKit Go.Lib Go.Sort
section
variable {P:Program} {ops:Array Oper} {Q:Exit→Act→World→Prop} {md:Region.Mode} {S:World→Prop}
theorem wpAnyH_two {j:Nat} {oi oj:Oper} {fuel:Nat} {listed:Array Bool} {a:Act} (hr:Region.ready md ops listed= [i,j]) (hoi:ops[i]? =some oi) (hoj:ops[j]? =some oj)
  (h1:∀K:Act->World->Prop,(∀a' w',S w'->wpAnyH P md ops Q S fuel (listed.setIfInBounds i true) a' w'->K a' w')->if Region.wanted oi (yielded ops a.tmps)=true then Oper.wp P oi a w K Q else K (a.put oi.dst undef) w)
  (h2:∀K:Act->World->Prop,(∀a' w',S w'->wpAnyH P md ops Q S fuel (listed.setIfInBounds j true) a' w'->K a' w')->if Region.wanted oj (yielded ops a.tmps)=true then Oper.wp P oj a w K Q else K (a.put oj.dst undef) w):wpAnyH P md ops Q S (fuel+1) listed a w:=by
 refine ⟨fun h0=>yW,fun k hk=> ?_⟩
 rw [hr] at hk
 simp only [jn,ui,or_false] at hk
 rcases hk with rfl | rfl
 ·have:=h1 (fun a' w'=>S w'/\wpAnyH P md ops Q S fuel (listed.setIfInBounds k true) a' w') (fun a' w' h1 h2=>⟨h1,h2⟩)
  unfold wpOp
  simp only [hoi]
  split
  ·rename_i hw
   rw [if_pos hw] at this
   exact .inl this
  rename_i hw
  rw [if_neg hw] at this
  exact this
 have:=h2 (fun a' w'=>S w'/\wpAnyH P md ops Q S fuel (listed.setIfInBounds k true) a' w') (fun a' w' h1 h2=>⟨h1,h2⟩)
 unfold wpOp
 simp only [hoj]
 split
 ·rename_i hw
  rw [if_pos hw] at this
  exact .inl this
 rename_i hw
 rw [if_neg hw] at this
 exact this
end
theorem opBlk_put {Z:Nat} (h:OpBlk w Z x) (y:OpX):OpBlk (w.setCells Z 0 (encX y)) Z y:=by
 have h1:=heap_setCell_same w Z 0 _ _ (.int .i64 y.1) h
 have h2:=heap_setCell_same _ Z 1 _ _ (.int .i64 y.2.1) h1
 have h3:=heap_setCell_same _ Z 2 _ _ (.int .i64 y.2.2.1) h2
 have h4:=heap_setCell_same _ Z 3 _ _ (.int .u8 (y.2.2.2.1:Int)) h3
 have h5:=heap_setCell_same _ Z 4 _ _ (.int .i64 y.2.2.2.2.1) h4
 have h6:=heap_setCell_same _ Z 5 _ _ (.int .i64 y.2.2.2.2.2.1) h5
 have h7:=heap_setCell_same _ Z 6 _ _ (.string y.2.2.2.2.2.2.1) h6
 have h8:=heap_setCell_same _ Z 7 _ _ (.string y.2.2.2.2.2.2.2) h7
 exact h8
