import Derived.Test.YtebpcnkdhgnghaaGreatDoorPM33
set_option linter.unusedSimpArgs false
set_option linter.unusedVariables false
set_option maxRecDepth 100000
set_option maxHeartbeats 64000000
namespace Go.Proofs.YtebpcnkdhgnghaaGreatDoor
open Go.Proofs.Tryz
variable {B a b bm d j k n p q r:Nat} {ad:Nat→Addr} {st:Nat→DSt} {bp br ow:Nat→Nat} {gd gd':Nat→Option Obj} {K:Nat→Rws} {dv:Nat→Value} {o:Obj} {P:Program} {fv pv v:Value} {w w':World}
section
open Go Go.RowKit Go.Lib
open scoped Classical
abbrev ae:=Nat×Nat×Bool×(Nat->Int)×Option Addr×Nat×List OpX
abbrev Mo (x:ae):List OpX:=x.2.2.2.2.2.2
def Na (x:ae):Value:=.slice x.2.2.2.2.1 x.2.2.2.2.2.2.length x.2.2.2.2.2.1
def Mj (x:ae):List Value:=[.int .i64 (x.1:Int),.int .i64 (x.2.1:Int),.bool x.2.2.1,.int .i64 (x.2.2.2.1 0),.int .i64 (x.2.2.2.1 1),.int .i64 (x.2.2.2.1 2),.int .i64 (x.2.2.2.1 3),Na x]
def kD (bp:Nat->Nat) (n:Nat):List Value:=(List.range n).map fun r=>.pointer (some ⟨bp r,0,none⟩)
theorem BE (bp:Nat->Nat) (n:Nat):kD bp (n+1)=kD bp n++ [.pointer (some ⟨bp n,0,none⟩)]:=by unfold kD;rw [List.range_succ,un];rfl
theorem FJ (bp:Nat->Nat) (h:r<n):(kD bp n)[r]? =some (.pointer (some ⟨bp r,0,none⟩)):=by unfold kD;rw [uG,List.getElem?_range h];rfl
theorem tF {bp':Nat->Nat} (h:∀r,r<n->bp r=bp' r):kD bp n=kD bp' n:=by
 unfold kD
 exact Zi (fun r hr=>by rw [h r (List.mem_range.1 hr)])
def PeerC (w:World) (p b d:Nat):Prop:=w.heap[p]? =some (.cells #[.pointer (some ⟨b,0,none⟩),.pointer (some ⟨d,0,none⟩)] 101 (0,0))
theorem PeerC.lt (h:PeerC w p b d):p<w.heap.size:=(vD.1 h).1
theorem PeerC.c0 (h:PeerC w p b d):w.cell? ⟨p,0,none⟩=some (.pointer (some ⟨b,0,none⟩)):=by unfold PeerC at h;simp [World.cell?,h]
theorem PeerC.c1 (h:PeerC w p b d):w.cell? ⟨p,1,none⟩=some (.pointer (some ⟨d,0,none⟩)):=by unfold PeerC at h;simp [World.cell?,h]
theorem PeerC.same (h:PeerC w p b d) (e:w'.heap[p]? =w.heap[p]?):PeerC w' p b d:=e.trans h
def MeshC (w:World) (bm:Nat) (pv fv:Value):Prop:=w.heap[bm]? =some (.cells #[pv,fv] 93 (0,0))
theorem MeshC.lt (h:MeshC w bm pv fv):bm<w.heap.size:=(vD.1 h).1
theorem MeshC.c0 (h:MeshC w bm pv fv):w.cell? ⟨bm,0,none⟩=some pv:=by unfold MeshC at h;simp [World.cell?,h]
theorem MeshC.fz (h:MeshC w bm pv fv) (o:Nat):w.frozen? ⟨bm,o,none⟩=false:=by unfold MeshC at h;simp [World.frozen?,h]
theorem MeshC.set0 (h:MeshC w bm pv fv) (v:Value):MeshC (w.setCell ⟨bm,0,none⟩ v) bm v fv:=heap_setCell_same w bm 0 _ _ _ h
structure Jp (w:World) (ow:Nat->Nat) (n:Nat) (x:ae):Prop where
 from_:x.1<n
 to_:x.2.1<n
 ops:OpsAt w (Na x) (Mo x)
 own:∀g,(Na x).ownBlock=some g->ow g=4
structure MeshAt (gd:Nat->Option Obj) (B:Nat) (w:World) (ow:Nat->Nat) (n bm:Nat) (pv fv:Value) (bp br d:Nat->Nat) (dv:Nat->Value) (c:Nat->Nat->Nat) (K:Nat->Rws) (st:Nat->DSt) (N:List ae):Prop where
 few:n<=4
 mesh:MeshC w bm pv fv
 om:ow bm=1
 peers:w.ownsRow B 94 1 pv n (kD bp n)
 op:∀g,pv.ownBlock=some g->ow g=2
 fly:w.ownsRow B 175 8 fv N.length (aI Mj N)
 of:∀g,fv.ownBlock=some g->ow g=3
 notes:∀x∈N,Jp w ow n x
 peer:∀r,r<n->PeerC w (bp r) (br r) (d r)/\ow (bp r)=30+r
 rep:∀r,r<n->RepOwn B w (c r) (br r) (r:Int) (K r)/\∀k,c r k≠0->ow k=10+r
 disk:∀r,r<n->DiskAt w (d r) (dv r) (st r)/\∀k,pL (d r) (dv r) k->ow k=20+r
 low:∀k,ow k≠0->B<=k
 high:∀k,w.heap.size<=k->ow k=0
 base:B<=w.heap.size
 guard:∀k o,gd k=some o->ow k=5/\w.heap[k]? =some o
def cW (ow:Nat->Nat) (w w':World) (j:Nat):Nat->Nat:=fun k=>if k<w.heap.size then ow k else if k<w'.heap.size then j else 0
theorem eY (h:k<w.heap.size):cW ow w w' j k=ow k:=if_pos h
theorem AQ (h:w.heap.size<=k) (h':k<w'.heap.size):cW ow w w' j k=j:=by unfold cW;rw [if_neg zj,if_pos h']
theorem gR {xs:List OpX} (h:OpsAt w v xs) (e:∀g,v.ownBlock=some g->w'.heap[g]? =w.heap[g]?):OpsAt w' v xs:=by
 rcases h with h | ⟨g,o,cp,rfl,h2⟩
 ·exact .inl h
 exact .inr ⟨g,o,cp,rfl,fun j u hj=>by rw [uc (a:=⟨g,o+j,none⟩) (e g rfl)];exact h2 j u hj⟩
theorem RepOwn.keep {c:Nat->Nat} {br:Nat} {by_:Int} {R:Rws} (h:RepOwn B w c br by_ R) (hs:w.heap.size<=w'.heap.size) (e:∀k,k<w.heap.size->c k≠0->w'.heap[k]? =w.heap[k]?):RepOwn B w' c br by_ R:=
 ⟨h.rep.kept (fun i hi=>⟨fun k hk q=>e k hk (by rw [q];exact hi),fun _ _=>rfl⟩),h.low,fun k hk=>h.high k (vI hs hk)⟩
structure Ku (gd:Nat->Option Obj) (j:Nat) (B:Nat) (w:World) (ow:Nat->Nat) (n bm:Nat) (pv fv:Value) (bp br d:Nat->Nat) (dv:Nat->Value) (c:Nat->Nat->Nat) (K:Nat->Rws) (st:Nat->DSt) (N:List ae):Prop where
 few:n<=4
 mesh:j≠1->MeshC w bm pv fv
 om:ow bm=1
 peers:j≠2->w.ownsRow B 94 1 pv n (kD bp n)
 op:∀g,pv.ownBlock=some g->ow g=2
 fly:j≠3->w.ownsRow B 175 8 fv N.length (aI Mj N)
 of:∀g,fv.ownBlock=some g->ow g=3
 notes:j≠4->∀x∈N,Jp w ow n x
 peer:∀r,r<n->(j≠30+r->PeerC w (bp r) (br r) (d r))/\ow (bp r)=30+r
 rep:∀r,r<n->(j≠10+r->RepOwn B w (c r) (br r) (r:Int) (K r))/\∀k,c r k≠0->ow k=10+r
 disk:∀r,r<n->(j≠20+r->DiskAt w (d r) (dv r) (st r))/\∀k,pL (d r) (dv r) k->ow k=20+r
 low:∀k,ow k≠0->B<=k
 high:∀k,w.heap.size<=k->ow k=0
 base:B<=w.heap.size
 guard:j≠5->∀k o,gd k=some o->ow k=5/\w.heap[k]? =some o
section
variable {gd:Nat→Option Obj} {B:Nat} {w:World} {ow:Nat→Nat} {n bm:Nat} {pv fv:Value} {bp br d:Nat→Nat} {dv:Nat→Value} {c:Nat→Nat→Nat} {K:Nat→Rws} {st:Nat→DSt} {N:List ae}
theorem MeshAt.in_ (h:MeshAt gd B w ow n bm pv fv bp br d dv c K st N) (hk:ow k≠0):k<w.heap.size:=by
 by_cases q:k<w.heap.size
 ·exact q
 exact absurd (h.high k zj) hk
theorem MeshAt.but (h:MeshAt gd B w ow n bm pv fv bp br d dv c K st N) (hk:Keeps (fun k=>ow k=j) w w'):Ku gd j B w' (cW ow w w' j) n bm pv fv bp br d dv c K st N:=by
 have hin:∀ {k i:Nat},ow k=i->i≠0->k<w.heap.size:=fun {k i} e hi=>h.in_ yK
 have same:∀ {k i:Nat},ow k=i->i≠0->j≠i->w'.heap[k]? =w.heap[k]? :=fun {k i} e hi hj=>hk.block k (hin e hi) (fun q=>hj (by rw [<-q,e]))
 have hue:∀ {k i:Nat},ow k=i->i≠0->cW ow w w' j k=i:=fun {k i} e hi=>(eY (hin e hi)).trans e
 refine ⟨h.few,fun hj=>(same h.om zj hj).trans h.mesh,hue h.om zj,fun hj=>av h.peers (fun g hg=>same (h.op g hg) zj hj),fun g hg=>hue (h.op g hg) zj,fun hj=>av h.fly (fun g hg=>same (h.of g hg) zj hj),fun g hg=>hue (h.of g hg) zj,fun hj x hx=> ?_,fun r hr=> ?_,fun r hr=> ?_,fun r hr=> ?_,fun k hq=> ?_,fun k hq=> ?_,vI h.base hk.size,fun hj k o e=>⟨hue (h.guard k o e).1 zj,(same (h.guard k o e).1 zj hj).trans (h.guard k o e).2⟩⟩
 ·have hn:=h.notes x hx
  exact ⟨hn.from_,hn.to_,gR hn.ops (fun g hg=>same (hn.own g hg) zj hj),fun g hg=>hue (hn.own g hg) zj⟩
 ·obtain ⟨h1,h2⟩:=h.peer r hr
  exact ⟨fun hj=>h1.same (same h2 zj hj),hue h2 zj⟩
 ·obtain ⟨h1,h2⟩:=h.rep r hr
  exact ⟨fun hj=>h1.keep hk.size (fun k _ e=>same (h2 k e) zj hj),fun k e=>hue (h2 k e) zj⟩
 ·obtain ⟨h1,h2⟩:=h.disk r hr
  exact ⟨fun hj=>h1.same (fun k e=>same (h2 k e) zj hj),fun k e=>hue (h2 k e) zj⟩
 ·by_cases q:k<w.heap.size
  ·rw [eY q] at hq;exact h.low k hq
  have:=h.base;omega
 have:=hk.size
 unfold cW
 exact km5
theorem MeshAt.still (h:MeshAt gd B w ow n bm pv fv bp br d dv c K st N) {S:Nat->Prop} (hk:Keeps S w w') (hS:∀k,S k->ow k=0):MeshAt gd B w' ow n bm pv fv bp br d dv c K st N:=by
 have same:∀ {k i:Nat},ow k=i->i≠0->w'.heap[k]? =w.heap[k]? :=fun {k i} e hi=>hk.block k (h.in_ yK) (fun q=>hi (by rw [<-e];exact hS k q))
 exact ⟨h.few,(same h.om zj).trans h.mesh,h.om,av h.peers (fun g hg=>same (h.op g hg) zj),h.op,av h.fly (fun g hg=>same (h.of g hg) zj),h.of,fun x hx=>⟨(h.notes x hx).from_,(h.notes x hx).to_,gR (h.notes x hx).ops (fun g hg=>same ((h.notes x hx).own g hg) zj),(h.notes x hx).own⟩,fun r hr=>⟨(h.peer r hr).1.same (same (h.peer r hr).2 zj),(h.peer r hr).2⟩,fun r hr=>⟨(h.rep r hr).1.keep hk.size (fun k _ e=>same ((h.rep r hr).2 k e) zj),(h.rep r hr).2⟩,fun r hr=>⟨(h.disk r hr).1.same (fun k e=>same ((h.disk r hr).2 k e) zj),(h.disk r hr).2⟩,h.low,fun k hq=>h.high k (vI hk.size hq),vI h.base hk.size,fun k o e=>⟨(h.guard k o e).1,(same (h.guard k o e).1 zj).trans (h.guard k o e).2⟩⟩
theorem MeshAt.later (h:MeshAt gd B w ow n bm pv fv bp br d dv c K st N) (hb:Below w.heap.size w w'):MeshAt gd B w' ow n bm pv fv bp br d dv c K st N:=h.still (aX hb) (fun k e=>h.high k e)
theorem MeshAt.repAct (h:MeshAt gd B w ow n bm pv fv bp br d dv c K st N) {a:Nat} (ha:a<n) {w':World} {c':Nat->Nat} {R':Rws} (hA:Acts w (c a) w' c') (hR:RepOwn B w' c' (br a) (a:Int) R'):MeshAt gd B w' (cW ow w w' (10+a)) n bm pv fv bp br d dv (aa c a c') (aa K a R') st N/\Keeps (fun k=>ow k=10+a) w w':=by
 have hf:=h.few
 have hk:Keeps (fun k=>ow k=10+a) w w':=hA.keeps.mono (fun k _ e=>(h.rep a ha).2 k e)
 have hb:=h.but hk
 refine ⟨⟨hf,hb.mesh zj,hb.om,hb.peers zj,hb.op,hb.fly zj,hb.of,hb.notes zj,fun r hr=>⟨(hb.peer r hr).1 zj,(hb.peer r hr).2⟩,fun r hr=> ?_,fun r hr=>⟨(hb.disk r hr).1 zj,(hb.disk r hr).2⟩,hb.low,hb.high,hb.base,hb.guard zj⟩,hk⟩
 by_cases e:r=a
 ·subst e
  rw [au,au]
  refine ⟨hR,fun k q=> ?_⟩
  by_cases hk':k<w.heap.size
  ·rw [eY hk']
   rw [hA.hue k hk'] at q
   exact (h.rep r ha).2 k q
  refine AQ zj ?_
  by_cases h2:k<w'.heap.size
  ·exact h2
  exact absurd (hR.high k zj) q
 rw [aj _ _ e,aj _ _ e]
 exact ⟨(hb.rep r hr).1 zj,(hb.rep r hr).2⟩
theorem MeshAt.diskAct (h:MeshAt gd B w ow n bm pv fv bp br d dv c K st N) (ha:a<n) {st':DSt} (hW:WroteD (d a) (dv a) w st' w'):∃v',MeshAt gd B w' (cW ow w w' (20+a)) n bm pv fv bp br d (aa dv a v') c K (aa st a st') N/\Keeps (fun k=>ow k=20+a) w w':=by
 obtain ⟨v',h1,h2,h3⟩:=hW
 have hf:=h.few
 have hk:Keeps (fun k=>ow k=20+a) w w':=h2.mono (fun k _ e=>(h.disk a ha).2 k e)
 have hb:=h.but hk
 refine ⟨v',⟨hf,hb.mesh zj,hb.om,hb.peers zj,hb.op,hb.fly zj,hb.of,hb.notes zj,fun r hr=>⟨(hb.peer r hr).1 zj,(hb.peer r hr).2⟩,fun r hr=>⟨(hb.rep r hr).1 zj,(hb.rep r hr).2⟩,fun r hr=> ?_,hb.low,hb.high,hb.base,hb.guard zj⟩,hk⟩
 by_cases e:r=a
 ·subst e
  rw [au,au]
  refine ⟨h1,fun k q=> ?_⟩
  rcases q with q | q
  ·exact (hb.disk r hr).2 k (.inl q)
  rcases h3 k q with p | p
  ·exact (hb.disk r hr).2 k (.inr p)
  exact AQ p (h1.row.lt q)
 rw [aj _ _ e,aj _ _ e]
 exact ⟨(hb.disk r hr).1 zj,(hb.disk r hr).2⟩
theorem MeshAt.below (h:MeshAt gd B w ow n bm pv fv bp br d dv c K st N) {w':World} {S:Nat->Prop} (hk:Keeps S w w') (hS:∀k,S k->ow k≠0):Below B w w':=hk.below h.base (fun k e=>h.low k (hS k e))
theorem MeshAt.ward (h:MeshAt gd B w ow n bm pv fv bp br d dv c K st N) (hb:Below w.heap.size w w') (hq:w.heap.size<=q) (ho:w'.heap[q]? =some o):MeshAt (fun k=>if k=q then some o else gd k) B w' (fun k=>if k=q then 5 else ow k) n bm pv fv bp br d dv c K st N:=by
 have h':=h.later hb
 have hue:∀ {k i:Nat},ow k=i->i≠0->(if k=q then 5 else ow k)=i:=fun {k i} e hi=>by
  rw [if_neg (fun e'=>by have:=h.in_ (k:=k) yK;omega)];exact e
 refine ⟨h.few,h'.mesh,hue h.om zj,h'.peers,fun g hg=>hue (h.op g hg) zj,h'.fly,fun g hg=>hue (h.of g hg) zj,fun x hx=>⟨(h'.notes x hx).from_,(h'.notes x hx).to_,(h'.notes x hx).ops,fun g hg=>hue ((h.notes x hx).own g hg) zj⟩,fun r hr=>⟨(h'.peer r hr).1,hue (h.peer r hr).2 zj⟩,fun r hr=>⟨(h'.rep r hr).1,fun k e=>hue ((h.rep r hr).2 k e) zj⟩,fun r hr=>⟨(h'.disk r hr).1,fun k e=>hue ((h.disk r hr).2 k e) zj⟩,fun k e=> ?_,fun k e=> ?_,h'.base,fun k o' e=> ?_⟩
 ·by_cases e':k=q
  ·have:=h.base;omega
  rw [if_neg e'] at e;exact h.low k e
 ·have hql:=(vD.1 ho).1
  rw [if_neg zj]
  exact h.high k (vI hb.size e)
 by_cases e':k=q
 ·subst e'
  rw [if_pos rfl] at e |-
  cases e
  exact ⟨rfl,ho⟩
 rw [if_neg e'] at e |-
 exact h'.guard k o' e
theorem MeshAt.free (h:MeshAt gd B w ow n bm pv fv bp br d dv c K st N) (hq:ow q=5) (hk:Keeps (fun k=>k=q) w w') (hg:∀k o,gd' k=some o->gd k=some o/\k≠q):MeshAt gd' B w' ow n bm pv fv bp br d dv c K st N:=by
 have same:∀ {k i:Nat},ow k=i->i≠0->i≠5->w'.heap[k]? =w.heap[k]? :=fun {k i} e hi h5=>hk.block k (h.in_ yK) (fun p=>h5 (by have p':k=q:=p;rw [<-e,p',hq]))
 exact ⟨h.few,(same h.om zj zj).trans h.mesh,h.om,av h.peers (fun g hg=>same (h.op g hg) zj zj),h.op,av h.fly (fun g hg=>same (h.of g hg) zj zj),h.of,fun x hx=>⟨(h.notes x hx).from_,(h.notes x hx).to_,gR (h.notes x hx).ops (fun g hg=>same ((h.notes x hx).own g hg) zj zj),(h.notes x hx).own⟩,fun r hr=>⟨(h.peer r hr).1.same (same (h.peer r hr).2 zj zj),(h.peer r hr).2⟩,fun r hr=>⟨(h.rep r hr).1.keep hk.size (fun k _ e=>same ((h.rep r hr).2 k e) zj (by have:=h.few;omega)),(h.rep r hr).2⟩,fun r hr=>⟨(h.disk r hr).1.same (fun k e=>same ((h.disk r hr).2 k e) zj zj),(h.disk r hr).2⟩,h.low,fun k hq=>h.high k (vI hk.size hq),vI h.base hk.size,fun k o e=>⟨(h.guard k o (hg k o e).1).1,(hk.block k (h.in_ (by rw [(h.guard k o (hg k o e).1).1];omega)) (hg k o e).2).trans (h.guard k o (hg k o e).1).2⟩⟩
end
def MeshS (gd:Nat->Option Obj) (B n bm:Nat) (K:Nat->Rws) (st:Nat->DSt) (N:List ae) (w:World):Prop:=∃ow pv fv bp br d dv c,MeshAt gd B w ow n bm pv fv bp br d dv c K st N
theorem MeshS.ward {gd:Nat->Option Obj} {B n bm:Nat} {K:Nat->Rws} {st:Nat->DSt} {N:List ae} {w w':World} (h:MeshS gd B n bm K st N w) (hb:Below w.heap.size w w') {q:Nat} {o:Obj} (hq:w.heap.size<=q) (ho:w'.heap[q]? =some o):MeshS (fun k=>if k=q then some o else gd k) B n bm K st N w':=by
 obtain ⟨ow,pv,fv,bp,br,d,dv,c,hm⟩:=h
 exact ⟨_,_,_,_,_,_,_,_,hm.ward hb hq ho⟩
theorem MeshS.held {N:List ae} (h:MeshS gd B n bm K st N w) (hq:gd q=some o):w.heap[q]? =some o:=by
 obtain ⟨ow,pv,fv,bp,br,d,dv,c,hm⟩:=h
 exact (hm.guard q o hq).2
theorem MeshS.free {gd gd':Nat->Option Obj} {B n bm:Nat} {K:Nat->Rws} {st:Nat->DSt} {N:List ae} {w w':World} (h:MeshS gd B n bm K st N w) {q:Nat} {o:Obj} (hq:gd q=some o) (hk:Keeps (fun k=>k=q) w w') (hg:∀k o,gd' k=some o->gd k=some o/\k≠q):MeshS gd' B n bm K st N w':=by
 obtain ⟨ow,pv,fv,bp,br,d,dv,c,hm⟩:=h
 exact ⟨_,_,_,_,_,_,_,_,hm.free (hm.guard q o hq).1 hk hg⟩
theorem MeshS.later {gd:Nat->Option Obj} {B n bm:Nat} {K:Nat->Rws} {st:Nat->DSt} {N:List ae} {w w':World} (h:MeshS gd B n bm K st N w) (hb:Below w.heap.size w w'):MeshS gd B n bm K st N w':=by
 obtain ⟨ow,pv,fv,bp,br,d,dv,c,hm⟩:=h
 exact ⟨_,_,_,_,_,_,_,_,hm.later hb⟩
end
section
open Go Go.RowKit Go.Lib
open scoped Classical
theorem Ey (K:Nat->Rws) (a:Nat) (R':Rws):(fun r=>aQ (aa K a R' r))=aa (fun r=>aQ (K r)) a (aQ R'):=by
 funext r
 unfold aa
 split<;>rfl
theorem rY (st:Nat->DSt) (a:Nat) (s:DSt):(fun r=>(aa st a s r).2.1)=aa (fun r=>(st r).2.1) a s.2.1:=by
 funext r
 unfold aa
 split<;>rfl
structure MeshI (n i:Nat) (G:List OpX) (K:Nat->Rws) (D:Nat->List OpX) (st:Nat->DSt) (N:List ae):Prop where
 inv:MInv n i G (fun r=>aQ (K r)) D (fun r=>(st r).2.1)
 disk:∀r,r<n->DiskI (st r) (D r)
 notes:∀x∈N,(∀y∈Mo x,y∈G)/\(Mo x).length<=i
 rows:∀r,r<n->RowsK (K r)
section
variable {n i:Nat} {G:List OpX} {K:Nat→Rws} {D:Nat→List OpX} {st:Nat→DSt} {N:List ae}
theorem MeshI.up (h:MeshI n i G K D st N) {j:Nat} (hij:i<=j):MeshI n j G K D st N:=⟨h.inv.up hij,h.disk,fun x hx=>⟨(h.notes x hx).1,vI (h.notes x hx).2 hij⟩,h.rows⟩
theorem MeshI.len (h:MeshI n i G K D st N) (hr:r<n):(aQ (K r)).length<=i:=h.inv.slen hr (h.rows r hr).num.nodup
theorem MeshI.time (h:MeshI n i G K D st N) {r:Nat} (hr:r<n) {T:Int} (hT:dM (aQ (K r)) T):T<=(i:Int):=by
 rcases hT.2.1 with q | ⟨x,hx,q⟩
 ·omega
 have:=h.inv.time x (h.inv.sub r hr x hx);omega
theorem MeshI.dlen (h:MeshI n i G K D st N) {r:Nat} (hr:r<n):(D r).length<=i:=h.inv.dlen hr
theorem MeshI.blen (h:MeshI n i G K D st N) (hr:r<n) (hi:i<=200):(st r).1.length<=65536:=by
 have h1:=(h.disk r hr).len
 have h2:=h.dlen hr
 omega
theorem MeshI.dark (h:MeshI n i G K D st N) {a:Nat} {s:DSt} (hs:DiskI s (D a)) (ho:s.2.1=false->(st a).2.1=false):MeshI n i G K D (aa st a s) N:=by
 refine ⟨?_,fun r hr=> ?_,h.notes,h.rows⟩
 ·rw [rY]
  refine h.inv.dark (fun r hr e=> ?_)
  by_cases q:r=a
  ·subst q;rw [au] at e;exact ho e
  rw [aj _ _ q] at e;exact e
 by_cases q:r=a
 ·subst q;rw [au];exact hs
 rw [aj _ _ q];exact h.disk r hr
theorem MeshI.made (h:MeshI n i G K D st N) {a:Nat} (ha:a<n) {x:OpX} {T:Int} {R':Rws} {s:DSt} (ha4:a<4) (hT:dM (aQ (K a)) T) (hx:NextOp (K a) a T x) (hon:(st a).2.1=false) (hs:DiskI s (D a++ [x])) (hso:s.2.1=false) (hR:RowsK R') (hm:∀y,y∈aQ R'↔y=x\/y∈aQ (K a)):MeshI n (i+1) (G++ [x]) (aa K a R') (aa D a (D a++ [x])) (aa st a s) N:=by
 have hw:=hx.well (h.rows a ha) ha4 hT.1
 refine ⟨?_,fun r hr=> ?_,fun y hy=>⟨fun z hz=>uk _ ((h.notes y hy).1 z hz),vI (h.notes y hy).2 zj⟩,fun r hr=> ?_⟩
 ·rw [Ey,rY,hso]
  exact h.inv.made ha hon hx.by_ (by have:=hx.time;have:=h.time ha hT;omega) hw.1 hw.2 hm
 ·by_cases q:r=a
  ·subst q;rw [au,au];exact hs
  rw [aj _ _ q,aj _ _ q];exact h.disk r hr
 by_cases q:r=a
 ·subst q;rw [au];exact hR
 rw [aj _ _ q];exact h.rows r hr
end
def OG (R:Rws):Nat->Int:=fun i=>((R i).length:Int)
end
section
open Go.RowKit Go.Lib Go.Sort Go.Maps
open scoped Classical
end
section
open Go.RowKit Go.Lib Go.Sort Go.Maps
open scoped Classical
def Ia (ad:Nat->Addr) (w:World) (R:Rws) (i:Nat) (P:OpX->Nat->Prop) (e:Ending) (w':World):Prop:=∃(y:OpX) (cd:Nat),e= .returned (.tuple #[bT y,eV ad cd])/\Aside (Below w.heap.size w w'/\cd<=12/\((cd≠0/\y=aR)\/(cd=0/\∃T,dM (aQ R) T/\NextOp R i T y)))/\Aside (P y cd)
end
section
open Go.RowKit Go.Lib Go.Sort Go.Maps
open scoped Classical
structure EnvM (B:Nat) (ad:Nat->Addr) (w:World):Prop where
 t:EnvT B ad w
 j:EnvJ B ad w
 cyc:Aside (Cyc ad)
theorem EnvM.mono {B:Nat} {ad:Nat->Addr} {w w':World} (h:EnvM B ad w) (hb:Below B w w'):EnvM B ad w':=⟨h.t.mono hb,h.j.mono hb,h.cyc⟩
theorem EnvM.later (h:EnvM B ad w) (hb:Below w.heap.size w w'):EnvM B ad w':=h.mono (hb.mono h.t.env.size)
theorem EnvM.up {B B':Nat} {ad:Nat->Addr} {w:World} (h:EnvM B ad w) (hB:B<=B') (hs:B'<=w.heap.size):EnvM B' ad w:=⟨h.t.up hB hs,h.j.up hB hs,h.cyc⟩
theorem lX {cd:Nat} (h:cd≠0):eV ad cd= .iface 450 (.pointer (some (ad (cd - 1)))):=if_neg h
def OT (ow:Nat->Nat) (w:World) (ow':Nat->Nat) (w':World):Prop:=∀k,k<w.heap.size->ow k=0->ow' k=0/\w'.heap[k]? =w.heap[k]?
def ON (gd:Nat->Option Obj) (B n bm:Nat) (ow:Nat->Nat) (w:World) (K:Nat->Rws) (st:Nat->DSt) (N:List ae) (w':World):Prop:=∃ow' pv fv bp br d dv c,MeshAt gd B w' ow' n bm pv fv bp br d dv c K st N/\OT ow w ow' w'
def DoX (K K':Nat->Rws) (st st':Nat->DSt) (a:Nat) (y0:OpX) (cd0:Nat) (y:OpX) (cd:Nat):Prop:=(cd0≠0/\cd=cd0/\y=aR/\K'=K/\st'=st)\/(cd0=0/\(fG (st a) y0).1≠0/\cd=(fG (st a) y0).1/\y=aR/\K'=K/\st'=aa st a (fG (st a) y0).2)\/(cd0=0/\(fG (st a) y0).1=0/\cd=0/\y=y0/\(∃R',K'=aa K a R'/\RowsK R'/\∀z,z∈aQ R'↔z=y0\/z∈aQ (K a))/\st'=aa st a (fG (st a) y0).2)
def Nb (gd:Nat->Option Obj) (B n bm i:Nat) (ad:Nat->Addr) (ow:Nat->Nat) (G:List OpX) (K:Nat->Rws) (st:Nat->DSt) (N:List ae) (a:Nat) (P:OpX->Nat->Prop) (w:World) (e:Ending) (w':World):Prop:=∃(y:OpX) (cd:Nat) (G':List OpX) (K':Nat->Rws) (D':Nat->List OpX) (st':Nat->DSt),e= .returned (.tuple #[bT y,eV ad cd])/\Aside (ON gd B n bm ow w K' st' N w'/\Below B w w'/\MeshI n (i+1) G' K' D' st' N/\(∀r,r<n->∀x∈aQ (K r),x∈aQ (K' r))/\((cd≠0/\G'=G)\/(cd=0/\G'=G++ [y]/\byO y=(a:Int)))/\∃y0 cd0,P y0 cd0/\(cd0=0->(st a).2.1=false->(st a).2.2.1=false->cd=0/\y=y0)/\(∀r,r≠a->K' r=K r/\st' r=st r)/\DoX K K' st st' a y0 cd0 y cd)
theorem NR {d:Nat->Nat} {c:Nat->Nat->Nat} {N:List ae} {i:Nat} {G:List OpX} {D:Nat->List OpX} (w:World) (a:Nat) (x:OpX) (h:MeshAt gd B w ow n bm pv fv bp br d dv c K st N) (hI:MeshI n i G K D st N) (hE:EnvM B ad w) (ha:a<n) (hi:i<=155) (P:OpX->Nat->Prop) (hnx0:∀U,Below w.heap.size w U->Calls prog 270 #[.pointer (some ⟨bp a,0,none⟩),bT x] U (Ia ad U (K a) a P)):
  Calls prog 212 #[.pointer (some ⟨bp a,0,none⟩),bT x] w (Nb gd B n bm i ad ow G K st N a P w):=by
 obtain ⟨t,b,m,kd,nd,o,s,v⟩:=x
 have ha4:a<4:=vV ha h.few
 obtain ⟨S,hS⟩:=zc w.heap.size
 obtain ⟨U,hU⟩:=zc ((w.alloc (.cells #[.int .i64 t,.int .i64 b,.int .i64 m,.int .u8 (kd:Int),.int .i64 nd,.int .i64 o,.string s,.string v] 61)).alloc (.cells #[.int .i64 0,.int .i64 0,.int .i64 0,.int .u8 0,.int .i64 0,.int .i64 0,.string ⟨#[]⟩,.string ⟨#[]⟩] 61))
 have hbU:Below w.heap.size w U:=zI
 have O0:OpBlk U S (t,b,m,kd,nd,o,s,v):=qo
 have Z0:OpBlk U (S+1) aR:=by
  rw [hU,hS]
  have:=OpBlk.new (w.alloc (.cells #[.int .i64 t,.int .i64 b,.int .i64 m,.int .u8 (kd:Int),.int .i64 nd,.int .i64 o,.string s,.string v] 61)) aR
  exact kd4
 obtain ⟨j0,j1,j2,j3,j4,j5,j6,j7,-⟩:=O0.cells
 dsimp only at j0 j1 j2 j3 j4 j5 j6 j7
 have hUm:=h.later hbU
 have hnx:=hnx0 U hbU
 unfold bT at hnx
 dsimp only at hnx
 have H0:Aside (U=(w.alloc (.cells #[.int .i64 t,.int .i64 b,.int .i64 m,.int .u8 (kd:Int),.int .i64 nd,.int .i64 o,.string s,.string v] 61)).alloc (.cells #[.int .i64 0,.int .i64 0,.int .i64 0,.int .u8 0,.int .i64 0,.int .i64 0,.string ⟨#[]⟩,.string ⟨#[]⟩] 61)/\OpBlk U (S+1) aR/\Below w.heap.size w U/\S=w.heap.size):=⟨hU,Z0,hbU,hS⟩
 have HM:Aside (MeshAt gd B w ow n bm pv fv bp br d dv c K st N/\MeshI n i G K D st N/\EnvM B ad w):=⟨h,hI,hE⟩
 clear hU hbU hS O0 Z0 hUm h hI hE hnx0
 unfold bT
 dsimp only
 go_enter func212,ntmps212
 go_upto_region 1 with fail
 rw [<-H0.o.1,<-H0.o.2.2.2]
 go_wp2_with fail
 refine hnx.mono ?_
 clear hnx j0 j1 j2 j3 j4 j5 j6 j7
 rintro e w2 ⟨⟨t',b',m',kd',nd',o',s',v'⟩,cd,rfl,H2,HP⟩
 unfold bT
 dsimp only
 obtain ⟨y,hy⟩:∃y:OpX,Aside (y=(t',b',m',kd',nd',o',s',v')):=⟨_,rfl⟩
 obtain ⟨V,hV⟩:=ze (w2.alloc (.cells #[.int .i64 t',.int .i64 b',.int .i64 m',.int .u8 (kd':Int),.int .i64 nd',.int .i64 o',.string s',.string v'] 61))
 obtain ⟨M,hM⟩:=ze w2.heap.size
 have hbw2:Below w.heap.size w w2:=zi H0.o.2.2.1 H2.o.1
 have hbV:Below w.heap.size w V:=by rw [hV.o];exact hbw2.alloc hbw2.size _
 have OY:OpBlk V M y:=by rw [hV.o,hM.o,hy.o];exact OpBlk.new w2 (t',b',m',kd',nd',o',s',v')
 have Z2:=H0.o.2.1.later H2.o.1
 have ZV:OpBlk V (S+1) aR:=by
  rw [hV.o]
  exact (vP _ _ _ Z2.lt).trans Z2
 have HV:Aside (Below w.heap.size w V/\OpBlk V M y/\OpBlk V (S+1) aR/\S+1<M/\w.heap.size<=M):=⟨hbV,OY,ZV,by have:=Z2.lt;rw [hM.o];exact this,by have:=hbw2.size;rw [hM.o];exact this⟩
 obtain ⟨z0,z1,z2,z3,z4,z5,z6,z7,zf⟩:=ZV.cells
 unfold aR at z0 z1 z2 z3 z4 z5 z6 z7
 dsimp only at z0 z1 z2 z3 z4 z5 z6 z7
 clear hbw2 hbV OY ZV Z2
 by_cases hcd:cd=0
 ·subst hcd
  obtain ⟨T,hT,hnext⟩:∃T,dM (aQ (K a)) T/\NextOp (K a) a T y:=by
   rw [hy.o]
   rcases H2.o.2.2 with ⟨q,_⟩ | ⟨_,q⟩
   ·exact absurd rfl q
   exact q
  have HN:Aside (dM (aQ (K a)) T/\NextOp (K a) a T y):=⟨hT,hnext⟩
  have hbD:Below w.heap.size w V.drew:=HV.o.1.drew
  have hVm:=HM.o.1.later hbD
  have hsz:=Av (l:=[y]) (fun z hz=>by rw [vR.1 hz];exact hnext.ok) y zt
  have happ:=CP V.drew y (hVm.disk a ha).1 (HM.o.2.2.later hbD).j (fun k hk=>hVm.low k (by rw [(hVm.disk a ha).2 k hk];omega)) hsz.1 hsz.2 (HM.o.2.1.blen ha zj)
  have hst:=(HM.o.2.1.disk a ha).app (hVm.disk a ha).1.left.1 (by have:=HM.o.2.1.dlen ha;omega) hnext.ok
  obtain ⟨cd2,s2,hcs⟩:∃cd2 s2,Aside (fG (st a) y=(cd2,s2)):=⟨(fG (st a) y).1,(fG (st a) y).2,rfl⟩
  rw [hcs.o] at happ hst
  dsimp only at happ hst
  have HST:Aside ((cd2=0/\(st a).2.1=false/\s2.2.1=false/\DiskI s2 (D a++ [y]))\/(cd2=11/\s2.2.1=true/\DiskI s2 (D a))):=hst
  have HFR:Aside ((st a).2.1=false->(st a).2.2.1=false->cd2=0):=fun f1 f2=>by
   have hB0:=(HM.o.2.1.disk a ha).len
   have hDl:=HM.o.2.1.dlen ha
   have htx:=kP hnext.ok
   have hrl:=dU (ac y)
   have hc:=hcs.o
   obtain ⟨sq,hsq⟩:∃sq:DSt,sq=st a:=⟨_,rfl⟩
   rw [<-hsq] at f1 f2 hB0 hc
   obtain ⟨B0,off0,wt0,lf0⟩:=sq
   dsimp only at f1 f2 hB0
   subst f1
   subst f2
   rw [pU hnext.ok zj] at hc
   cases hc
   rfl
  have SD:PeerC V.drew (bp a) (br a) (d a)/\OpBlk V.drew M y:=⟨(hVm.peer a ha).1,HV.o.2.1⟩
  have HVM:Aside (MeshAt gd B V.drew ow n bm pv fv bp br d dv c K st N/\OpBlk V.drew (S+1) aR/\Below w.heap.size w V.drew/\ow M=0/\ow (S+1)=0):=⟨hVm,HV.o.2.2.1,hbD,HM.o.1.high M HV.o.2.2.2.2,HM.o.1.high (S+1) yY⟩
  clear hT hnext hsz hst hVm hbD
  rw [hy.o] at happ
  unfold ND at happ
  dsimp only at happ
  rw [show eV ad 0= .nilIface from rfl]
  go_upto_region 4 with fail
  rw [<-hV.o,<-hM.o]
  refine aL (S:=(fun w'=>PeerC w' (bp a) (br a) (d a)/\OpBlk w' M y)) zo SD (fun hHeld=> ?_)
  refine tk 0 hHeld ?_
  refine tk 1 hHeld ?_
  refine tk 2 hHeld ?_
  refine tk 3 hHeld ?_ (hy:=Or.inl ⟨zv,by intro w' hSw;have q1:=hSw.1.c1;clear hSw;go_simp;try with_reducible rfl⟩)
  refine tk 4 hHeld ?_ (hy:=Or.inl ⟨zv,ym⟩)
  refine aW (i:=5) zo rfl (fun kQ hK=> ?_)
  go_simp
  refine happ.mono ?_
  clear happ
  rintro e w5 ⟨rfl,H5⟩
  obtain ⟨dv',hm5,hk5⟩:=HVM.o.1.diskAct ha H5.o
  have S5:PeerC w5 (bp a) (br a) (d a)/\OpBlk w5 M y:=⟨(hm5.peer a ha).1,(hk5.block M HV.o.2.1.lt (fun q=>by have q':ow M=20+a:=q;rw [HVM.o.2.2.2.1] at q';omega)).trans HV.o.2.1⟩
  have Z5:OpBlk w5 (S+1) aR:=(hk5.block (S+1) HV.o.2.2.1.lt (fun q=>by have q':ow (S+1)=20+a:=q;rw [HVM.o.2.2.2.2] at q';omega)).trans HV.o.2.2.1
  have hb5:Below B w w5:=(HVM.o.2.2.1.mono HM.o.1.base).trans (HVM.o.1.below hk5 (fun k e=>by have e':ow k=20+a:=e;omega))
  have H5M:Aside (MeshAt gd B w5 (cW ow V.drew w5 (20+a)) n bm pv fv bp br d (aa dv a dv') c K (aa st a s2) N/\Below B w w5/\cW ow V.drew w5 (20+a) M=0/\cW ow V.drew w5 (20+a) (S+1)=0/\OT ow w (cW ow V.drew w5 (20+a)) w5):=⟨hm5,hb5,(eY HV.o.2.1.lt).trans HVM.o.2.2.2.1,(eY HV.o.2.2.1.lt).trans HVM.o.2.2.2.2,fun k hk e=>by
   have hkV:=vV hk HVM.o.2.2.1.size
   exact ⟨(eY hkV).trans e,(hk5.block k hkV (fun q=>by have q':ow k=20+a:=q;omega)).trans (HVM.o.2.2.1.block k hk)⟩⟩
  refine hK _ _ S5 ?_
  clear hK kQ hm5 hk5 hb5 SD
  refine qn ?_
  refine aW (i:=6) zo rfl (fun kQ hK=> ?_)
  go_simp
  refine hK _ _ S5 ?_
  clear hK kQ
  refine wpAnyH_done zo ?_ _
  refine qn ?_
  obtain ⟨ow5,how5⟩:∃f,Aside (f=cW ow V.drew w5 (20+a)):=⟨_,rfl⟩
  rw [<-how5.o] at H5M
  clear z0 z1 z2 z3 z4 z5 z6 z7 zf
  obtain ⟨z0,z1,z2,z3,z4,z5,z6,z7,zf⟩:=Z5.cells
  unfold aR at z0 z1 z2 z3 z4 z5 z6 z7
  dsimp only at z0 z1 z2 z3 z4 z5 z6 z7
  have HZ5:Aside (OpBlk w5 (S+1) aR/\PeerC w5 (bp a) (br a) (d a)/\OpBlk w5 M y):=⟨Z5,S5.1,S5.2⟩
  clear Z5 S5 H5
  rcases HST.o with ⟨rfl,hon,hso,hdi⟩ | ⟨rfl,hso,hdi⟩
  ·have HD:Aside ((st a).2.1=false/\s2.2.1=false/\DiskI s2 (D a++ [y])):=⟨hon,hso,hdi⟩
   clear hon hso hdi z0 z1 z2 z3 z4 z5 z6 z7 zf
   rw [show eV ad 0= .nilIface from rfl]
   obtain ⟨X,hX⟩:=ze ((w5.alloc (.cells #[.int .i64 t',.int .i64 b',.int .i64 m',.int .u8 (kd':Int),.int .i64 nd',.int .i64 o',.string s',.string v'] 61)).drew)
   have hbX:Below w5.heap.size w5 X:=by rw [hX.o];exact (zh w5 _).drew
   have hinX:OpsIn X (some ⟨w5.heap.size,0,none⟩) [y]:=by
    refine .inr ⟨w5.heap.size,0,rfl,fun j u hj=> ?_⟩
    rw [hX.o]
    have:=dE w5 (t',b',m',kd',nd',o',s',v') 61 j u (by rw [hy.o] at hj;simpa [cellsOf,aI] using hj)
    rw [Addr.add_lit] at this
    exact this
   have hmX:=H5M.o.1.later hbX
   have hjn:=Bw X (c a) (br a) a (K a) (some ⟨w5.heap.size,0,none⟩) 1 T y (hmX.rep a ha).1 ((HM.o.2.2.mono H5M.o.2.1).later hbX).t ha4 hinX HN.o.2 HN.o.1.1 (by have:=HM.o.2.1.len ha;omega)
   have HX:Aside (MeshAt gd B X ow5 n bm pv fv bp br d (aa dv a dv') c K (aa st a s2) N/\OpBlk X (S+1) aR/\PeerC X (bp a) (br a) (d a)/\OpBlk X M y/\Below B w X/\Below w5.heap.size w5 X):=⟨hmX,HZ5.o.1.later hbX,(hmX.peer a ha).1,HZ5.o.2.2.later hbX,H5M.o.2.1.trans (hbX.mono H5M.o.1.base),hbX⟩
   have SD7:PeerC w5.drew (bp a) (br a) (d a)/\OpBlk w5.drew M y:=HZ5.o.2
   have SX:PeerC X (bp a) (br a) (d a)/\OpBlk X M y:=⟨HX.o.2.2.1,HX.o.2.2.2.1⟩
   clear hbX hinX hmX
   go_upto_region 7 with fail
   refine aL (S:=(fun w'=>PeerC w' (bp a) (br a) (d a)/\OpBlk w' M y)) zo SD7 (fun hHeld=> ?_)
   refine tk 0 hHeld ?_
   refine tk 1 hHeld ?_
   refine tk 2 hHeld ?_
   refine tk 3 hHeld ?_ (hy:=Or.inl ⟨zv,qT⟩)
   refine tk 4 hHeld ?_ (hy:=Or.inl ⟨zv,ym⟩)
   refine aW (i:=5) zo rfl (fun kQ hK=> ?_)
   go_simp
   rw [<-hX.o]
   refine hK _ _ SX ?_
   clear hK kQ hHeld
   refine qn ?_
   refine aW (i:=6) zo rfl (fun kQ hK=> ?_)
   go_simp
   refine hjn.mono ?_
   clear hjn
   rintro e w6 ⟨c',R',rfl,hA,hR',hmem,hlen⟩
   obtain ⟨hm6,hk6⟩:=HX.o.1.repAct ha hA hR'
   have k0:∀k,k<X.heap.size->ow5 k=0->w6.heap[k]? =X.heap[k]? :=fun k hk e=>hk6.block k hk (fun q=>by have q':ow5 k=10+a:=q;rw [e] at q';omega)
   have S6:PeerC w6 (bp a) (br a) (d a)/\OpBlk w6 M y:=⟨(hm6.peer a ha).1,(k0 M HX.o.2.2.2.1.lt H5M.o.2.2.1).trans HX.o.2.2.2.1⟩
   have Z6:OpBlk w6 (S+1) aR:=(k0 (S+1) HX.o.2.1.lt H5M.o.2.2.2.1).trans HX.o.2.1
   have H6:Aside (MeshAt gd B w6 (cW ow5 X w6 (10+a)) n bm pv fv bp br d (aa dv a dv') (aa c a c') (aa K a R') (aa st a s2) N/\Below B w w6/\cW ow5 X w6 (10+a) (S+1)=0/\RowsK R'/\(∀z,z∈aQ R'↔z=y\/z∈aQ (K a))/\OT ow w (cW ow5 X w6 (10+a)) w6):=⟨hm6,HX.o.2.2.2.2.1.trans (HX.o.1.below hk6 (fun k e=>by have e':ow5 k=10+a:=e;omega)),(eY HX.o.2.1.lt).trans H5M.o.2.2.2.1,hR'.wellK,hmem,fun k hk e=>by
    obtain ⟨e5,b5⟩:=H5M.o.2.2.2.2 k hk e
    have hk5:k<w5.heap.size:=vV hk H5M.o.2.1.size
    have hkX:=vV hk5 HX.o.2.2.2.2.2.size
    exact ⟨(eY hkX).trans e5,((k0 k hkX e5).trans (HX.o.2.2.2.2.2.block k hk5)).trans b5⟩⟩
   have hHeld:=S6
   refine hK _ _ S6 ?_
   clear hK kQ hm6 hk6 k0 hA hR' hmem hlen SX SD7
   refine qn ?_
   refine tk 7 hHeld ?_
   refine tk 8 hHeld ?_
   refine tk 9 hHeld ?_
   refine tk 10 hHeld ?_
   refine aW (i:=11) zo rfl (fun kQ hK=> ?_)
   go_simp
   refine hK _ _ S6 ?_
   clear hK kQ
   refine wpAnyH_done zo ?_ _
   refine qn ?_
   have Y6:=S6.2
   rw [hy.o] at Y6
   obtain ⟨q0,q1,q2,q3,q4,q5,q6,q7,-⟩:=Y6.cells
   dsimp only at q0 q1 q2 q3 q4 q5 q6 q7
   obtain ⟨z0,z1,z2,z3,z4,z5,z6,z7,zf⟩:=Z6.cells
   unfold aR at z0 z1 z2 z3 z4 z5 z6 z7
   dsimp only at z0 z1 z2 z3 z4 z5 z6 z7
   clear Y6 Z6 S6 hHeld
   go_wp2
   (try simp only [Exit.inBlock,Exit.then])
   refine bodyPost_ret (v:=.tuple #[.agg #[.int .i64 t',.int .i64 b',.int .i64 m',.int .u8 (kd':Int),.int .i64 nd',.int .i64 o',.string s',.string v'],.nilIface]) ?_ rfl ?_
   ·exact kf7
   have hk7:=aZ (S+1) [.int .i64 t',.int .i64 b',.int .i64 m',.int .u8 (kd':Int),.int .i64 nd',.int .i64 o',.string s',.string v'] 0 w6
   refine ⟨(t',b',m',kd',nd',o',s',v'),0,G++ [y],aa K a R',aa D a (D a++ [y]),aa st a s2,rfl,⟨_,_,_,_,_,_,_,_,H6.o.1.still hk7 (fun k e=>by have e':k=S+1:=e;rw [e'];exact H6.o.2.2.1),fun k hk e=>⟨(H6.o.2.2.2.2.2 k hk e).1,(hk7.block k (vV hk H6.o.2.1.size) (fun q=>qA)).trans (H6.o.2.2.2.2.2 k hk e).2⟩⟩,H6.o.2.1.trans (hk7.below (vI HM.o.1.base H6.o.2.1.size) (fun k e=>yP)),HM.o.2.1.made ha ha4 HN.o.1 HN.o.2 HD.o.1 HD.o.2.2 HD.o.2.1 H6.o.2.2.2.1 H6.o.2.2.2.2.1,fun r hr x hx=> ?_,.inr ⟨rfl,by rw [hy.o],by have:=HN.o.2.by_;rw [hy.o] at this;exact this⟩,_,_,HP.o,fun _ _ _=>⟨rfl,rfl⟩,fun r hr=>⟨aj _ _ hr,aj _ _ hr⟩,.inr (.inr ⟨rfl,by rw [<-hy.o,hcs.o],rfl,rfl,⟨R',rfl,H6.o.2.2.2.1,fun z=>by rw [<-hy.o];exact H6.o.2.2.2.2.1 z⟩,by rw [<-hy.o,hcs.o]⟩)⟩
   by_cases q:r=a
   ·subst q;rw [au];exact (H6.o.2.2.2.2.1 x).2 (.inr hx)
   rw [aj _ _ q];exact hx
  have HD:Aside (s2.2.1=true/\DiskI s2 (D a)):=⟨hso,hdi⟩
  clear hso hdi
  rw [lX (show (11:Nat)≠0 by omega)]
  go_wp2
  (try simp only [Exit.inBlock,Exit.then])
  refine bodyPost_ret (v:=.tuple #[.agg #[.int .i64 0,.int .i64 0,.int .i64 0,.int .u8 0,.int .i64 0,.int .i64 0,.string ⟨#[]⟩,.string ⟨#[]⟩],.iface 450 (.pointer (some (ad (11 - 1))))]) ?_ rfl ?_
  ·exact kf7
  have hk7:=aZ (S+1) [.int .i64 0,.int .i64 0,.int .i64 0,.int .u8 0,.int .i64 0,.int .i64 0,.string ⟨#[]⟩,.string ⟨#[]⟩] 0 w5
  exact ⟨aR,11,G,K,D,aa st a s2,rfl,⟨_,_,_,_,_,_,_,_,H5M.o.1.still hk7 (fun k e=>by have e':k=S+1:=e;rw [e'];exact H5M.o.2.2.2.1),fun k hk e=>⟨(H5M.o.2.2.2.2 k hk e).1,(hk7.block k (vV hk H5M.o.2.1.size) (fun q=>qA)).trans (H5M.o.2.2.2.2 k hk e).2⟩⟩,H5M.o.2.1.trans (hk7.below (vI HM.o.1.base H5M.o.2.1.size) (fun k e=>yP)),(HM.o.2.1.dark HD.o.2 (fun e=>by rw [HD.o.1] at e;cases e)).up zj,fun r hr x hx=>hx,.inl ⟨zj,rfl⟩,_,_,HP.o,fun _ f1 f2=>absurd (HFR.o f1 f2) zj,fun r hr=>⟨rfl,aj _ _ hr⟩,.inr (.inl ⟨rfl,by rw [<-hy.o,hcs.o];show (11:Nat)≠0;omega,by rw [<-hy.o,hcs.o],rfl,rfl,by rw [<-hy.o,hcs.o]⟩)⟩
 obtain ⟨er,her⟩:=ze (ad (cd - 1))
 have HB:Aside (cd≠0):=hcd
 rw [lX hcd,<-her.o]
 clear hcd
 go_upto_region 3 with fail
 rw [<-hV.o,<-hM.o]
 go_wp2
 (try simp only [Exit.inBlock,Exit.then])
 refine bodyPost_ret (v:=.tuple #[.agg #[.int .i64 0,.int .i64 0,.int .i64 0,.int .u8 0,.int .i64 0,.int .i64 0,.string ⟨#[]⟩,.string ⟨#[]⟩],.iface 450 (.pointer (some er))]) ?_ rfl ?_
 ·exact kf7
 have hk7:=aZ (S+1) [.int .i64 0,.int .i64 0,.int .i64 0,.int .u8 0,.int .i64 0,.int .i64 0,.string ⟨#[]⟩,.string ⟨#[]⟩] 0 V
 have hVm:=HM.o.1.later HV.o.1
 have hbV:=HV.o.1.mono HM.o.1.base
 exact ⟨aR,cd,G,K,D,st,by rw [lX HB.o,<-her.o];rfl,⟨_,_,_,_,_,_,_,_,hVm.still hk7 (fun k e=>by have e':k=S+1:=e;rw [e'];exact HM.o.1.high _ yY),fun k hk e=>⟨e,(hk7.block k (vV hk HV.o.1.size) (fun q=>qA)).trans (HV.o.1.block k hk)⟩⟩,hbV.trans (hk7.below hVm.base (fun k e=>yP)),HM.o.2.1.up zj,fun r hr x hx=>hx,.inl ⟨HB.o,rfl⟩,_,_,HP.o,fun q=>absurd q HB.o,fun r hr=>⟨rfl,rfl⟩,.inl ⟨HB.o,rfl,rfl,rfl,rfl⟩⟩
end
section
open Go.RowKit Go.Lib Go.Sort Go.Maps
open scoped Classical
end
section
open Go.RowKit Go.Lib Go.Sort Go.Maps
open scoped Classical
def FI:DSt->List OpX->Nat×DSt
 | s,[]=>(0,s)
 | s,y::ys=>if (fG s y).1=0 then FI (fG s y).2 ys else fG s y
def Jk (R:Rws) (u:Nat->Int) (F:List OpX):Prop:=∃ys,cY (aQ R) ys/\F=ys.filter (fun x=> !Nc u x)
end
section
open Go.RowKit Go.Lib Go.Sort Go.Maps
open scoped Classical
end
section
open Go.RowKit Go.Lib Go.Sort Go.Maps
open scoped Classical
def OO (K K':Nat->Rws) (st st':Nat->DSt) (a:Nat):Prop:=(∃R',K'=aa K a R'/\RowsK R'/\∀z,z∈aQ R'↔z∈(Jl (st a).1).1)/\st'=aa st a (Mn (st a))
end
section
open Go.RowKit Go.Lib Go.Sort Go.Maps
open scoped Classical
end
section
open Go.RowKit Go.Lib Go.Sort Go.Maps
open scoped Classical
theorem MeshAt.redo {ow':Nat->Nat} {d:Nat->Nat} {c:Nat->Nat->Nat} {N:List ae}
  (h:MeshAt gd B w ow n bm pv fv bp br d dv c K st N) (hk:Keeps (fun k=>ow k=5) w w') (hs:∀k,ow k≠0->ow' k=ow k) (hn:∀k,ow' k≠0->ow k≠0\/(w.heap.size<=k/\k<w'.heap.size)) (hg:∀k o,gd' k=some o->ow' k=5/\w'.heap[k]? =some o):
  MeshAt gd' B w' ow' n bm pv fv bp br d dv c K st N:=by
 have same:∀ {k i:Nat},ow k=i->i≠0->i≠5->w'.heap[k]? =w.heap[k]? :=fun {k i} e hi h5=>hk.block k (h.in_ yK) (fun p=>h5 (by rw [<-e];exact p))
 have tw:∀ {k i:Nat},ow k=i->i≠0->ow' k=i:=fun {k i} e hi=>(hs k yK).trans e
 refine ⟨h.few,(same h.om zj zj).trans h.mesh,tw h.om zj,av h.peers (fun g hg=>same (h.op g hg) zj zj),fun g hg=>tw (h.op g hg) zj,av h.fly (fun g hg=>same (h.of g hg) zj zj),fun g hg=>tw (h.of g hg) zj,fun x hx=>⟨(h.notes x hx).from_,(h.notes x hx).to_,gR (h.notes x hx).ops (fun g hg=>same ((h.notes x hx).own g hg) zj zj),fun g hg=>tw ((h.notes x hx).own g hg) zj⟩,fun r hr=>⟨(h.peer r hr).1.same (same (h.peer r hr).2 zj zj),tw (h.peer r hr).2 zj⟩,fun r hr=>⟨(h.rep r hr).1.keep hk.size (fun k _ e=>same ((h.rep r hr).2 k e) zj (by have:=h.few;omega)),fun k e=>tw ((h.rep r hr).2 k e) zj⟩,fun r hr=>⟨(h.disk r hr).1.same (fun k e=>same ((h.disk r hr).2 k e) zj zj),fun k e=>tw ((h.disk r hr).2 k e) zj⟩,fun k e=> ?_,fun k e=> ?_,vI h.base hk.size,hg⟩
 ·rcases hn k e with q | ⟨q,_⟩
  ·exact h.low k q
  exact vI h.base q
 by_cases q:ow' k=0
 ·exact q
 rcases hn k q with q' | ⟨_,q'⟩
 ·exact absurd (h.high k (vI hk.size e)) q'
 omega
theorem oJ {base:Nat} {e:TypeId} {xs:List Value} (h:w.ownsRow base e k v n xs) {g:Nat} (hg:v.ownBlock=some g):∃o,w.heap[g]? =some o:=by
 rcases h.2 with ⟨h1,_⟩ | ⟨g',cap,cur,rfl,_,h3,_⟩
 ·rw [h1] at hg;cases hg
 cases hg;exact ⟨_,h3⟩
end
section
open Go.ChangeShapes Go.WideShapes Go.ChangeAt Go.RowKit Go.Joins Go.ChangeMaps
theorem dC {P:Program} {w:World} :∀(l1 l2:List (String×DataW Unit)) (ps:List MemPlace),DataW.LaidVars P w (l1++l2) ps->∃q1 q2,DataW.LaidVars P w l1 q1/\DataW.LaidVars P w l2 q2/\ps=q1++q2
 | [],l2,ps,h=>⟨[],ps,rfl,h,rfl⟩
 | x::l1,l2,ps,h=>by
  obtain ⟨g,t,cs,fuel,p,q,a1,a2,a3,a4,a5,rfl⟩:=h
  obtain ⟨q1,q2,b1,b2,rfl⟩:=dC l1 l2 q a5
  exact ⟨_,q2,⟨g,t,cs,fuel,p,q1,a1,a2,a3,a4,b1,rfl⟩,b2,zt⟩
theorem rC (l1 l2 l3:List (String×DataW Unit)) (h:laidMet P (l1++(l2++l3)) w):laidMet P l2 w:=by
 obtain ⟨ps,hv,hnd,hr⟩:=h
 obtain ⟨q1,q2,-,b,rfl⟩:=dC l1 (l2++l3) ps hv
 obtain ⟨q3,q4,c,-,rfl⟩:=dC l2 l3 q2 b
 exact ⟨q3,c,(uH.1 (uH.1 hnd).2.1).1,fun b off hm=>hr b off (uI _ (uk _ hm))⟩
theorem Errs.at {ad':Nat->Addr} (h:Errs B ad w) (e:∀i,i<12->ad' i=ad i):Errs B ad' w:=by
 refine ⟨?_,?_,?_,?_,?_,?_,?_,?_,?_,?_,?_,?_,h.et,fun i hi=>by rw [e i hi];exact h.lt i hi,fun i hi=>by rw [e i hi];exact h.row i hi,fun i j hi hj hne=>by rw [e i hi,e j hj];exact h.ne i j hi hj hne,h.big,h.size⟩
 ·rw [e 0 zj];exact h.c0
 ·rw [e 1 zj];exact h.c1
 ·rw [e 2 zj];exact h.c2
 ·rw [e 3 zj];exact h.c3
 ·rw [e 4 zj];exact h.c4
 ·rw [e 5 zj];exact h.c5
 ·rw [e 6 zj];exact h.c6
 ·rw [e 7 zj];exact h.c7
 ·rw [e 8 zj];exact h.c8
 ·rw [e 9 zj];exact h.c9
 ·rw [e 10 zj];exact h.c10
 rw [e 11 zj];exact h.c11
def pZ:List (String×DataW Unit):=[("math/bits.deBruijn32tab",Rows.laid_math_bits_deBruijn32tab),("math/bits.deBruijn64tab",Rows.laid_math_bits_deBruijn64tab),("internal/strconv.uint64pow10",Rows.laid_internal_strconv_uint64pow10),("unicode/utf8.acceptRanges",Rows.laid_unicode_utf8_acceptRanges)]++(iE++ [("unicode/utf8.first",Rows.laid_unicode_utf8_first)])
theorem Ll {W:World} (h:laidMet prog pZ W) (h2:handlesMet prog kO W) (hsh:W.ShapedOpen prog):∃ad:Nat->Addr,EnvM W.heap.size ad W/\Errs W.heap.size ad W:=by
 have hmid:laidMet prog iE W:=rC _ iE _ h
 obtain ⟨ad0,hE0⟩:=Kt hmid h2
 obtain ⟨m,hm⟩:=Tryz.laysM147.s1_3 W hsh
 have hp:("internal/strconv.uint64pow10",Rows.laid_internal_strconv_uint64pow10)∈pZ:=.tail _ (.tail _ (.head _))
 have hq:("math/bits.deBruijn64tab",Rows.laid_math_bits_deBruijn64tab)∈pZ:=.tail _ (.head _)
 have ht:=Mx (Lib.laidMet.reads h hp)
 obtain ⟨ad,hE,hc⟩:∃ad:Nat->Addr,Errs W.heap.size ad W/\Cyc ad:=⟨fun i=>if i=100 then ⟨1,0,none⟩ else ad0 i,hE0.at (fun i hi=>if_neg zj),rfl⟩
 exact ⟨ad,⟨⟨⟨⟨hE.c1,hE.c2,hE.c3,hE.c4⟩,hE.c5,hE.c6,hE.c7,hE.c8,fun _=>hE.c9,hE.big,vB _⟩,Lib.tabBelow_of_tabIs ht⟩,
  LM ⟨⟨⟨hE.c1,hE.c2,hE.c3,hE.c4⟩,ht⟩,⟨hE.c1,hE.c2,hE.c7,hE.c10⟩,MN (Lib.laidMet.reads h hq),hE.c0,m,hm⟩,hc⟩,hE⟩
