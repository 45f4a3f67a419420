import Derived.Test.YtebpcnkdhgnghaaGreatDoorPM17
set_option linter.unusedSimpArgs false
set_option linter.unusedVariables false
set_option maxRecDepth 100000
set_option maxHeartbeats 64000000
namespace Go.Proofs.YtebpcnkdhgnghaaGreatDoor
open Go.Proofs.Tryz
variable {z:Bool} {F:List OpX} {B S k:Nat} {ad:Nat→Addr} {c' cap cap':Nat→Nat} {ao ao':Nat→Option Addr} {fa:Option Addr} {R R':Rws} {w wr:World}
section
open Go.RowKit Go.Shelf Go.Maps Go.Lib Go.Sort
theorem fN {g p:Nat} {v:Value} (h:w.cell? ⟨g,p,none⟩=some v) (q:Nat) (os:Array Obj):(grow (w.drewN q) os).cell? ⟨g,p,none⟩=some v:=
 aT (aJ ⟨q,os,rfl⟩) h
def kvs (ao:Nat->Option Addr) (cap:Nat->Nat) (R:Rws):Nat->Value:=fun i=>.slice (ao i) (R i).length (cap i)
structure WithSt (w:World) (S:Nat) (c:Nat->Nat) (ao:Nat->Option Addr) (cap:Nat->Nat) (R:Rws) (fa:Option Addr) (F:List OpX) (k:Nat) (ao':Nat->Option Addr) (cap':Nat->Nat) (R':Rws) (z:Bool) (c':Nat->Nat) (wr:World):Prop where
 keeps:Keeps (fun k=>10<=c k/\c k<14) w wr
 hue:∀k,k<w.heap.size->c' k=c k
 box:KBox wr S ao' cap' R'
 res:wr.heap[S+1]? =some (.cells #[.slice none 0 0,.slice none 0 0,.slice none 0 0,.slice none 0 0] 112 (0,0))
 hS:c' S=0/\c' (S+1)=0/\S=w.heap.size
 old:RowsAt wr c' (kvs ao cap R) R
 new:RowsAt wr c' (kvs ao' cap' R') R'
 link:∀i,i<4->(∃t,R' i=R i++t)/\∀g,(kvs ao cap R i).ownBlock=some g->(kvs ao' cap' R' i).ownBlock=some g->cap i=cap' i
 ops:OpsIn wr fa F
 fhue:∀a,fa=some a->c' a.block=0/\a.block≠S
 go:dQ R true F=dQ R' z (F.drop k)
 ne:S+1<wr.heap.size
 len:∀i,i<4->(R' i).length<=(R i).length+k
theorem KnownAt.of_rows {c:Nat->Nat} (h:RowsAt w c (kvs ao cap R) R):KnownAt w ao R:=fun i hi=>by
 rcases h.ops hi with ⟨h1,h2⟩ | ⟨blk,off,cp,h1,h2⟩
 ·exact .inl h2
 exact .inr ⟨blk,off,(Value.slice.inj h1).1,h2⟩
theorem WithSt.later {w:World} {S:Nat} {c:Nat->Nat} {ao:Nat->Option Addr} {cap:Nat->Nat} {R:Rws} {fa:Option Addr} {F:List OpX} {k:Nat} {ao':Nat->Option Addr} {cap':Nat->Nat} {R':Rws} {z:Bool} {c':Nat->Nat} {wr w':World} (h:WithSt w S c ao cap R fa F k ao' cap' R' z c' wr) (hb:Below wr.heap.size wr w'):WithSt w S c ao cap R fa F k ao' cap' R' z c' w':=
 ⟨h.keeps.then (aX hb) (fun i hi e=>by have:=h.keeps.size;omega),h.hue,h.box.later hb,(hb.block _ h.ne).trans h.res,h.hS,h.old.kept (fun i _=>⟨fun k hk _=>hb.block k hk,fun _ _=>rfl⟩),h.new.kept (fun i _=>⟨fun k hk _=>hb.block k hk,fun _ _=>rfl⟩),h.link,h.ops.later hb,h.fhue,h.go,vV h.ne hb.size,h.len⟩
theorem WithSt.env {c:Nat->Nat} (h:WithSt w S c ao cap R fa F k ao' cap' R' z c' wr) (hE:EnvE B ad w) (hB:∀k,c k≠0->B<=k):EnvE B ad wr:=
 hE.mono (h.keeps.below hE.size (fun k e=>hB k zj))
theorem WithSt.next {c:Nat->Nat} {u0 u2:World} (h:WithSt w S c ao cap R fa F k ao' cap' R' z c' u0) {i:Nat} (hi:i<4) {o:OpX} (hbt:(byO o).toNat=i) (hx:F[k]? =some o) (hnum:aw o=((R' i).length:Int)+1) {ob:Obj} {v':Value}
  (hown:u2.ownsRow 0 61 8 v' ((R' i).length+1) (cellsOf (R' i)++bq o)) (hgrow:(u0.alloc ob).grownBy u2 (kvs ao' cap' R' i).ownBlock)
  (hcase:(∃g cp,kvs ao' cap' R' i= .slice (some ⟨g,0,none⟩) (R' i).length cp/\v'= .slice (some ⟨g,0,none⟩) ((R' i).length+1) cp)\/(v'.ownBlock=some (u0.alloc ob).heap.size/\(u0.alloc ob).grownBy u2 none)):
  ∃ao'' cap'' c'',WithSt w S c ao cap R fa F (k+1) ao'' cap'' (upR R' i (R' i++ [o])) (z &&fX (R' i) o) c'' (u2.setCell ⟨S,i,none⟩ v'):=by
 obtain ⟨a,cp,rfl⟩:=fh hown
 have hcells:cellsOf (R' i++ [o])=cellsOf (R' i)++bq o:=by rw [ci];simp [cellsOf]
 have hkl:=(vA.1 hx).1
 have hsz0:(u0.alloc ob).heap.size=u0.heap.size+1:=zt
 have K2:=aV hgrow
 have K3:Keeps (fun q=>q=S) u2 (u2.setCell ⟨S,i,none⟩ (.slice a ((R' i).length+1) cp)):=aZ S [_] i u2
 have hs2:=K2.size
 have hSS:=h.hS
 have hSl:=h.box.lt
 have hg10:∀g,(kvs ao' cap' R' i).ownBlock=some g->g<u0.heap.size/\c' g=10+i:=fun g hg=>⟨((h.new i hi).1.lt g hg).2,(h.new i hi).2 g hg⟩
 have hv10:∀g,(Value.slice a ((R' i).length+1) cp).ownBlock=some g->(g<u0.heap.size/\(kvs ao' cap' R' i).ownBlock=some g/\c' g=10+i)\/g=u0.heap.size+1:=fun g hg=>by
  rcases hcase with ⟨g',cp',e1,e2⟩ | ⟨e,_⟩
  ·have e3:a=some ⟨g',0,none⟩:=(Value.slice.inj e2).1
   rw [e3] at hg
   cases hg
   have:(kvs ao' cap' R' i).ownBlock=some g':=by rw [e1];rfl
   exact .inl ⟨(hg10 _ this).1,this,(hg10 _ this).2⟩
  rw [hg] at e
  right
  have:=Option.some.inj e
  rw [hsz0] at this
  exact this
 have stay:∀q,q<u0.heap.size->q≠S->(kvs ao' cap' R' i).ownBlock≠some q->(u2.setCell ⟨S,i,none⟩ (.slice a ((R' i).length+1) cp)).heap[q]? =u0.heap[q]? :=fun q hq hqS hqg=>by
  rw [K3.block q zj hqS,K2.block q zj (fun e=>hqg e.symm)]
  exact vP u0 ob q hq
 obtain ⟨c'',hc''⟩:∃c'':Nat->Nat,∀q,((Value.slice a ((R' i).length+1) cp).ownBlock=some q->c'' q=10+i)/\((Value.slice a ((R' i).length+1) cp).ownBlock≠some q->c'' q=c' q):=⟨fun q=> @ite _ ((Value.slice a ((R' i).length+1) cp).ownBlock=some q) (Classical.propDecidable _) (10+i) (c' q),fun q=>⟨fun e=>if_pos e,fun e=>if_neg e⟩⟩
 have hueOld:∀q,q<u0.heap.size->c'' q=c' q:=fun q hq=>by
  by_cases e:(Value.slice a ((R' i).length+1) cp).ownBlock=some q
  ·rw [(hc'' q).1 e]
   rcases hv10 q e with ⟨_,_,e3⟩ | e3
   ·exact e3.symm
   omega
  exact (hc'' q).2 e
 have notS:(Value.slice a ((R' i).length+1) cp).ownBlock≠some S:=fun e=>by
  rcases hv10 S e with ⟨_,_,e3⟩ | e3
  ·omega
  omega
 have gS:(kvs ao' cap' R' i).ownBlock≠some S:=fun e=>by have:=hg10 S e;omega
 have gS1:(kvs ao' cap' R' i).ownBlock≠some (S+1):=fun e=>by have:=hg10 _ e;omega
 have hne:=h.ne
 have rowStay:∀ {kv:Nat->Value} {Q:Rws},RowsAt u0 c' kv Q->∀j,j<4->(∀g,(kv j).ownBlock=some g->(kvs ao' cap' R' i).ownBlock≠some g)->(u2.setCell ⟨S,i,none⟩ (.slice a ((R' i).length+1) cp)).ownsRow 0 61 8 (kv j) (Q j).length (cellsOf (Q j))/\∀g,(kv j).ownBlock=some g->c'' g=10+j:=fun {kv Q} hQ j hj hg=>by
  obtain ⟨q1,q2⟩:=hQ j hj
  refine ⟨bg q1 (fun g e=>stay g (q1.lt g e).2 (fun e'=>by have:=q2 g e;rw [e'] at this;omega) (hg g e)),fun g e=> ?_⟩
  rw [hueOld g (q1.lt g e).2]
  exact q2 g e
 have apart:∀ {kv:Nat->Value} {Q:Rws},RowsAt u0 c' kv Q->∀j,j<4->j≠i->∀g,(kv j).ownBlock=some g->(kvs ao' cap' R' i).ownBlock≠some g:=fun {kv Q} hQ j hj hji g e e'=>by
  have:=(hQ j hj).2 g e
  have:=(hg10 g e').2
  omega
 have newRow:(u2.setCell ⟨S,i,none⟩ (.slice a ((R' i).length+1) cp)).ownsRow 0 61 8 (.slice a ((R' i).length+1) cp) ((R' i).length+1) (cellsOf (R' i++ [o])):=by
  rw [hcells]
  exact bg hown (fun g e=>K3.block g (hown.lt g e).2 (fun e'=>by rw [e'] at e;exact notS e))
 have upI:upR R' i (R' i++ [o]) i=R' i++ [o]:=if_pos rfl
 have upJ:∀j,j≠i->upR R' i (R' i++ [o]) j=R' j:=fun j e=>if_neg e
 refine ⟨fun j=>if j=i then a else ao' j,fun j=>if j=i then cp else cap' j,c'',?_,?_,?_,?_,?_,?_,?_,?_,?_,?_,?_,?_,?_⟩
 ·refine ((h.keeps.then ((Keeps.refl (fun _=>False) u0).alloc ob) (fun _ _ e=>e.elim)).then K2 (fun q hq e=> ?_)).then K3 (fun q hq e=>zj)
  have:=(hg10 q e.symm).2
  have:=h.hue q hq
  omega
 ·intro q hq
  rw [hueOld q (vV hq h.keeps.size)]
  exact h.hue q hq
 ·have hb2:u2.heap[S]? =u0.heap[S]? :=(K2.block S zj (fun e=>gS e.symm)).trans (vP u0 ob S hSl)
  have hset:=heap_setCell_same u2 S i _ _ (.slice a ((R' i).length+1) cp) (hb2.trans h.box)
  unfold KBox
  refine hset.trans ?_
  have h4:i=0\/i=1\/i=2\/i=3:=zj
  rcases h4 with rfl | rfl | rfl | rfl<;>simp [upR]
 ·rw [stay (S+1) hne zj gS1]
  exact h.res
 ·exact ⟨(hueOld S hSl).trans hSS.1,(hueOld _ hne).trans hSS.2.1,hSS.2.2⟩
 ·intro j hj
  by_cases hji:j=i
  ·subst hji
   by_cases hsame:∃g,(kvs ao cap R j).ownBlock=some g/\(kvs ao' cap' R' j).ownBlock=some g
   ·obtain ⟨g,e1,e2⟩:=hsame
    have hq:=h.old j hj
    refine ⟨?_,fun g' e'=>by rw [hueOld g' (hq.1.lt g' e').2];exact hq.2 g' e'⟩
    obtain ⟨tt,ht⟩:=(h.link j hj).1
    have hcap:=(h.link j hj).2 g e1 e2
    rcases hcase with ⟨g',cp',e3,e4⟩ | ⟨e3,hg3⟩
    ·have e5:g'=g:=by rw [e3] at e2;exact Option.some.inj e2
     subst e5
     have e6:a=some ⟨g',0,none⟩/\cp=cp':=⟨(Value.slice.inj e4).1,(Value.slice.inj e4).2.2⟩
     have e7:cap' j=cp':=(Value.slice.inj e3).2.2
     rcases hq.1.2 with ⟨q1,_⟩ | ⟨g2,cap2,cur2,q1,_⟩
     ·rw [q1] at e1;cases e1
     have e8:g2=g':=by rw [q1] at e1;exact Option.some.inj e1
     subst e8
     have e9:cap j=cap2:=(Value.slice.inj q1).2.2
     have hln:(R' j).length+1=(R j).length+(tt++ [o]).length:=by rw [ht];simp;omega
     have hrr:R' j++ [o]=R j++(tt++ [o]):=by rw [ht];simp
     have hvv:Value.slice a ((R' j).length+1) cp= .slice (some ⟨g2,0,none⟩) ((R j).length+(tt++ [o]).length) cap2:=by rw [e6.1,e6.2,<-e7,<-hcap,e9,hln]
     have hnr:=newRow
     generalize u2.setCell ⟨S,j,none⟩ (.slice a ((R' j).length+1) cp)=u3 at hnr |-
     rw [hvv,hrr,hln] at hnr
     rw [q1]
     exact sv hnr rfl rfl
    refine bg hq.1 (fun g' e'=> ?_)
    have hgl:=(hq.1.lt g' e').2
    have K2':=aV hg3
    rw [K3.block g' zj (fun e5=>by have:=hq.2 g' e';rw [e5] at this;omega),K2'.block g' zj (fun e5=>by cases e5)]
    exact vP u0 ob g' hgl
   exact rowStay h.old j hj (fun g e1 e2=>hsame ⟨g,e1,e2⟩)
  exact rowStay h.old j hj (apart h.old j hj hji)
 ·intro j hj
  by_cases hji:j=i
  ·subst hji
   have e1:kvs (fun q=>if q=j then a else ao' q) (fun q=>if q=j then cp else cap' q) (upR R' j (R' j++ [o])) j= .slice a ((R' j).length+1) cp:=by
    unfold kvs
    rw [upI]
    simp
   rw [e1,upI]
   refine ⟨by simpa using newRow,fun g e=>(hc'' g).1 e⟩
  have e1:kvs (fun q=>if q=i then a else ao' q) (fun q=>if q=i then cp else cap' q) (upR R' i (R' i++ [o])) j=kvs ao' cap' R' j:=by
   unfold kvs
   rw [upJ j hji]
   simp [hji]
  rw [e1,upJ j hji]
  exact rowStay h.new j hj (apart h.new j hj hji)
 ·intro j hj
  by_cases hji:j=i
  ·subst hji
   obtain ⟨tt,ht⟩:=(h.link j hj).1
   refine ⟨⟨tt++ [o],by rw [upI,ht];simp⟩,fun g e1 e2=> ?_⟩
   have e3:(Value.slice a ((R' j).length+1) cp).ownBlock=some g:=by
    unfold kvs at e2
    rw [upI] at e2
    simpa using e2
   have hgl:=((h.old j hj).1.lt g e1).2
   simp only [if_true]
   rcases hcase with ⟨g',cp',e4,e5⟩ | ⟨e4,_⟩
   ·have e6:g'=g:=by rw [e5] at e3;exact Option.some.inj e3
    subst e6
    rw [(Value.slice.inj e5).2.2,(h.link j hj).2 g' e1 (by rw [e4];rfl)]
    exact (Value.slice.inj e4).2.2
   rw [e3] at e4
   have:=Option.some.inj e4
   omega
  obtain ⟨tt,ht⟩:=(h.link j hj).1
  refine ⟨⟨tt,by rw [upJ j hji,ht]⟩,fun g e1 e2=> ?_⟩
  simp only [if_neg hji]
  refine (h.link j hj).2 g e1 ?_
  unfold kvs at e2 |-
  rw [upJ j hji] at e2
  simpa [hji] using e2
 ·rcases h.ops with q | ⟨blk,off,e,q⟩
  ·exact .inl q
  refine .inr ⟨blk,off,e,fun j u hj=> ?_⟩
  have hcell:=q j u hj
  have hbl:=vK u0 ⟨blk,off+j,none⟩ hcell
  obtain ⟨f1,f2⟩:=h.fhue _ e
  rw [uc (a:=⟨blk,off+j,none⟩) (stay blk hbl f2 (fun e'=>by have:=(hg10 _ e').2;dsimp only at f1;omega))]
  exact hcell
 ·intro a' e
  obtain ⟨f1,f2⟩:=h.fhue a' e
  refine ⟨?_,f2⟩
  obtain ⟨blk,off,e2,hc2⟩:=h.ops.get hx
  rw [e] at e2
  cases e2
  have hbl:=vK u0 ⟨blk,off+k*8+0,none⟩ (hc2 0 _ rfl)
  rw [hueOld _ hbl]
  exact f1
 ·rw [h.go,uK hkl,(vA.1 hx).2,dQ,hbt,if_pos hnum]
 ·have:=K3.size
  omega
 intro j hj
 have:=h.len j hj
 by_cases hji:j=i
 ·subst hji
  rw [upI]
  simp
  omega
 rw [upJ j hji]
 omega
def Ks (ad:Nat->Addr) (w:World) (c:Nat->Nat) (ao:Nat->Option Addr) (cap:Nat->Nat) (R:Rws) (F:List OpX) (e:Ending) (w':World):Prop:=∃c',Keeps (fun k=>10<=c k/\c k<14) w w'/\(∀k,k<w.heap.size->c' k=c k)/\RowsAt w' c' (kvs ao cap R) R/\
 match dQ R true F with
 | none=>e= .returned (.tuple #[.agg #[.slice none 0 0,.slice none 0 0,.slice none 0 0,.slice none 0 0],eV ad 9])
 | some (R',false)=>e= .returned (.tuple #[.agg #[.slice none 0 0,.slice none 0 0,.slice none 0 0,.slice none 0 0],eV ad 3])
 | some (R',true)=>∃ao' cap',e= .returned (.tuple #[kV ao' cap' R',.nilIface])/\RowsAt w' c' (kvs ao' cap' R') R'
theorem Gp (w:World) (c:Nat->Nat) (ao:Nat->Option Addr) (cap:Nat->Nat) (R:Rws) (fa0:Option Addr) (fc0:Nat) (fresh:List OpX) (hE:EnvE B ad w) (hB:∀k,c k≠0->B<=k) (hR:RowsAt w c (kvs ao cap R) R) (hin:OpsIn w fa0 fresh) (hok:∀x∈fresh,ai x=0) (hcw:∀k,w.heap.size<=k->c k=0) (hn:fresh.length<=1000) (hl:∀i,i<4->(R i).length+fresh.length<=1000):
  Calls prog 69 #[kV ao cap R,.slice fa0 fresh.length fc0] w fun e w'=>∃F:List OpX,F.Perm fresh/\F.Pairwise (fun a b=>aw a<=aw b)/\Ks ad w c ao cap R F e w':=by
 obtain ⟨S,hS⟩:=zc w.heap.size
 obtain ⟨U,hU⟩:=zc ((w.alloc (.cells #[.slice (ao 0) (R 0).length (cap 0),.slice (ao 1) (R 1).length (cap 1),.slice (ao 2) (R 2).length (cap 2),.slice (ao 3) (R 3).length (cap 3)] 112)).alloc (.cells #[.slice none 0 0,.slice none 0 0,.slice none 0 0,.slice none 0 0] 112))
 have hb:Below w.heap.size w U:=zI
 have hk:KBox U S ao cap R:=zT
 have hr:U.heap[S+1]? =some (.cells #[.slice none 0 0,.slice none 0 0,.slice none 0 0,.slice none 0 0] 112 (0,0)):=by
  rw [hU,hS]
  have:=heap_alloc_new (w.alloc (.cells #[.slice (ao 0) (R 0).length (cap 0),.slice (ao 1) (R 1).length (cap 1),.slice (ao 2) (R 2).length (cap 2),.slice (ao 3) (R 3).length (cap 3)] 112)) (.cells #[.slice none 0 0,.slice none 0 0,.slice none 0 0,.slice none 0 0] 112)
  exact kd4
 obtain ⟨V,hV⟩:=zc (U.alloc (.cells #[.slice fa0 fresh.length fc0] 25))
 have hbV:Below U.heap.size U V:=by rw [hV];exact zh U _
 have hBs:V.heap[U.heap.size]? =some (.cells #[.slice fa0 fresh.length fc0] 25 (0,0)):=by rw [hV];exact heap_alloc_new U _
 obtain ⟨g,off,hao,hg,hI⟩:∃g off,(fresh= []\/fa0=some ⟨g,off,none⟩)/\g<V.heap.size/\OpsRow V g off fresh:=by
  rcases (hin.later hb).later hbV with h | ⟨g,off,e,h⟩
  ·exact ⟨U.heap.size,0,.inl h,(vD.1 hBs).1,fun j u hj=>by rw [h] at hj;simp [cellsOf] at hj⟩
  by_cases hf:fresh= []
  ·exact ⟨U.heap.size,0,.inl hf,(vD.1 hBs).1,fun j u hj=>by rw [hf] at hj;simp [cellsOf] at hj⟩
  refine ⟨g,off,.inr e,?_,h⟩
  obtain ⟨x,t,rfl⟩:=List.exists_cons_of_ne_nil hf
  exact vK V ⟨g,off+0,none⟩ (h 0 (.int .i64 x.1) rfl)
 have hcall:=oU V U.heap.size g off fc0 fa0 fresh hn hao (vD.1 hBs).1 hg (by simp [World.cell?,hBs]) hI
 have H0:Aside (KBox V S ao cap R/\V.heap[S+1]? =some (.cells #[.slice none 0 0,.slice none 0 0,.slice none 0 0,.slice none 0 0] 112 (0,0))/\Below w.heap.size w V/\S=w.heap.size):=⟨hk.later hbV,(hbV.block _ (vD.1 hr).1).trans hr,zi hb hbV,hS⟩
 have HE:Aside (EnvE B ad w/\RowsAt w c (kvs ao cap R) R/\∀k,c k≠0->B<=k):=⟨hE,hR,hB⟩
 have HV:Aside (V=U.alloc (.cells #[.slice fa0 fresh.length fc0] 25)):=hV
 clear hb hk hr hbV hBs hao hg hI hE hR hB hin hV
 unfold kV
 go_enter func69,ntmps69
 go_wp2_with fail
 rw [<-hU,<-hS]
 clear hU hS
 refine (Br _ _ _ _).mono ?_
 rintro e w' ⟨rfl,hw'⟩
 rw [<-HV.o] at hw'
 subst hw'
 go_wp2_with fail
 refine hcall.mono ?_
 clear hcall
 rintro e w1 ⟨fa,fc,F,rfl,hp,hpw,hF,hfa,hb1⟩
 have hFl:F.length=fresh.length:=hp.length_eq
 have H1:Aside (WithSt w S c ao cap R fa F 0 ao cap R true c w1/\F.Perm fresh/\F.Pairwise (fun a b=>aw a<=aw b)):=by
  have hbw:Below w.heap.size w w1:=zi H0.o.2.2.1 hb1
  have hSV:=(vD.1 H0.o.2.1).1
  refine ⟨⟨(aX hbw).mono (fun k hk e=>zj),fun _ _=>rfl,H0.o.1.later hb1,(hb1.block _ hSV).trans H0.o.2.1,⟨hcw _ yY,hcw _ yY,H0.o.2.2.2⟩,HE.o.2.1.kept (fun i _=>⟨fun k hk _=>hbw.block k hk,fun _ _=>rfl⟩),HE.o.2.1.kept (fun i _=>⟨fun k hk _=>hbw.block k hk,fun _ _=>rfl⟩),fun i _=>⟨⟨[],zt⟩,fun _ _ _=>rfl⟩,hF,fun a e=>⟨hcw _ (vI H0.o.2.2.1.size (hfa a e)),by have:=hfa a e;have:=(vD.1 H0.o.2.1).1;omega⟩,rfl,vV hSV hb1.size,fun i _=>vB _⟩,hp,hpw⟩
 rw [<-hFl]
 have HN:Aside (F.length=fresh.length):=hFl
 have hokF:∀x∈F,ai x=0:=fun x hx=>hok x (hp.mem_iff.1 hx)
 have hnF:F.length<=1000:=zj
 have hlF:∀i,i<4->(R i).length+F.length<=1000:=fun i hi=>by have:=hl i hi;omega
 clear hp hpw hF hfa hb1 hFl hok hl hn hcw
 go_wp2
 go_loopg [7,16] F.length (fun kx s7 s16 wr=>∃(k:Nat) (ao':Nat->Option Addr) (cap':Nat->Nat) (R':Rws) (z:Bool) (c':Nat->Nat),s16= .int .i64 (k:Int)/\s7= .bool z/\k<=F.length/\F.length - k<=kx/\Aside (WithSt w S c ao cap R fa F k ao' cap' R' z c' wr))
 case atStart=>exact ⟨0,ao,cap,R,true,c,rfl,rfl,vM _,vB _,H1.o.1⟩
 case round=>
  obtain ⟨k,ao',cap',R',z,c',rfl,rfl,hkl,hkx,A⟩:=hrel
  by_cases hlt:k<F.length
  ·have d1:decide ((k:Int)<(F.length:Int))=true:=by simp;omega
   have wk:((k:Int)).toNat=k:=zj
   have pk:(0:Int)<=(k:Int):=zj
   have bk:(k:Int)<(F.length:Int):=zj
   obtain ⟨⟨t,b,n,kd,nd,o,s,v⟩,hx⟩:∃x,Aside (F[k]? =some x):=⟨F[k],vF hlt⟩
   have hdrop:Aside (F.drop k=(t,b,n,kd,nd,o,s,v)::F.drop (k+1)):=by
    show F.drop k=_
    exact kq3
   have herr:=hokF _ (vH hx.o)
   obtain ⟨i,hi,hbi,hbt⟩:=Ar herr
   have hbi:b=(i:Int):=hbi
   subst hbi
   have hnum:1<=n/\n<=400:=⟨(ar herr).2.2.2.2.1,(ar herr).2.2.2.2.2.1⟩
   have wi:((i:Int)).toNat=i:=zj
   have pi:(0:Int)<=(i:Int):=zj
   have bi:(i:Int)<4:=zj
   clear herr
   obtain ⟨blk,off,hao,hc⟩:=A.o.ops.get hx.o
   subst hao
   have r0:=hc 0 _ rfl
   have r1:=hc 1 _ rfl
   have r2:=hc 2 _ rfl
   have r3:=hc 3 _ rfl
   have r4:=hc 4 _ rfl
   have r5:=hc 5 _ rfl
   have r6:=hc 6 _ rfl
   have r7:=hc 7 _ rfl
   simp only [uZ] at r0
   clear hc
   obtain ⟨P,hP⟩:=zc wr.heap.size
   obtain ⟨U1,hU1⟩:=zc (wr.alloc (.cells #[.int .i64 t,.int .i64 (i:Int),.int .i64 n,.int .u8 (kd:Int),.int .i64 nd,.int .i64 o,.string s,.string v] 61))
   have hbU:Below wr.heap.size wr U1:=by rw [hU1];exact zh wr _
   have H2:Aside (WithSt w S c ao cap R (some ⟨blk,off,none⟩) F k ao' cap' R' z c' U1/\OpBlk U1 P (t,(i:Int),n,kd,nd,o,s,v)/\P=wr.heap.size):=⟨A.o.later hbU,by rw [hU1,hP];exact OpBlk.new wr (t,(i:Int),n,kd,nd,o,s,v),hP⟩
   have HU:Aside (U1=wr.alloc (.cells #[.int .i64 t,.int .i64 (i:Int),.int .i64 n,.int .u8 (kd:Int),.int .i64 nd,.int .i64 o,.string s,.string v] 61)/\P=wr.heap.size):=⟨hU1,hP⟩
   have hlen:(R' i).length<=1000:=by
    have:=hlF i hi
    have:=A.o.len i hi
    omega
   clear hbU hU1 hP
   go_upto_region 6 with fail
   rw [<-HU.o.1,<-HU.o.2]
   clear r0 r1 r2 r3 r4 r5 r6 r7
   obtain ⟨y0,y1,y2,y3,y4,y5,y6,y7,f8⟩:=H2.o.2.1.cells
   dsimp only at y0 y1 y2 y3 y4 y5 y6 y7
   have kb:=H2.o.1.box.at hi
   obtain ⟨ln,hln⟩:=zc ((R' i).length)
   rw [<-hln] at kb hlen
   have HL0:Aside (ln=(R' i).length):=hln
   clear hln
   by_cases hnn:n=(ln:Int)+1
   ·have dn:(n !=(ln:Int)+1)=false:=by simp [hnn]
    have HNN:Aside (n=(ln:Int)+1):=hnn
    clear hnn
    go_wp2_with fail
    cases hlast:(R' i).getLast? with
    | none=>
     have h0:R' i= []:=List.getLast?_eq_none_iff.1 hlast
     have HR:Aside (fX (R' i) (t,(i:Int),n,kd,nd,o,s,v)=true):=by
      show fX _ _=true
      unfold fX;rw [hlast]
     obtain rfl:ln=0:=by rw [HL0.o,h0];rfl
     have HLN:Aside ((R' i).length=0):=HL0.o.symm
     have HP:Aside (P=wr.heap.size):=HU.o.2
     clear hlast h0
     refine wp_region_quiet_grown zo zo ?_
     repeat (go_big_quiet_step (fail))
     refine wpQuiet_nil ?_
     intro _ hw'
     obtain ⟨⟨nq,osq⟩,hw''⟩:=hw'
     change _=grow (U1.drewN nq) osq at hw''
     subst hw''
     have H3:Aside (WithSt w S c ao cap R (some ⟨blk,off,none⟩) F k ao' cap' R' z c' (grow (U1.drewN nq) osq)/\OpBlk (grow (U1.drewN nq) osq) P (t,(i:Int),n,kd,nd,o,s,v)):=⟨H2.o.1.later (aJ ⟨nq,osq,rfl⟩),H2.o.2.1.later (aJ ⟨nq,osq,rfl⟩)⟩
     generalize grow (U1.drewN nq) osq=u0 at H3 |-
     clear H2 y0 y1 y2 y3 y4 y5 y6 y7 f8 kb
     obtain ⟨y0,y1,y2,y3,y4,y5,y6,y7,f8⟩:=H3.o.2.cells
     dsimp only at y0 y1 y2 y3 y4 y5 y6 y7
     have hPl:=H3.o.2.lt
     have kb:=H3.o.1.box.at hi
     rw [HLN.o] at kb
     have kf:=H3.o.1.box.fz i
     have hSl:=H3.o.1.box.lt
     obtain ⟨i0,hi0,hz0,hz1,hz2⟩:=info_parts fw
     obtain ⟨v',u2,hrun,hown,hgrow,hcase⟩:=dR (P:=prog) (u0.alloc (.cells #[.int .i64 t,.int .i64 (i:Int),.int .i64 n,.int .u8 (kd:Int),.int .i64 nd,.int .i64 o,.string s,.string v] 61)).drew 0 25 25 61 i0 _ 8 80 underlying25 hi0 hz0 hz1 hz2 rfl zj (.slice (ao' i) (0) (cap' i)) (0) (cellsOf (R' i)) (by have:=(H3.o.1.new i hi).1.alloc (.cells #[.int .i64 t,.int .i64 (i:Int),.int .i64 n,.int .u8 (kd:Int),.int .i64 nd,.int .i64 o,.string s,.string v] 61);unfold kvs at this;rw [HLN.o] at this;exact this) ⟨u0.heap.size,0,none⟩ 1 1 zj (bq (t,(i:Int),n,kd,nd,o,s,v)) rfl (dE u0 (t,(i:Int),n,kd,nd,o,s,v) _) (fP _) zA zj (vM _)
     obtain ⟨va,vc,rfl⟩:=fh hown
     have hgrow:(u0.alloc (.cells #[.int .i64 t,.int .i64 (i:Int),.int .i64 n,.int .u8 (kd:Int),.int .i64 nd,.int .i64 o,.string s,.string v] 61)).grownBy u2 (Value.slice (ao' i) (0) (cap' i)).ownBlock:=⟨hgrow.os,hgrow.tape,hgrow.output,hgrow.size,hgrow.block⟩
     have hgP:∀g,(kvs ao' cap' R' i).ownBlock=some g->g<P/\g≠S:=fun g hg=>⟨yW,fun e=>yM⟩
     have K2:=aV hgrow
     have hOwn:(Value.slice (ao' i) (0) (cap' i)).ownBlock=(kvs ao' cap' R' i).ownBlock:=by unfold kvs;rw [HLN.o]
     have kbU:∀o,(u0.alloc o).cell? ⟨S,i,none⟩=some (.slice (ao' i) (0) (cap' i)):=fun o=>(uc (a:=⟨S,i,none⟩) (vP u0 o S hSl)).trans kb
     have hs2:=K2.size
     have hSP:S<P:=xg
     have bS:u2.heap[S]? =u0.heap[S]? :=(K2.block S zq (fun e=>qz)).trans (vP u0 _ S hSl)
     have bP:u2.heap[P]? =u0.heap[P]? :=(K2.block P zq (fun e=>qt)).trans (vP u0 _ P hPl)
     have kb2:u2.cell? ⟨S,i,none⟩=some (.slice (ao' i) (0) (cap' i)):=(uc (a:=⟨S,i,none⟩) bS).trans kb
     have kf2:u2.frozen? ⟨S,i,none⟩=false:=(World.frozen?_of_block (a:=⟨S,i,none⟩) bS).trans kf
     have PU:OpBlk (u0.alloc (.cells #[.int .i64 t,.int .i64 (i:Int),.int .i64 n,.int .u8 (kd:Int),.int .i64 nd,.int .i64 o,.string s,.string v] 61)) P (t,(i:Int),n,kd,nd,o,s,v):=(vP u0 _ P hPl).trans H3.o.2
     have P2:OpBlk u2 P (t,(i:Int),n,kd,nd,o,s,v):=bP.trans H3.o.2
     have HNX:Aside (∃ao'' cap'' c'',WithSt w S c ao cap R (some ⟨blk,off,none⟩) F (k+1) ao'' cap'' (upR R' i (R' i++ [(t,(i:Int),n,kd,nd,o,s,v)])) (z &&fX (R' i) (t,(i:Int),n,kd,nd,o,s,v)) c'' (u2.setCell ⟨S,i,none⟩ (.slice va ((0)+1) vc))):=by
      refine H3.o.1.next hi hbt hx.o xK (ob:=.cells #[.int .i64 t,.int .i64 (i:Int),.int .i64 n,.int .u8 (kd:Int),.int .i64 nd,.int .i64 o,.string s,.string v] 61) xX xS ?_
      rcases hcase with ⟨g,cp,e1,e2⟩ | e
      ·exact .inl ⟨g,cp,by unfold kvs;rw [HLN.o];exact e1,by rw [HLN.o];exact e2⟩
      exact kj7
     clear hown hgrow hcase K2 hOwn bS bP hgP hs2
     go_wp2_with fail
     refine bv (S:=(fun w'=>OpBlk w' P (t,(i:Int),n,kd,nd,o,s,v))) (z:=8) zo H3.o.2 (fun hHeld=> ?_)
     refine aY (i:=0) (v:= ?va0) zr rfl zo zo zo (fun _ _ _ h=>h) (Or.inl ⟨zv,?hy0⟩) hHeld ?rest0
     case hy0=>(intro w' _;go_simp;try with_reducible rfl)
     simp only [Act.put,vO,vX,vY]
     refine aY (i:=1) (v:= ?va1) zr rfl zo zo zo (fun _ _ _ h=>h) (Or.inl ⟨zv,?hy1⟩) hHeld ?rest1
     case hy1=>(intro w' _;go_simp;try with_reducible rfl)
     simp only [Act.put,vO,vX,vY]
     refine aA (i:=2) (v:= ?va2) zr zo rfl zo zo zo zo (fun _ _ _ h=>h) (Or.inl ⟨zv,?hy2⟩) hHeld ?rest2
     case hy2=>(intro w' hSw;obtain ⟨j0,j1,j2,j3,j4,j5,j6,j7,-⟩:=hSw.cells;dsimp only at j0 j1 j2 j3 j4 j5 j6 j7;go_simp;try with_reducible rfl)
     simp only [Act.put,vO,vX,vY]
     refine aY (i:=3) (v:= ?va3) zr rfl zo zo zo (fun _ _ _ h=>h) (Or.inl ⟨zv,?hy3⟩) hHeld ?rest3
     case hy3=>(intro w' _;go_simp;try with_reducible rfl)
     simp only [Act.put,vO,vX,vY]
     refine aA (i:=4) (v:= ?va4) zr zo rfl zo zo zo zo (fun _ _ _ h=>h) (Or.inl ⟨zv,?hy4⟩) hHeld ?rest4
     case hy4=>(intro w' hSw;obtain ⟨j0,j1,j2,j3,j4,j5,j6,j7,-⟩:=hSw.cells;dsimp only at j0 j1 j2 j3 j4 j5 j6 j7;go_simp;try with_reducible rfl)
     simp only [Act.put,vO,vX,vY]
     refine aF (i:=5) zo rfl (fun K hK=> ?_)
     go_simp
     refine hK _ _ (.inl PU) ?_
     clear hK K hHeld
     refine aF (i:=6) zo rfl (fun K hK=> ?_)
     rw [if_pos zv]
     simp only [Zq,ZT,ZW]
     refine Lib.wp_append_run _ _ _ _ _ rfl (.slice (ao' i) (0) (cap' i)) (.slice (some ⟨u0.heap.size,0,none⟩) 1 1) ?ahs ?ahx _ u2 hrun ?_
     case ahs=>rfl
     case ahx=>rfl
     refine hK _ _ (.inl P2) ?_
     clear hK K
     refine qn ?_
     refine aY (i:=7) (v:= ?va7) zr rfl zo zo zo (fun _ _ _ h=>h) (Or.inl ⟨zv,?hy7⟩) P2 ?rest7
     case hy7=>(intro w' _;go_simp;try with_reducible rfl)
     refine qn ?_
     refine aF (i:=8) zo rfl (fun K hK=> ?_)
     go_simp
     refine hK _ _ (.inr ⟨rfl,zr⟩) ?_
     clear hK K
     refine bB zo ?_ _
     obtain ⟨ao'',cap'',c'',HW⟩:=HNX.o
     go_wp2
     go_roundg (F.length - (k+1))
     case measure=>omega
     case rel=>exact ⟨k+1,ao'',cap'',_,_,c'',zw,by rw [HR.o];simp,zj,vB _,HW⟩
    | some y=>
     obtain ⟨t',b',n',kd',nd',oo',s',v2⟩:=y
     have hy:(R' i)[(R' i).length - 1]? =some (t',b',n',kd',nd',oo',s',v2):=by rw [<-List.getLast?_eq_getElem?];exact hlast
     have hyl:=(vA.1 hy).1
     obtain ⟨m,rfl⟩:∃m,ln=m+1:=⟨ln - 1,by have:=HL0.o;omega⟩
     have HLN:Aside ((R' i).length=m+1):=HL0.o.symm
     have em:(R' i).length - 1=m:=by have:=HL0.o;omega
     rw [em] at hy
     have HP:Aside (P=wr.heap.size):=HU.o.2
     obtain ⟨g2,o2,hao2,hc2⟩:=((KnownAt.of_rows H2.o.1.new) i hi).get hy
     have q0':U1.cell? ⟨g2,o2+m*8,none⟩=some (.int .i64 t'):=hc2 0 _ rfl
     have q0:=fN q0'
     have q1':U1.cell? ⟨g2,o2+m*8+1,none⟩=some (.int .i64 b'):=hc2 1 _ rfl
     have q1:=fN q1'
     have p0:=fN y0
     have p1:=fN y1
     have HAO:Aside (ao' i=some ⟨g2,o2,none⟩):=hao2
     have HB2:Aside (fX (R' i) (t,(i:Int),n,kd,nd,o,s,v)=bM t' b' t (i:Int)):=by
      show fX _ _=_
      unfold fX
      rw [hlast]
      exact (mP (t',b') (t,(i:Int))).symm
     have e1:(((m+1:Nat):Int) - 1)=(m:Int):=zj
     have e2:((m:Int)).toNat=m:=zj
     have e3:(0:Int)<=(m:Int):=zj
     have e4:(m:Int)<((m+1:Nat):Int):=zj
     have d5:decide ((0:Int)<((m+1:Nat):Int))=true:=zt
     rw [hao2]
     clear hlast hy hyl em hc2 hao2 q0' q1'
     cases hzz:bM t' b' t (i:Int) with
     | true=>
      have HZ:Aside (bM t' b' t (i:Int)=true):=hzz
      have HR:Aside (fX (R' i) (t,(i:Int),n,kd,nd,o,s,v)=true):=HB2.o.trans hzz
      clear hzz
      refine wp_region_quiet_grown zo zo ?_
      repeat (go_big_quiet_step (first | (go_at_call 128;refine Calls.grown_of (gl _ _ _ _ true _ HZ.o))))
      refine wpQuiet_nil ?_
      intro _ hw'
      obtain ⟨⟨nq,osq⟩,hw''⟩:=hw'
      change _=grow (U1.drewN nq) osq at hw''
      subst hw''
      have H3:Aside (WithSt w S c ao cap R (some ⟨blk,off,none⟩) F k ao' cap' R' z c' (grow (U1.drewN nq) osq)/\OpBlk (grow (U1.drewN nq) osq) P (t,(i:Int),n,kd,nd,o,s,v)):=⟨H2.o.1.later (aJ ⟨nq,osq,rfl⟩),H2.o.2.1.later (aJ ⟨nq,osq,rfl⟩)⟩
      generalize grow (U1.drewN nq) osq=u0 at H3 |-
      clear H2 q0 q1 p0 p1 y0 y1 y2 y3 y4 y5 y6 y7 f8 kb
      obtain ⟨y0,y1,y2,y3,y4,y5,y6,y7,f8⟩:=H3.o.2.cells
      dsimp only at y0 y1 y2 y3 y4 y5 y6 y7
      have hPl:=H3.o.2.lt
      have kb:=H3.o.1.box.at hi
      rw [HLN.o,HAO.o] at kb
      have kf:=H3.o.1.box.fz i
      have hSl:=H3.o.1.box.lt
      obtain ⟨i0,hi0,hz0,hz1,hz2⟩:=info_parts fw
      obtain ⟨v',u2,hrun,hown,hgrow,hcase⟩:=dR (P:=prog) (u0.alloc (.cells #[.int .i64 t,.int .i64 (i:Int),.int .i64 n,.int .u8 (kd:Int),.int .i64 nd,.int .i64 o,.string s,.string v] 61)).drew 0 25 25 61 i0 _ 8 80 underlying25 hi0 hz0 hz1 hz2 rfl zj (.slice (some ⟨g2,o2,none⟩) (m+1) (cap' i)) (m+1) (cellsOf (R' i)) ya ⟨u0.heap.size,0,none⟩ 1 1 zj (bq (t,(i:Int),n,kd,nd,o,s,v)) rfl (dE u0 (t,(i:Int),n,kd,nd,o,s,v) _) (fP _) zA zj (vM _)
      obtain ⟨va,vc,rfl⟩:=fh hown
      have hgrow:(u0.alloc (.cells #[.int .i64 t,.int .i64 (i:Int),.int .i64 n,.int .u8 (kd:Int),.int .i64 nd,.int .i64 o,.string s,.string v] 61)).grownBy u2 (Value.slice (some ⟨g2,o2,none⟩) (m+1) (cap' i)).ownBlock:=⟨hgrow.os,hgrow.tape,hgrow.output,hgrow.size,hgrow.block⟩
      have hgP:∀g,(kvs ao' cap' R' i).ownBlock=some g->g<P/\g≠S:=fun g hg=>⟨yW,fun e=>yM⟩
      have K2:=aV hgrow
      have hOwn:(Value.slice (some ⟨g2,o2,none⟩) (m+1) (cap' i)).ownBlock=(kvs ao' cap' R' i).ownBlock:=by unfold kvs;rw [HLN.o,HAO.o]
      have kbU:∀o,(u0.alloc o).cell? ⟨S,i,none⟩=some (.slice (some ⟨g2,o2,none⟩) (m+1) (cap' i)):=fun o=>(uc (a:=⟨S,i,none⟩) (vP u0 o S hSl)).trans kb
      have hs2:=K2.size
      have hSP:S<P:=xg
      have bS:u2.heap[S]? =u0.heap[S]? :=(K2.block S zq (fun e=>qz)).trans (vP u0 _ S hSl)
      have bP:u2.heap[P]? =u0.heap[P]? :=(K2.block P zq (fun e=>qt)).trans (vP u0 _ P hPl)
      have kb2:u2.cell? ⟨S,i,none⟩=some (.slice (some ⟨g2,o2,none⟩) (m+1) (cap' i)):=(uc (a:=⟨S,i,none⟩) bS).trans kb
      have kf2:u2.frozen? ⟨S,i,none⟩=false:=(World.frozen?_of_block (a:=⟨S,i,none⟩) bS).trans kf
      have PU:OpBlk (u0.alloc (.cells #[.int .i64 t,.int .i64 (i:Int),.int .i64 n,.int .u8 (kd:Int),.int .i64 nd,.int .i64 o,.string s,.string v] 61)) P (t,(i:Int),n,kd,nd,o,s,v):=(vP u0 _ P hPl).trans H3.o.2
      have P2:OpBlk u2 P (t,(i:Int),n,kd,nd,o,s,v):=bP.trans H3.o.2
      have HNX:Aside (∃ao'' cap'' c'',WithSt w S c ao cap R (some ⟨blk,off,none⟩) F (k+1) ao'' cap'' (upR R' i (R' i++ [(t,(i:Int),n,kd,nd,o,s,v)])) (z &&fX (R' i) (t,(i:Int),n,kd,nd,o,s,v)) c'' (u2.setCell ⟨S,i,none⟩ (.slice va ((m+1)+1) vc))):=by
       refine H3.o.1.next hi hbt hx.o xK (ob:=.cells #[.int .i64 t,.int .i64 (i:Int),.int .i64 n,.int .u8 (kd:Int),.int .i64 nd,.int .i64 o,.string s,.string v] 61) xX xS ?_
       rcases hcase with ⟨g,cp,e1,e2⟩ | e
       ·exact kn4
       exact kj7
      clear hown hgrow hcase K2 hOwn bS bP hgP hs2
      go_wp2_with fail
      refine bv (S:=(fun w'=>OpBlk w' P (t,(i:Int),n,kd,nd,o,s,v))) (z:=8) zo H3.o.2 (fun hHeld=> ?_)
      refine aY (i:=0) (v:= ?vaT0) zr rfl zo zo zo (fun _ _ _ h=>h) (Or.inl ⟨zv,?hyT0⟩) hHeld ?restT0
      case hyT0=>(intro w' _;go_simp;try with_reducible rfl)
      simp only [Act.put,vO,vX,vY]
      refine aY (i:=1) (v:= ?vaT1) zr rfl zo zo zo (fun _ _ _ h=>h) (Or.inl ⟨zv,?hyT1⟩) hHeld ?restT1
      case hyT1=>(intro w' _;go_simp;try with_reducible rfl)
      simp only [Act.put,vO,vX,vY]
      refine aA (i:=2) (v:= ?vaT2) zr zo rfl zo zo zo zo (fun _ _ _ h=>h) (Or.inl ⟨zv,?hyT2⟩) hHeld ?restT2
      case hyT2=>(intro w' hSw;obtain ⟨j0,j1,j2,j3,j4,j5,j6,j7,-⟩:=hSw.cells;dsimp only at j0 j1 j2 j3 j4 j5 j6 j7;go_simp;try with_reducible rfl)
      simp only [Act.put,vO,vX,vY]
      refine aY (i:=3) (v:= ?vaT3) zr rfl zo zo zo (fun _ _ _ h=>h) (Or.inl ⟨zv,?hyT3⟩) hHeld ?restT3
      case hyT3=>(intro w' _;go_simp;try with_reducible rfl)
      simp only [Act.put,vO,vX,vY]
      refine aA (i:=4) (v:= ?vaT4) zr zo rfl zo zo zo zo (fun _ _ _ h=>h) (Or.inl ⟨zv,?hyT4⟩) hHeld ?restT4
      case hyT4=>(intro w' hSw;obtain ⟨j0,j1,j2,j3,j4,j5,j6,j7,-⟩:=hSw.cells;dsimp only at j0 j1 j2 j3 j4 j5 j6 j7;go_simp;try with_reducible rfl)
      simp only [Act.put,vO,vX,vY]
      refine aF (i:=5) zo rfl (fun K hK=> ?_)
      go_simp
      refine hK _ _ (.inl PU) ?_
      clear hK K hHeld
      refine aF (i:=6) zo rfl (fun K hK=> ?_)
      rw [if_pos zv]
      simp only [Zq,ZT,ZW]
      refine Lib.wp_append_run _ _ _ _ _ rfl (.slice (some ⟨g2,o2,none⟩) (m+1) (cap' i)) (.slice (some ⟨u0.heap.size,0,none⟩) 1 1) ?ahsT ?ahxT _ u2 hrun ?_
      case ahsT=>rfl
      case ahxT=>rfl
      refine hK _ _ (.inl P2) ?_
      clear hK K
      refine qn ?_
      refine aY (i:=7) (v:= ?vaT7) zr rfl zo zo zo (fun _ _ _ h=>h) (Or.inl ⟨zv,?hyT7⟩) P2 ?restT7
      case hyT7=>(intro w' _;go_simp;try with_reducible rfl)
      refine qn ?_
      refine aF (i:=8) zo rfl (fun K hK=> ?_)
      go_simp
      refine hK _ _ (.inr ⟨rfl,zr⟩) ?_
      clear hK K
      refine bB zo ?_ _
      obtain ⟨ao'',cap'',c'',HW⟩:=HNX.o
      go_wp2
      go_roundg (F.length - (k+1))
      case measure=>omega
      case rel=>exact ⟨k+1,ao'',cap'',_,_,c'',zw,by rw [HR.o];simp,zj,vB _,HW⟩
     | false=>
      have HZ:Aside (bM t' b' t (i:Int)=false):=hzz
      have HR:Aside (fX (R' i) (t,(i:Int),n,kd,nd,o,s,v)=false):=HB2.o.trans hzz
      clear hzz
      refine wp_region_quiet_grown zo zo ?_
      repeat (go_big_quiet_step (first | (go_at_call 128;refine Calls.grown_of (gl _ _ _ _ false _ HZ.o))))
      refine wpQuiet_nil ?_
      intro _ hw'
      obtain ⟨⟨nq,osq⟩,hw''⟩:=hw'
      change _=grow (U1.drewN nq) osq at hw''
      subst hw''
      have H3:Aside (WithSt w S c ao cap R (some ⟨blk,off,none⟩) F k ao' cap' R' z c' (grow (U1.drewN nq) osq)/\OpBlk (grow (U1.drewN nq) osq) P (t,(i:Int),n,kd,nd,o,s,v)):=⟨H2.o.1.later (aJ ⟨nq,osq,rfl⟩),H2.o.2.1.later (aJ ⟨nq,osq,rfl⟩)⟩
      generalize grow (U1.drewN nq) osq=u0 at H3 |-
      clear H2 q0 q1 p0 p1 y0 y1 y2 y3 y4 y5 y6 y7 f8 kb
      obtain ⟨y0,y1,y2,y3,y4,y5,y6,y7,f8⟩:=H3.o.2.cells
      dsimp only at y0 y1 y2 y3 y4 y5 y6 y7
      have hPl:=H3.o.2.lt
      have kb:=H3.o.1.box.at hi
      rw [HLN.o,HAO.o] at kb
      have kf:=H3.o.1.box.fz i
      have hSl:=H3.o.1.box.lt
      obtain ⟨i0,hi0,hz0,hz1,hz2⟩:=info_parts fw
      obtain ⟨v',u2,hrun,hown,hgrow,hcase⟩:=dR (P:=prog) (u0.alloc (.cells #[.int .i64 t,.int .i64 (i:Int),.int .i64 n,.int .u8 (kd:Int),.int .i64 nd,.int .i64 o,.string s,.string v] 61)).drew 0 25 25 61 i0 _ 8 80 underlying25 hi0 hz0 hz1 hz2 rfl zj (.slice (some ⟨g2,o2,none⟩) (m+1) (cap' i)) (m+1) (cellsOf (R' i)) ya ⟨u0.heap.size,0,none⟩ 1 1 zj (bq (t,(i:Int),n,kd,nd,o,s,v)) rfl (dE u0 (t,(i:Int),n,kd,nd,o,s,v) _) (fP _) zA zj (vM _)
      obtain ⟨va,vc,rfl⟩:=fh hown
      have hgrow:(u0.alloc (.cells #[.int .i64 t,.int .i64 (i:Int),.int .i64 n,.int .u8 (kd:Int),.int .i64 nd,.int .i64 o,.string s,.string v] 61)).grownBy u2 (Value.slice (some ⟨g2,o2,none⟩) (m+1) (cap' i)).ownBlock:=⟨hgrow.os,hgrow.tape,hgrow.output,hgrow.size,hgrow.block⟩
      have hgP:∀g,(kvs ao' cap' R' i).ownBlock=some g->g<P/\g≠S:=fun g hg=>⟨yW,fun e=>yM⟩
      have K2:=aV hgrow
      have hOwn:(Value.slice (some ⟨g2,o2,none⟩) (m+1) (cap' i)).ownBlock=(kvs ao' cap' R' i).ownBlock:=by unfold kvs;rw [HLN.o,HAO.o]
      have kbU:∀o,(u0.alloc o).cell? ⟨S,i,none⟩=some (.slice (some ⟨g2,o2,none⟩) (m+1) (cap' i)):=fun o=>(uc (a:=⟨S,i,none⟩) (vP u0 o S hSl)).trans kb
      have hs2:=K2.size
      have hSP:S<P:=xg
      have bS:u2.heap[S]? =u0.heap[S]? :=(K2.block S zq (fun e=>qz)).trans (vP u0 _ S hSl)
      have bP:u2.heap[P]? =u0.heap[P]? :=(K2.block P zq (fun e=>qt)).trans (vP u0 _ P hPl)
      have kb2:u2.cell? ⟨S,i,none⟩=some (.slice (some ⟨g2,o2,none⟩) (m+1) (cap' i)):=(uc (a:=⟨S,i,none⟩) bS).trans kb
      have kf2:u2.frozen? ⟨S,i,none⟩=false:=(World.frozen?_of_block (a:=⟨S,i,none⟩) bS).trans kf
      have PU:OpBlk (u0.alloc (.cells #[.int .i64 t,.int .i64 (i:Int),.int .i64 n,.int .u8 (kd:Int),.int .i64 nd,.int .i64 o,.string s,.string v] 61)) P (t,(i:Int),n,kd,nd,o,s,v):=(vP u0 _ P hPl).trans H3.o.2
      have P2:OpBlk u2 P (t,(i:Int),n,kd,nd,o,s,v):=bP.trans H3.o.2
      have HNX:Aside (∃ao'' cap'' c'',WithSt w S c ao cap R (some ⟨blk,off,none⟩) F (k+1) ao'' cap'' (upR R' i (R' i++ [(t,(i:Int),n,kd,nd,o,s,v)])) (z &&fX (R' i) (t,(i:Int),n,kd,nd,o,s,v)) c'' (u2.setCell ⟨S,i,none⟩ (.slice va ((m+1)+1) vc))):=by
       refine H3.o.1.next hi hbt hx.o xK (ob:=.cells #[.int .i64 t,.int .i64 (i:Int),.int .i64 n,.int .u8 (kd:Int),.int .i64 nd,.int .i64 o,.string s,.string v] 61) xX xS ?_
       rcases hcase with ⟨g,cp,e1,e2⟩ | e
       ·exact kn4
       exact kj7
      clear hown hgrow hcase K2 hOwn bS bP hgP hs2
      go_wp2_with fail
      refine bv (S:=(fun w'=>OpBlk w' P (t,(i:Int),n,kd,nd,o,s,v))) (z:=8) zo H3.o.2 (fun hHeld=> ?_)
      refine aY (i:=0) (v:= ?vaF0) zr rfl zo zo zo (fun _ _ _ h=>h) (Or.inl ⟨zv,?hyF0⟩) hHeld ?restF0
      case hyF0=>(intro w' _;go_simp;try with_reducible rfl)
      simp only [Act.put,vO,vX,vY]
      refine aY (i:=1) (v:= ?vaF1) zr rfl zo zo zo (fun _ _ _ h=>h) (Or.inl ⟨zv,?hyF1⟩) hHeld ?restF1
      case hyF1=>(intro w' _;go_simp;try with_reducible rfl)
      simp only [Act.put,vO,vX,vY]
      refine aA (i:=2) (v:= ?vaF2) zr zo rfl zo zo zo zo (fun _ _ _ h=>h) (Or.inl ⟨zv,?hyF2⟩) hHeld ?restF2
      case hyF2=>(intro w' hSw;obtain ⟨j0,j1,j2,j3,j4,j5,j6,j7,-⟩:=hSw.cells;dsimp only at j0 j1 j2 j3 j4 j5 j6 j7;go_simp;try with_reducible rfl)
      simp only [Act.put,vO,vX,vY]
      refine aY (i:=3) (v:= ?vaF3) zr rfl zo zo zo (fun _ _ _ h=>h) (Or.inl ⟨zv,?hyF3⟩) hHeld ?restF3
      case hyF3=>(intro w' _;go_simp;try with_reducible rfl)
      simp only [Act.put,vO,vX,vY]
      refine aA (i:=4) (v:= ?vaF4) zr zo rfl zo zo zo zo (fun _ _ _ h=>h) (Or.inl ⟨zv,?hyF4⟩) hHeld ?restF4
      case hyF4=>(intro w' hSw;obtain ⟨j0,j1,j2,j3,j4,j5,j6,j7,-⟩:=hSw.cells;dsimp only at j0 j1 j2 j3 j4 j5 j6 j7;go_simp;try with_reducible rfl)
      simp only [Act.put,vO,vX,vY]
      refine aF (i:=5) zo rfl (fun K hK=> ?_)
      go_simp
      refine hK _ _ (.inl PU) ?_
      clear hK K hHeld
      refine aF (i:=6) zo rfl (fun K hK=> ?_)
      rw [if_pos zv]
      simp only [Zq,ZT,ZW]
      refine Lib.wp_append_run _ _ _ _ _ rfl (.slice (some ⟨g2,o2,none⟩) (m+1) (cap' i)) (.slice (some ⟨u0.heap.size,0,none⟩) 1 1) ?ahsF ?ahxF _ u2 hrun ?_
      case ahsF=>rfl
      case ahxF=>rfl
      refine hK _ _ (.inl P2) ?_
      clear hK K
      refine qn ?_
      refine aY (i:=7) (v:= ?vaF7) zr rfl zo zo zo (fun _ _ _ h=>h) (Or.inl ⟨zv,?hyF7⟩) P2 ?restF7
      case hyF7=>(intro w' _;go_simp;try with_reducible rfl)
      refine qn ?_
      refine aF (i:=8) zo rfl (fun K hK=> ?_)
      go_simp
      refine hK _ _ (.inr ⟨rfl,zr⟩) ?_
      clear hK K
      refine bB zo ?_ _
      obtain ⟨ao'',cap'',c'',HW⟩:=HNX.o
      go_wp2
      go_roundg (F.length - (k+1))
      case measure=>omega
      case rel=>exact ⟨k+1,ao'',cap'',_,_,c'',zw,by rw [HR.o];simp,zj,vB _,HW⟩
   have e0:=HL0.o
   clear HL0
   subst e0
   have dn:(n !=((R' i).length:Int)+1)=true:=by simp [hnn]
   have HNN:=Lib.hid hnn
   clear hnn
   have eg:U1.cell? ⟨8,0,none⟩=some (.iface 450 (.pointer (some (ad 8)))):=(WithSt.env H2.o.1 HE.o.1 HE.o.2.2).c8
   have hlow:=HE.o.1.low
   have hsB:=HE.o.1.size
   have hSw:=A.o.hS.2.2
   have n1:8≠S+1:=zj
   have n2:S+1≠8:=zj
   have HSw:=Lib.hid hSw
   clear hSw hlow hsB
   obtain ⟨z0,z1,z2,z3,zf⟩:U1.cell? ⟨S+1,0,none⟩=some (.slice none 0 0)/\U1.cell? ⟨S+1,1,none⟩=some (.slice none 0 0)/\U1.cell? ⟨S+1,2,none⟩=some (.slice none 0 0)/\U1.cell? ⟨S+1,3,none⟩=some (.slice none 0 0)/\∀c,U1.frozen? ⟨S+1,c,none⟩=false:=by
    have:=H2.o.1.res
    exact kp9
   go_wp2_with fail
   go_region
   all_goals
    go_wp2
    (try simp only [Exit.inBlock,Exit.then])
    refine bodyPost_ret (v:=.tuple #[.agg #[.slice none 0 0,.slice none 0 0,.slice none 0 0,.slice none 0 0],eV ad 9]) ?_ rfl ⟨F,H1.o.2.1,H1.o.2.2,?_⟩
    ·rw [dX rfl]
     unfold eV
     go_simp
    have hk8:Keeps (fun k=>k=S+1) U1 (U1.setCells (S+1) 0 [.slice none 0 0,.slice none 0 0,.slice none 0 0,.slice none 0 0]):=aZ (S+1) _ 0 U1
    refine ⟨c',?_,A.o.hue,?_,?_⟩
    ·exact H2.o.1.keeps.then hk8.drew (fun j hj e=>vf)
    ·exact H2.o.1.old.kept (fun j hj=>⟨fun q hq hcq=>hk8.block q hq (fun e=>qm),fun _ _=>rfl⟩)
    rw [A.o.go,hdrop.o,dQ,hbt,if_neg HNN.o]
  have d1:decide ((k:Int)<(F.length:Int))=false:=zq
  have hgo:Aside (dQ R true F=some (R',z)):=by
   have:=A.o.go
   rw [Za zj,dQ] at this
   exact this
  obtain ⟨z0,z1,z2,z3,zf⟩:wr.cell? ⟨S+1,0,none⟩=some (.slice none 0 0)/\wr.cell? ⟨S+1,1,none⟩=some (.slice none 0 0)/\wr.cell? ⟨S+1,2,none⟩=some (.slice none 0 0)/\wr.cell? ⟨S+1,3,none⟩=some (.slice none 0 0)/\∀c,wr.frozen? ⟨S+1,c,none⟩=false:=by
   have:=A.o.res
   exact kp9
  have hlow:=HE.o.1.low
  have hsB:=HE.o.1.size
  have hSw:=A.o.hS.2.2
  cases z with
  | false=>
   have eg:wr.cell? ⟨4,0,none⟩=some (.iface 450 (.pointer (some (ad 2)))):=(WithSt.env A.o HE.o.1 HE.o.2.2).op4.c2
   have n1:4≠S+1:=zj
   have n2:S+1≠4:=zj
   have HSw:=Lib.hid hSw
   clear hSw hlow hsB
   go_wp2_with fail
   go_region
   all_goals
    go_wp2
    (try simp only [Exit.inBlock,Exit.then])
    refine bodyPost_ret (v:=.tuple #[.agg #[.slice none 0 0,.slice none 0 0,.slice none 0 0,.slice none 0 0],eV ad 3]) ?_ rfl ⟨F,H1.o.2.1,H1.o.2.2,?_⟩
    ·rw [dX rfl]
     unfold eV
     go_simp
    have hk8:Keeps (fun k=>k=S+1) wr (wr.setCells (S+1) 0 [.slice none 0 0,.slice none 0 0,.slice none 0 0,.slice none 0 0]):=aZ (S+1) _ 0 wr
    refine ⟨c',?_,A.o.hue,?_,?_⟩
    ·exact A.o.keeps.then hk8.drew (fun j hj e=>vf)
    ·exact A.o.old.kept (fun j hj=>⟨fun q hq hcq=>hk8.block q hq (fun e=>qm),fun _ _=>rfl⟩)
    rw [hgo.o]
  | true=>
   have HSw:=Lib.hid hSw
   clear hSw hlow hsB
   have k0:=A.o.box.at (i:=0) zj
   have k1:=A.o.box.at (i:=1) zj
   have k2:=A.o.box.at (i:=2) zj
   have k3:=A.o.box.at (i:=3) zj
   go_wp2
   (try simp only [Exit.inBlock,Exit.then])
   refine bodyPost_ret (v:=.tuple #[kV ao' cap' R',.nilIface]) ?_ rfl ⟨F,H1.o.2.1,H1.o.2.2,?_⟩
   ·rw [dX rfl]
    unfold kV
    go_simp
   have hk8:Keeps (fun k=>k=S+1) wr (wr.setCells (S+1) 0 [.slice (ao' 0) (R' 0).length (cap' 0),.slice (ao' 1) (R' 1).length (cap' 1),.slice (ao' 2) (R' 2).length (cap' 2),.slice (ao' 3) (R' 3).length (cap' 3)]):=aZ (S+1) _ 0 wr
   have hkk:∀j,j<4->pR c' (10+j) wr c' (wr.setCells (S+1) 0 [.slice (ao' 0) (R' 0).length (cap' 0),.slice (ao' 1) (R' 1).length (cap' 1),.slice (ao' 2) (R' 2).length (cap' 2),.slice (ao' 3) (R' 3).length (cap' 3)]):=fun j hj=>⟨fun q hq hcq=>hk8.block q hq (fun e=>qm),fun _ _=>rfl⟩
   refine ⟨c',A.o.keeps.then hk8 (fun j hj e=>vf),A.o.hue,A.o.old.kept hkk,?_⟩
   rw [hgo.o]
   exact ⟨ao',cap',rfl,A.o.new.kept hkk⟩
