import Derived.Test.YtpdbnnimdkfajaaGreatDoorVS21
set_option linter.unusedSimpArgs false
set_option linter.unusedVariables false
set_option maxRecDepth 100000
set_option maxHeartbeats 64000000
namespace Go.Proofs.YtpdbnnimdkfajaaGreatDoor
open Go.Proofs.Tryz
variable {z:Bool} {F:List OpX} {B S k:Nat} {ad:Nat→Addr} {c c' cap cap':Nat→Nat} {ao ao':Nat→Option Addr} {fa:Option Addr} {R R':Rws} {w wr:World}
section
open Go.RowKit Go.Shelf Go.Maps Go.Lib Go.Sort
theorem cell_grownQ {g p:Nat} {v:Value} (h:w.cell? ⟨g,p,none⟩=some v) (q:Nat) (os:Array Obj):(grow (w.drewN q) os).cell? ⟨g,p,none⟩=some v:=
 cellKept (below_grows ⟨q,os,rfl⟩) h
def kvs (ao:Nat->Option Addr) (cap:Nat->Nat) (R:Rws):Nat->Value:=fun i=>.slice (ao i) (R i).length (cap i)
structure WithSt (w:World) (S:Nat) (c:Nat->Nat) (ao:Nat->Option Addr) (cap:Nat->Nat) (R:Rws) (fa:Option Addr) (F:List OpX) (k:Nat) (ao':Nat->Option Addr) (cap':Nat->Nat) (R':Rws) (z:Bool) (c':Nat->Nat) (wr:World):Prop where
 keeps:Keeps (fun k=>10<=c k/\c k<14) w wr
 hue:∀k,k<w.heap.size->c' k=c k
 box:KBox wr S ao' cap' R'
 res:wr.heap[S+1]? =some (.cells #[.slice none 0 0,.slice none 0 0,.slice none 0 0,.slice none 0 0] 65 (0,0))
 hS:c' S=0/\c' (S+1)=0/\S=w.heap.size
 old:RowsAt wr c' (kvs ao cap R) R
 new:RowsAt wr c' (kvs ao' cap' R') R'
 link:∀i,i<4->(∃t,R' i=R i++t)/\∀g,(kvs ao cap R i).ownBlock=some g->(kvs ao' cap' R' i).ownBlock=some g->cap i=cap' i
 ops:OpsIn wr fa F
 fhue:∀a,fa=some a->c' a.block=0/\a.block≠S
 go:withGo R true F=withGo R' z (F.drop k)
 ne:S+1<wr.heap.size
 len:∀i,i<4->(R' i).length<=(R i).length+k
theorem KnownAt.of_rows (h:RowsAt w c (kvs ao cap R) R):KnownAt w ao R:=fun i hi=>by
 rcases h.ops hi with ⟨h1,h2⟩ | ⟨blk,off,cp,h1,h2⟩
 ·exact .inl h2
 exact .inr ⟨blk,off,(Value.slice.inj h1).1,h2⟩
theorem WithSt.later {w:World} {S:Nat} {c:Nat->Nat} {ao:Nat->Option Addr} {cap:Nat->Nat} {R:Rws} {fa:Option Addr} {F:List OpX} {k:Nat} {ao':Nat->Option Addr} {cap':Nat->Nat} {R':Rws} {z:Bool} {c':Nat->Nat} {wr w':World} (h:WithSt w S c ao cap R fa F k ao' cap' R' z c' wr) (hb:Below wr.heap.size wr w'):WithSt w S c ao cap R fa F k ao' cap' R' z c' w':=
 ⟨h.keeps.then (keeps_of_below hb) (fun i hi e=>by have:=h.keeps.size;omega),h.hue,h.box.later hb,(hb.block _ h.ne).trans h.res,h.hS,h.old.kept (fun i _=>⟨fun k hk _=>hb.block k hk,fun _ _=>rfl⟩),h.new.kept (fun i _=>⟨fun k hk _=>hb.block k hk,fun _ _=>rfl⟩),h.link,h.ops.later hb,h.fhue,h.go,jE h.ne hb.size,h.len⟩
theorem WithSt.env (h:WithSt w S c ao cap R fa F k ao' cap' R' z c' wr) (hE:EnvE B ad w) (hB:∀k,c k≠0->B<=k):EnvE B ad wr:=
 hE.mono (h.keeps.below hE.size (fun k e=>hB k zi))
theorem WithSt.next {u0 u2:World} (h:WithSt w S c ao cap R fa F k ao' cap' R' z c' u0) {i:Nat} (hi:i<4) {o:OpX} (hbt:(byO o).toNat=i) (hx:F[k]? =some o) (hnum:numO o=((R' i).length:Int)+1) {ob:Obj} {v':Value}
  (hown:u2.ownsRow 0 38 8 v' ((R' i).length+1) (cellsOf (R' i)++encX o)) (hgrow:(u0.alloc ob).grownBy u2 (kvs ao' cap' R' i).ownBlock)
  (hcase:(∃g cp,kvs ao' cap' R' i= .slice (some ⟨g,0,none⟩) (R' i).length cp/\v'= .slice (some ⟨g,0,none⟩) ((R' i).length+1) cp)\/(v'.ownBlock=some (u0.alloc ob).heap.size/\(u0.alloc ob).grownBy u2 none)):
  ∃ao'' cap'' c'',WithSt w S c ao cap R fa F (k+1) ao'' cap'' (upR R' i (R' i++ [o])) (z &&riseB (R' i) o) c'' (u2.setCell ⟨S,i,none⟩ v'):=by
 obtain ⟨a,cp,rfl⟩:=rowIs hown
 have hcells:cellsOf (R' i++ [o])=cellsOf (R' i)++encX o:=by rw [cellsOf_app];simp [cellsOf]
 have hkl:=(jh.1 hx).1
 have hsz0:(u0.alloc ob).heap.size=u0.heap.size+1:=zm
 have K2:=keeps_of_grown hgrow
 have K3:Keeps (fun q=>q=S) u2 (u2.setCell ⟨S,i,none⟩ (.slice a ((R' i).length+1) cp)):=setCells_keeps S [_] i u2
 have hs2:=K2.size
 have hSS:=h.hS
 have hSl:=h.box.lt
 have hg10:∀g,(kvs ao' cap' R' i).ownBlock=some g->g<u0.heap.size/\c' g=10+i:=fun g hg=>⟨((h.new i hi).1.lt g hg).2,(h.new i hi).2 g hg⟩
 have hv10:∀g,(Value.slice a ((R' i).length+1) cp).ownBlock=some g->(g<u0.heap.size/\(kvs ao' cap' R' i).ownBlock=some g/\c' g=10+i)\/g=u0.heap.size+1:=fun g hg=>by
  rcases hcase with ⟨g',cp',e1,e2⟩ | ⟨e,_⟩
  ·have e3:a=some ⟨g',0,none⟩:=(Value.slice.inj e2).1
   rw [e3] at hg
   cases hg
   have:(kvs ao' cap' R' i).ownBlock=some g':=by rw [e1];rfl
   exact .inl ⟨(hg10 _ this).1,this,(hg10 _ this).2⟩
  rw [hg] at e
  right
  have:=Option.some.inj e
  rw [hsz0] at this
  exact this
 have stay:∀q,q<u0.heap.size->q≠S->(kvs ao' cap' R' i).ownBlock≠some q->(u2.setCell ⟨S,i,none⟩ (.slice a ((R' i).length+1) cp)).heap[q]? =u0.heap[q]? :=fun q hq hqS hqg=>by
  rw [K3.block q zi hqS,K2.block q zi (fun e=>hqg e.symm)]
  exact jp u0 ob q hq
 obtain ⟨c'',hc''⟩:∃c'':Nat->Nat,∀q,((Value.slice a ((R' i).length+1) cp).ownBlock=some q->c'' q=10+i)/\((Value.slice a ((R' i).length+1) cp).ownBlock≠some q->c'' q=c' q):=⟨fun q=> @ite _ ((Value.slice a ((R' i).length+1) cp).ownBlock=some q) (Classical.propDecidable _) (10+i) (c' q),fun q=>⟨fun e=>if_pos e,fun e=>if_neg e⟩⟩
 have hueOld:∀q,q<u0.heap.size->c'' q=c' q:=fun q hq=>by
  by_cases e:(Value.slice a ((R' i).length+1) cp).ownBlock=some q
  ·rw [(hc'' q).1 e]
   rcases hv10 q e with ⟨_,_,e3⟩ | e3
   ·exact e3.symm
   omega
  exact (hc'' q).2 e
 have notS:(Value.slice a ((R' i).length+1) cp).ownBlock≠some S:=fun e=>by
  rcases hv10 S e with ⟨_,_,e3⟩ | e3
  ·omega
  omega
 have gS:(kvs ao' cap' R' i).ownBlock≠some S:=fun e=>by have:=hg10 S e;omega
 have gS1:(kvs ao' cap' R' i).ownBlock≠some (S+1):=fun e=>by have:=hg10 _ e;omega
 have hne:=h.ne
 have rowStay:∀ {kv:Nat->Value} {Q:Rws},RowsAt u0 c' kv Q->∀j,j<4->(∀g,(kv j).ownBlock=some g->(kvs ao' cap' R' i).ownBlock≠some g)->(u2.setCell ⟨S,i,none⟩ (.slice a ((R' i).length+1) cp)).ownsRow 0 38 8 (kv j) (Q j).length (cellsOf (Q j))/\∀g,(kv j).ownBlock=some g->c'' g=10+j:=fun {kv Q} hQ j hj hg=>by
  obtain ⟨q1,q2⟩:=hQ j hj
  refine ⟨owns_same q1 (fun g e=>stay g (q1.lt g e).2 (fun e'=>by have:=q2 g e;rw [e'] at this;omega) (hg g e)),fun g e=> ?_⟩
  rw [hueOld g (q1.lt g e).2]
  exact q2 g e
 have apart:∀ {kv:Nat->Value} {Q:Rws},RowsAt u0 c' kv Q->∀j,j<4->j≠i->∀g,(kv j).ownBlock=some g->(kvs ao' cap' R' i).ownBlock≠some g:=fun {kv Q} hQ j hj hji g e e'=>by
  have:=(hQ j hj).2 g e
  have:=(hg10 g e').2
  omega
 have newRow:(u2.setCell ⟨S,i,none⟩ (.slice a ((R' i).length+1) cp)).ownsRow 0 38 8 (.slice a ((R' i).length+1) cp) ((R' i).length+1) (cellsOf (R' i++ [o])):=by
  rw [hcells]
  exact owns_same hown (fun g e=>K3.block g (hown.lt g e).2 (fun e'=>by rw [e'] at e;exact notS e))
 have upI:upR R' i (R' i++ [o]) i=R' i++ [o]:=if_pos rfl
 have upJ:∀j,j≠i->upR R' i (R' i++ [o]) j=R' j:=fun j e=>if_neg e
 refine ⟨fun j=>if j=i then a else ao' j,fun j=>if j=i then cp else cap' j,c'',?_,?_,?_,?_,?_,?_,?_,?_,?_,?_,?_,?_,?_⟩
 ·refine ((h.keeps.then ((Keeps.refl (fun _=>False) u0).alloc ob) (fun _ _ e=>e.elim)).then K2 (fun q hq e=> ?_)).then K3 (fun q hq e=>zi)
  have:=(hg10 q e.symm).2
  have:=h.hue q hq
  omega
 ·intro q hq
  rw [hueOld q (jE hq h.keeps.size)]
  exact h.hue q hq
 ·have hb2:u2.heap[S]? =u0.heap[S]? :=(K2.block S zi (fun e=>gS e.symm)).trans (jp u0 ob S hSl)
  have hset:=heap_setCell_same u2 S i _ _ (.slice a ((R' i).length+1) cp) (hb2.trans h.box)
  unfold KBox
  refine hset.trans ?_
  have h4:i=0\/i=1\/i=2\/i=3:=zi
  rcases h4 with rfl | rfl | rfl | rfl<;>simp [upR]
 ·rw [stay (S+1) hne zi gS1]
  exact h.res
 ·exact ⟨(hueOld S hSl).trans hSS.1,(hueOld _ hne).trans hSS.2.1,hSS.2.2⟩
 ·intro j hj
  by_cases hji:j=i
  ·subst hji
   by_cases hsame:∃g,(kvs ao cap R j).ownBlock=some g/\(kvs ao' cap' R' j).ownBlock=some g
   ·obtain ⟨g,e1,e2⟩:=hsame
    have hq:=h.old j hj
    refine ⟨?_,fun g' e'=>by rw [hueOld g' (hq.1.lt g' e').2];exact hq.2 g' e'⟩
    obtain ⟨tt,ht⟩:=(h.link j hj).1
    have hcap:=(h.link j hj).2 g e1 e2
    rcases hcase with ⟨g',cp',e3,e4⟩ | ⟨e3,hg3⟩
    ·have e5:g'=g:=by rw [e3] at e2;exact Option.some.inj e2
     subst e5
     have e6:a=some ⟨g',0,none⟩/\cp=cp':=⟨(Value.slice.inj e4).1,(Value.slice.inj e4).2.2⟩
     have e7:cap' j=cp':=(Value.slice.inj e3).2.2
     rcases hq.1.2 with ⟨q1,_⟩ | ⟨g2,cap2,cur2,q1,_⟩
     ·rw [q1] at e1;cases e1
     have e8:g2=g':=by rw [q1] at e1;exact Option.some.inj e1
     subst e8
     have e9:cap j=cap2:=(Value.slice.inj q1).2.2
     have hln:(R' j).length+1=(R j).length+(tt++ [o]).length:=by rw [ht];simp;omega
     have hrr:R' j++ [o]=R j++(tt++ [o]):=by rw [ht];simp
     have hvv:Value.slice a ((R' j).length+1) cp= .slice (some ⟨g2,0,none⟩) ((R j).length+(tt++ [o]).length) cap2:=by rw [e6.1,e6.2,<-e7,<-hcap,e9,hln]
     have hnr:=newRow
     generalize u2.setCell ⟨S,j,none⟩ (.slice a ((R' j).length+1) cp)=u3 at hnr |-
     rw [hvv,hrr,hln] at hnr
     rw [q1]
     exact owns_prefix hnr rfl rfl
    refine owns_same hq.1 (fun g' e'=> ?_)
    have hgl:=(hq.1.lt g' e').2
    have K2':=keeps_of_grown hg3
    rw [K3.block g' zi (fun e5=>by have:=hq.2 g' e';rw [e5] at this;omega),K2'.block g' zi (fun e5=>by cases e5)]
    exact jp u0 ob g' hgl
   exact rowStay h.old j hj (fun g e1 e2=>hsame ⟨g,e1,e2⟩)
  exact rowStay h.old j hj (apart h.old j hj hji)
 ·intro j hj
  by_cases hji:j=i
  ·subst hji
   have e1:kvs (fun q=>if q=j then a else ao' q) (fun q=>if q=j then cp else cap' q) (upR R' j (R' j++ [o])) j= .slice a ((R' j).length+1) cp:=by
    unfold kvs
    rw [upI]
    simp
   rw [e1,upI]
   refine ⟨by simpa using newRow,fun g e=>(hc'' g).1 e⟩
  have e1:kvs (fun q=>if q=i then a else ao' q) (fun q=>if q=i then cp else cap' q) (upR R' i (R' i++ [o])) j=kvs ao' cap' R' j:=by
   unfold kvs
   rw [upJ j hji]
   simp [hji]
  rw [e1,upJ j hji]
  exact rowStay h.new j hj (apart h.new j hj hji)
 ·intro j hj
  by_cases hji:j=i
  ·subst hji
   obtain ⟨tt,ht⟩:=(h.link j hj).1
   refine ⟨⟨tt++ [o],by rw [upI,ht];simp⟩,fun g e1 e2=> ?_⟩
   have e3:(Value.slice a ((R' j).length+1) cp).ownBlock=some g:=by
    unfold kvs at e2
    rw [upI] at e2
    simpa using e2
   have hgl:=((h.old j hj).1.lt g e1).2
   simp only [if_true]
   rcases hcase with ⟨g',cp',e4,e5⟩ | ⟨e4,_⟩
   ·have e6:g'=g:=by rw [e5] at e3;exact Option.some.inj e3
    subst e6
    rw [(Value.slice.inj e5).2.2,(h.link j hj).2 g' e1 (by rw [e4];rfl)]
    exact (Value.slice.inj e4).2.2
   rw [e3] at e4
   have:=Option.some.inj e4
   omega
  obtain ⟨tt,ht⟩:=(h.link j hj).1
  refine ⟨⟨tt,by rw [upJ j hji,ht]⟩,fun g e1 e2=> ?_⟩
  simp only [if_neg hji]
  refine (h.link j hj).2 g e1 ?_
  unfold kvs at e2 |-
  rw [upJ j hji] at e2
  simpa [hji] using e2
 ·rcases h.ops with q | ⟨blk,off,e,q⟩
  ·exact .inl q
  refine .inr ⟨blk,off,e,fun j u hj=> ?_⟩
  have hcell:=q j u hj
  have hbl:=jl u0 ⟨blk,off+j,none⟩ hcell
  obtain ⟨f1,f2⟩:=h.fhue _ e
  rw [jr (a:=⟨blk,off+j,none⟩) (stay blk hbl f2 (fun e'=>by have:=(hg10 _ e').2;dsimp only at f1;omega))]
  exact hcell
 ·intro a' e
  obtain ⟨f1,f2⟩:=h.fhue a' e
  refine ⟨?_,f2⟩
  obtain ⟨blk,off,e2,hc2⟩:=h.ops.get hx
  rw [e] at e2
  cases e2
  have hbl:=jl u0 ⟨blk,off+k*8+0,none⟩ (hc2 0 _ rfl)
  rw [hueOld _ hbl]
  exact f1
 ·rw [h.go,jZ hkl,(jh.1 hx).2,withGo,hbt,if_pos hnum]
 ·have:=K3.size
  omega
 intro j hj
 have:=h.len j hj
 by_cases hji:j=i
 ·subst hji
  rw [upI]
  simp
  omega
 rw [upJ j hji]
 omega
def WithOut (ad:Nat->Addr) (w:World) (c:Nat->Nat) (ao:Nat->Option Addr) (cap:Nat->Nat) (R:Rws) (F:List OpX) (e:Ending) (w':World):Prop:=∃c',Keeps (fun k=>10<=c k/\c k<14) w w'/\(∀k,k<w.heap.size->c' k=c k)/\RowsAt w' c' (kvs ao cap R) R/\
 match withGo R true F with
 | none=>e= .returned (.tuple #[.agg #[.slice none 0 0,.slice none 0 0,.slice none 0 0,.slice none 0 0],eV ad 9])
 | some (R',false)=>e= .returned (.tuple #[.agg #[.slice none 0 0,.slice none 0 0,.slice none 0 0,.slice none 0 0],eV ad 3])
 | some (R',true)=>∃ao' cap',e= .returned (.tuple #[kV ao' cap' R',.nilIface])/\RowsAt w' c' (kvs ao' cap' R') R'
theorem with_any (w:World) (c:Nat->Nat) (ao:Nat->Option Addr) (cap:Nat->Nat) (R:Rws) (fa0:Option Addr) (fc0:Nat) (fresh:List OpX) (hE:EnvE B ad w) (hB:∀k,c k≠0->B<=k) (hR:RowsAt w c (kvs ao cap R) R) (hin:OpsIn w fa0 fresh) (hok:∀x∈fresh,errO x=0) (hcw:∀k,w.heap.size<=k->c k=0) (hn:fresh.length<=1000) (hl:∀i,i<4->(R i).length+fresh.length<=1000):
  Calls prog 50 #[kV ao cap R,.slice fa0 fresh.length fc0] w fun e w'=>∃F:List OpX,F.Perm fresh/\F.Pairwise (fun a b=>numO a<=numO b)/\WithOut ad w c ao cap R F e w':=by
 obtain ⟨S,hS⟩:=za w.heap.size
 obtain ⟨U,hU⟩:=za ((w.alloc (.cells #[.slice (ao 0) (R 0).length (cap 0),.slice (ao 1) (R 1).length (cap 1),.slice (ao 2) (R 2).length (cap 2),.slice (ao 3) (R 3).length (cap 3)] 65)).alloc (.cells #[.slice none 0 0,.slice none 0 0,.slice none 0 0,.slice none 0 0] 65))
 have hb:Below w.heap.size w U:=zG
 have hk:KBox U S ao cap R:=zM
 have hr:U.heap[S+1]? =some (.cells #[.slice none 0 0,.slice none 0 0,.slice none 0 0,.slice none 0 0] 65 (0,0)):=by
  rw [hU,hS]
  have:=heap_alloc_new (w.alloc (.cells #[.slice (ao 0) (R 0).length (cap 0),.slice (ao 1) (R 1).length (cap 1),.slice (ao 2) (R 2).length (cap 2),.slice (ao 3) (R 3).length (cap 3)] 65)) (.cells #[.slice none 0 0,.slice none 0 0,.slice none 0 0,.slice none 0 0] 65)
  rw [jI] at this
  exact this
 obtain ⟨V,hV⟩:=za (U.alloc (.cells #[.slice fa0 fresh.length fc0] 32))
 have hbV:Below U.heap.size U V:=by rw [hV];exact zg U _
 have hBs:V.heap[U.heap.size]? =some (.cells #[.slice fa0 fresh.length fc0] 32 (0,0)):=by rw [hV];exact heap_alloc_new U _
 obtain ⟨g,off,hao,hg,hI⟩:∃g off,(fresh= []\/fa0=some ⟨g,off,none⟩)/\g<V.heap.size/\OpsRow V g off fresh:=by
  rcases (hin.later hb).later hbV with h | ⟨g,off,e,h⟩
  ·exact ⟨U.heap.size,0,.inl h,(jk.1 hBs).1,fun j u hj=>by rw [h] at hj;simp [cellsOf] at hj⟩
  by_cases hf:fresh= []
  ·exact ⟨U.heap.size,0,.inl hf,(jk.1 hBs).1,fun j u hj=>by rw [hf] at hj;simp [cellsOf] at hj⟩
  refine ⟨g,off,.inr e,?_,h⟩
  obtain ⟨x,t,rfl⟩:=List.exists_cons_of_ne_nil hf
  exact jl V ⟨g,off+0,none⟩ (h 0 (.int .i64 x.1) rfl)
 have hcall:=sortedNum_any V U.heap.size g off fc0 fa0 fresh hn hao (jk.1 hBs).1 hg (by simp [World.cell?,hBs]) hI
 have H0:Aside (KBox V S ao cap R/\V.heap[S+1]? =some (.cells #[.slice none 0 0,.slice none 0 0,.slice none 0 0,.slice none 0 0] 65 (0,0))/\Below w.heap.size w V/\S=w.heap.size):=⟨hk.later hbV,(hbV.block _ (jk.1 hr).1).trans hr,zh hb hbV,hS⟩
 have HE:Aside (EnvE B ad w/\RowsAt w c (kvs ao cap R) R/\∀k,c k≠0->B<=k):=⟨hE,hR,hB⟩
 have HV:Aside (V=U.alloc (.cells #[.slice fa0 fresh.length fc0] 32)):=hV
 clear hb hk hr hbV hBs hao hg hI hE hR hB hin hV
 unfold kV
 go_enter func50,ntmps50
 go_wp2_with fail
 rw [<-hU,<-hS]
 clear hU hS
 refine (valOps_any _ _ _ _).mono ?_
 rintro e w' ⟨rfl,hw'⟩
 rw [<-HV.o] at hw'
 subst hw'
 go_wp2_with fail
 refine hcall.mono ?_
 clear hcall
 rintro e w1 ⟨fa,fc,F,rfl,hp,hpw,hF,hfa,hb1⟩
 have hFl:F.length=fresh.length:=hp.length_eq
 have H1:Aside (WithSt w S c ao cap R fa F 0 ao cap R true c w1/\F.Perm fresh/\F.Pairwise (fun a b=>numO a<=numO b)):=by
  have hbw:Below w.heap.size w w1:=zh H0.o.2.2.1 hb1
  have hSV:=(jk.1 H0.o.2.1).1
  refine ⟨⟨(keeps_of_below hbw).mono (fun k hk e=>zi),fun _ _=>rfl,H0.o.1.later hb1,(hb1.block _ hSV).trans H0.o.2.1,⟨hcw _ zV,hcw _ zV,H0.o.2.2.2⟩,HE.o.2.1.kept (fun i _=>⟨fun k hk _=>hbw.block k hk,fun _ _=>rfl⟩),HE.o.2.1.kept (fun i _=>⟨fun k hk _=>hbw.block k hk,fun _ _=>rfl⟩),fun i _=>⟨⟨[],zm⟩,fun _ _ _=>rfl⟩,hF,fun a e=>⟨hcw _ (jw H0.o.2.2.1.size (hfa a e)),by have:=hfa a e;have:=(jk.1 H0.o.2.1).1;omega⟩,rfl,jE hSV hb1.size,fun i _=>jj _⟩,hp,hpw⟩
 rw [<-hFl]
 have HN:Aside (F.length=fresh.length):=hFl
 have hokF:∀x∈F,errO x=0:=fun x hx=>hok x (hp.mem_iff.1 hx)
 have hnF:F.length<=1000:=zi
 have hlF:∀i,i<4->(R i).length+F.length<=1000:=fun i hi=>by have:=hl i hi;omega
 clear hp hpw hF hfa hb1 hFl hok hl hn hcw
 go_wp2
 go_loopg [7,16] F.length (fun kx s7 s16 wr=>∃(k:Nat) (ao':Nat->Option Addr) (cap':Nat->Nat) (R':Rws) (z:Bool) (c':Nat->Nat),s16= .int .i64 (k:Int)/\s7= .bool z/\k<=F.length/\F.length - k<=kx/\Aside (WithSt w S c ao cap R fa F k ao' cap' R' z c' wr))
 case atStart=>exact ⟨0,ao,cap,R,true,c,rfl,rfl,js _,jj _,H1.o.1⟩
 case round=>
  obtain ⟨k,ao',cap',R',z,c',rfl,rfl,hkl,hkx,A⟩:=hrel
  by_cases hlt:k<F.length
  ·have d1:decide ((k:Int)<(F.length:Int))=true:=by simp;omega
   have wk:((k:Int)).toNat=k:=zi
   have pk:(0:Int)<=(k:Int):=zi
   have bk:(k:Int)<(F.length:Int):=zi
   obtain ⟨⟨t,b,n,kd,nd,o,s,v⟩,hx⟩:∃x,Aside (F[k]? =some x):=⟨F[k],ji hlt⟩
   have hdrop:Aside (F.drop k=(t,b,n,kd,nd,o,s,v)::F.drop (k+1)):=by
    show F.drop k=_
    rw [jZ hlt,(jh.1 hx.o).2]
   have herr:=hokF _ (jm hx.o)
   obtain ⟨i,hi,hbi,hbt⟩:=by_nat herr
   have hbi:b=(i:Int):=hbi
   subst hbi
   have hnum:1<=n/\n<=400:=⟨(opE_zero herr).2.2.2.2.1,(opE_zero herr).2.2.2.2.2.1⟩
   have wi:((i:Int)).toNat=i:=zi
   have pi:(0:Int)<=(i:Int):=zi
   have bi:(i:Int)<4:=zi
   clear herr
   obtain ⟨blk,off,hao,hc⟩:=A.o.ops.get hx.o
   subst hao
   have r0:=hc 0 _ rfl
   have r1:=hc 1 _ rfl
   have r2:=hc 2 _ rfl
   have r3:=hc 3 _ rfl
   have r4:=hc 4 _ rfl
   have r5:=hc 5 _ rfl
   have r6:=hc 6 _ rfl
   have r7:=hc 7 _ rfl
   simp only [vk] at r0
   clear hc
   obtain ⟨P,hP⟩:=za wr.heap.size
   obtain ⟨U1,hU1⟩:=za (wr.alloc (.cells #[.int .i64 t,.int .i64 (i:Int),.int .i64 n,.int .u8 (kd:Int),.int .i64 nd,.int .i64 o,.string s,.string v] 38))
   have hbU:Below wr.heap.size wr U1:=by rw [hU1];exact zg wr _
   have H2:Aside (WithSt w S c ao cap R (some ⟨blk,off,none⟩) F k ao' cap' R' z c' U1/\OpBlk U1 P (t,(i:Int),n,kd,nd,o,s,v)/\P=wr.heap.size):=⟨A.o.later hbU,by rw [hU1,hP];exact OpBlk.new wr (t,(i:Int),n,kd,nd,o,s,v),hP⟩
   have HU:Aside (U1=wr.alloc (.cells #[.int .i64 t,.int .i64 (i:Int),.int .i64 n,.int .u8 (kd:Int),.int .i64 nd,.int .i64 o,.string s,.string v] 38)/\P=wr.heap.size):=⟨hU1,hP⟩
   have hlen:(R' i).length<=1000:=by
    have:=hlF i hi
    have:=A.o.len i hi
    omega
   clear hbU hU1 hP
   go_upto_region 6 with fail
   rw [<-HU.o.1,<-HU.o.2]
   clear r0 r1 r2 r3 r4 r5 r6 r7
   obtain ⟨y0,y1,y2,y3,y4,y5,y6,y7,f8⟩:=H2.o.2.1.cells
   dsimp only at y0 y1 y2 y3 y4 y5 y6 y7
   have kb:=H2.o.1.box.at hi
   obtain ⟨ln,hln⟩:=za ((R' i).length)
   rw [<-hln] at kb hlen
   have HL0:Aside (ln=(R' i).length):=hln
   clear hln
   by_cases hnn:n=(ln:Int)+1
   ·have dn:(n !=(ln:Int)+1)=false:=by simp [hnn]
    have HNN:Aside (n=(ln:Int)+1):=hnn
    clear hnn
    go_wp2_with fail
    cases hlast:(R' i).getLast? with
    | none=>
     have h0:R' i= []:=List.getLast?_eq_none_iff.1 hlast
     have HR:Aside (riseB (R' i) (t,(i:Int),n,kd,nd,o,s,v)=true):=by
      show riseB _ _=true
      unfold riseB;rw [hlast]
     obtain rfl:ln=0:=by rw [HL0.o,h0];rfl
     have HLN:Aside ((R' i).length=0):=HL0.o.symm
     have HP:Aside (P=wr.heap.size):=HU.o.2
     clear hlast h0
     refine wp_region_quiet_grown zj zj ?_
     repeat (go_big_quiet_step (fail))
     refine wpQuiet_nil ?_
     intro _ hw'
     obtain ⟨⟨nq,osq⟩,hw''⟩:=hw'
     change _=grow (U1.drewN nq) osq at hw''
     subst hw''
     have H3:Aside (WithSt w S c ao cap R (some ⟨blk,off,none⟩) F k ao' cap' R' z c' (grow (U1.drewN nq) osq)/\OpBlk (grow (U1.drewN nq) osq) P (t,(i:Int),n,kd,nd,o,s,v)):=⟨H2.o.1.later (below_grows ⟨nq,osq,rfl⟩),H2.o.2.1.later (below_grows ⟨nq,osq,rfl⟩)⟩
     generalize grow (U1.drewN nq) osq=u0 at H3 |-
     clear H2 y0 y1 y2 y3 y4 y5 y6 y7 f8 kb
     obtain ⟨y0,y1,y2,y3,y4,y5,y6,y7,f8⟩:=H3.o.2.cells
     dsimp only at y0 y1 y2 y3 y4 y5 y6 y7
     have hPl:=H3.o.2.lt
     have kb:=H3.o.1.box.at hi
     rw [HLN.o] at kb
     have kf:=H3.o.1.box.fz i
     have hSl:=H3.o.1.box.lt
     obtain ⟨i0,hi0,hz0,hz1,hz2⟩:=info_parts infoOp
     obtain ⟨v',u2,hrun,hown,hgrow,hcase⟩:=append_in (P:=prog) (u0.alloc (.cells #[.int .i64 t,.int .i64 (i:Int),.int .i64 n,.int .u8 (kd:Int),.int .i64 nd,.int .i64 o,.string s,.string v] 38)).drew 0 32 32 38 i0 _ 8 80 underlying32 hi0 hz0 hz1 hz2 rfl zi (.slice (ao' i) (0) (cap' i)) (0) (cellsOf (R' i)) (by have:=(H3.o.1.new i hi).1.alloc (.cells #[.int .i64 t,.int .i64 (i:Int),.int .i64 n,.int .u8 (kd:Int),.int .i64 nd,.int .i64 o,.string s,.string v] 38);unfold kvs at this;rw [HLN.o] at this;exact this) ⟨u0.heap.size,0,none⟩ 1 1 zi (encX (t,(i:Int),n,kd,nd,o,s,v)) rfl (lit_cellsO u0 (t,(i:Int),n,kd,nd,o,s,v) _) (encX_one _) zD zi (js _)
     obtain ⟨va,vc,rfl⟩:=rowIs hown
     have hgrow:(u0.alloc (.cells #[.int .i64 t,.int .i64 (i:Int),.int .i64 n,.int .u8 (kd:Int),.int .i64 nd,.int .i64 o,.string s,.string v] 38)).grownBy u2 (Value.slice (ao' i) (0) (cap' i)).ownBlock:=⟨hgrow.os,hgrow.tape,hgrow.output,hgrow.size,hgrow.block⟩
     have hgP:∀g,(kvs ao' cap' R' i).ownBlock=some g->g<P/\g≠S:=fun g hg=>⟨yu,fun e=>ym⟩
     have K2:=keeps_of_grown hgrow
     have hOwn:(Value.slice (ao' i) (0) (cap' i)).ownBlock=(kvs ao' cap' R' i).ownBlock:=by unfold kvs;rw [HLN.o]
     have kbU:∀o,(u0.alloc o).cell? ⟨S,i,none⟩=some (.slice (ao' i) (0) (cap' i)):=fun o=>(jr (a:=⟨S,i,none⟩) (jp u0 o S hSl)).trans kb
     have hs2:=K2.size
     have hSP:S<P:=qz
     have bS:u2.heap[S]? =u0.heap[S]? :=(K2.block S zk (fun e=>yN)).trans (jp u0 _ S hSl)
     have bP:u2.heap[P]? =u0.heap[P]? :=(K2.block P zk (fun e=>yI)).trans (jp u0 _ P hPl)
     have kb2:u2.cell? ⟨S,i,none⟩=some (.slice (ao' i) (0) (cap' i)):=(jr (a:=⟨S,i,none⟩) bS).trans kb
     have kf2:u2.frozen? ⟨S,i,none⟩=false:=(uE (a:=⟨S,i,none⟩) bS).trans kf
     have PU:OpBlk (u0.alloc (.cells #[.int .i64 t,.int .i64 (i:Int),.int .i64 n,.int .u8 (kd:Int),.int .i64 nd,.int .i64 o,.string s,.string v] 38)) P (t,(i:Int),n,kd,nd,o,s,v):=(jp u0 _ P hPl).trans H3.o.2
     have P2:OpBlk u2 P (t,(i:Int),n,kd,nd,o,s,v):=bP.trans H3.o.2
     have HNX:Aside (∃ao'' cap'' c'',WithSt w S c ao cap R (some ⟨blk,off,none⟩) F (k+1) ao'' cap'' (upR R' i (R' i++ [(t,(i:Int),n,kd,nd,o,s,v)])) (z &&riseB (R' i) (t,(i:Int),n,kd,nd,o,s,v)) c'' (u2.setCell ⟨S,i,none⟩ (.slice va ((0)+1) vc))):=by
      refine H3.o.1.next hi hbt hx.o qR (ob:=.cells #[.int .i64 t,.int .i64 (i:Int),.int .i64 n,.int .u8 (kd:Int),.int .i64 nd,.int .i64 o,.string s,.string v] 38) xg qZ ?_
      rcases hcase with ⟨g,cp,e1,e2⟩ | e
      ·exact .inl ⟨g,cp,by unfold kvs;rw [HLN.o];exact e1,xI⟩
      exact .inr ⟨e.1,⟨e.2.os,e.2.tape,e.2.output,e.2.size,e.2.block⟩⟩
     clear hown hgrow hcase K2 hOwn bS bP hgP hs2
     go_wp2_with fail
     refine wp_region_Z (S:=(fun w'=>OpBlk w' P (t,(i:Int),n,kd,nd,o,s,v))) (z:=8) zj H3.o.2 (fun hHeld=> ?_)
     refine wpAnyZ_free (i:=0) (v:= ?va0) zo rfl zj zj zj (fun _ _ _ h=>h) (Or.inl ⟨zu,?hy0⟩) hHeld ?rest0
     case hy0=>(intro w' _;go_simp;try with_reducible rfl)
     simp only [Act.put,jq,jx,jy]
     refine wpAnyZ_free (i:=1) (v:= ?va1) zo rfl zj zj zj (fun _ _ _ h=>h) (Or.inl ⟨zu,?hy1⟩) hHeld ?rest1
     case hy1=>(intro w' _;go_simp;try with_reducible rfl)
     simp only [Act.put,jq,jx,jy]
     refine wpAnyZ_take (i:=2) (v:= ?va2) zo zj rfl zj zj zj zj (fun _ _ _ h=>h) (Or.inl ⟨zu,?hy2⟩) hHeld ?rest2
     case hy2=>(intro w' hSw;obtain ⟨j0,j1,j2,j3,j4,j5,j6,j7,-⟩:=hSw.cells;dsimp only at j0 j1 j2 j3 j4 j5 j6 j7;go_simp;try with_reducible rfl)
     simp only [Act.put,jq,jx,jy]
     refine wpAnyZ_free (i:=3) (v:= ?va3) zo rfl zj zj zj (fun _ _ _ h=>h) (Or.inl ⟨zu,?hy3⟩) hHeld ?rest3
     case hy3=>(intro w' _;go_simp;try with_reducible rfl)
     simp only [Act.put,jq,jx,jy]
     refine wpAnyZ_take (i:=4) (v:= ?va4) zo zj rfl zj zj zj zj (fun _ _ _ h=>h) (Or.inl ⟨zu,?hy4⟩) hHeld ?rest4
     case hy4=>(intro w' hSw;obtain ⟨j0,j1,j2,j3,j4,j5,j6,j7,-⟩:=hSw.cells;dsimp only at j0 j1 j2 j3 j4 j5 j6 j7;go_simp;try with_reducible rfl)
     simp only [Act.put,jq,jx,jy]
     refine wpAnyZ_one (i:=5) zj rfl (fun K hK=> ?_)
     go_simp
     refine hK _ _ (.inl PU) ?_
     clear hK K hHeld
     refine wpAnyZ_one (i:=6) zj rfl (fun K hK=> ?_)
     rw [if_pos zu]
     simp only [vv,vT,vV]
     refine Lib.wp_append_run _ _ _ _ _ rfl (.slice (ao' i) (0) (cap' i)) (.slice (some ⟨u0.heap.size,0,none⟩) 1 1) ?ahs ?ahx _ u2 hrun ?_
     case ahs=>rfl
     case ahx=>rfl
     refine hK _ _ (.inl P2) ?_
     clear hK K
     refine qn ?_
     refine wpAnyZ_free (i:=7) (v:= ?va7) zo rfl zj zj zj (fun _ _ _ h=>h) (Or.inl ⟨zu,?hy7⟩) P2 ?rest7
     case hy7=>(intro w' _;go_simp;try with_reducible rfl)
     refine qn ?_
     refine wpAnyZ_one (i:=8) zj rfl (fun K hK=> ?_)
     go_simp
     refine hK _ _ (.inr ⟨rfl,zo⟩) ?_
     clear hK K
     refine wpAnyZ_done zj ?_ _
     obtain ⟨ao'',cap'',c'',HW⟩:=HNX.o
     go_wp2
     go_roundg (F.length - (k+1))
     case measure=>omega
     case rel=>exact ⟨k+1,ao'',cap'',_,_,c'',zw,by rw [HR.o];simp,zi,jj _,HW⟩
    | some y=>
     obtain ⟨t',b',n',kd',nd',oo',s',v2⟩:=y
     have hy:(R' i)[(R' i).length - 1]? =some (t',b',n',kd',nd',oo',s',v2):=by rw [<-List.getLast?_eq_getElem?];exact hlast
     have hyl:=(jh.1 hy).1
     obtain ⟨m,rfl⟩:∃m,ln=m+1:=⟨ln - 1,by have:=HL0.o;omega⟩
     have HLN:Aside ((R' i).length=m+1):=HL0.o.symm
     have em:(R' i).length - 1=m:=by have:=HL0.o;omega
     rw [em] at hy
     have HP:Aside (P=wr.heap.size):=HU.o.2
     obtain ⟨g2,o2,hao2,hc2⟩:=((KnownAt.of_rows H2.o.1.new) i hi).get hy
     have q0':U1.cell? ⟨g2,o2+m*8,none⟩=some (.int .i64 t'):=hc2 0 _ rfl
     have q0:=cell_grownQ q0'
     have q1':U1.cell? ⟨g2,o2+m*8+1,none⟩=some (.int .i64 b'):=hc2 1 _ rfl
     have q1:=cell_grownQ q1'
     have p0:=cell_grownQ y0
     have p1:=cell_grownQ y1
     have HAO:Aside (ao' i=some ⟨g2,o2,none⟩):=hao2
     have HB2:Aside (riseB (R' i) (t,(i:Int),n,kd,nd,o,s,v)=lessB t' b' t (i:Int)):=by
      show riseB _ _=_
      unfold riseB
      rw [hlast]
      exact (lessB_clt (t',b') (t,(i:Int))).symm
     have e1:(((m+1:Nat):Int) - 1)=(m:Int):=zi
     have e2:((m:Int)).toNat=m:=zi
     have e3:(0:Int)<=(m:Int):=zi
     have e4:(m:Int)<((m+1:Nat):Int):=zi
     have d5:decide ((0:Int)<((m+1:Nat):Int))=true:=zm
     rw [hao2]
     clear hlast hy hyl em hc2 hao2 q0' q1'
     cases hzz:lessB t' b' t (i:Int) with
     | true=>
      have HZ:Aside (lessB t' b' t (i:Int)=true):=hzz
      have HR:Aside (riseB (R' i) (t,(i:Int),n,kd,nd,o,s,v)=true):=HB2.o.trans hzz
      clear hzz
      refine wp_region_quiet_grown zj zj ?_
      repeat (go_big_quiet_step (first | (go_at_call 115;refine Calls.grown_of (less_is _ _ _ _ true _ HZ.o))))
      refine wpQuiet_nil ?_
      intro _ hw'
      obtain ⟨⟨nq,osq⟩,hw''⟩:=hw'
      change _=grow (U1.drewN nq) osq at hw''
      subst hw''
      have H3:Aside (WithSt w S c ao cap R (some ⟨blk,off,none⟩) F k ao' cap' R' z c' (grow (U1.drewN nq) osq)/\OpBlk (grow (U1.drewN nq) osq) P (t,(i:Int),n,kd,nd,o,s,v)):=⟨H2.o.1.later (below_grows ⟨nq,osq,rfl⟩),H2.o.2.1.later (below_grows ⟨nq,osq,rfl⟩)⟩
      generalize grow (U1.drewN nq) osq=u0 at H3 |-
      clear H2 q0 q1 p0 p1 y0 y1 y2 y3 y4 y5 y6 y7 f8 kb
      obtain ⟨y0,y1,y2,y3,y4,y5,y6,y7,f8⟩:=H3.o.2.cells
      dsimp only at y0 y1 y2 y3 y4 y5 y6 y7
      have hPl:=H3.o.2.lt
      have kb:=H3.o.1.box.at hi
      rw [HLN.o,HAO.o] at kb
      have kf:=H3.o.1.box.fz i
      have hSl:=H3.o.1.box.lt
      obtain ⟨i0,hi0,hz0,hz1,hz2⟩:=info_parts infoOp
      obtain ⟨v',u2,hrun,hown,hgrow,hcase⟩:=append_in (P:=prog) (u0.alloc (.cells #[.int .i64 t,.int .i64 (i:Int),.int .i64 n,.int .u8 (kd:Int),.int .i64 nd,.int .i64 o,.string s,.string v] 38)).drew 0 32 32 38 i0 _ 8 80 underlying32 hi0 hz0 hz1 hz2 rfl zi (.slice (some ⟨g2,o2,none⟩) (m+1) (cap' i)) (m+1) (cellsOf (R' i)) zP ⟨u0.heap.size,0,none⟩ 1 1 zi (encX (t,(i:Int),n,kd,nd,o,s,v)) rfl (lit_cellsO u0 (t,(i:Int),n,kd,nd,o,s,v) _) (encX_one _) zD zi (js _)
      obtain ⟨va,vc,rfl⟩:=rowIs hown
      have hgrow:(u0.alloc (.cells #[.int .i64 t,.int .i64 (i:Int),.int .i64 n,.int .u8 (kd:Int),.int .i64 nd,.int .i64 o,.string s,.string v] 38)).grownBy u2 (Value.slice (some ⟨g2,o2,none⟩) (m+1) (cap' i)).ownBlock:=⟨hgrow.os,hgrow.tape,hgrow.output,hgrow.size,hgrow.block⟩
      have hgP:∀g,(kvs ao' cap' R' i).ownBlock=some g->g<P/\g≠S:=fun g hg=>⟨yu,fun e=>ym⟩
      have K2:=keeps_of_grown hgrow
      have hOwn:(Value.slice (some ⟨g2,o2,none⟩) (m+1) (cap' i)).ownBlock=(kvs ao' cap' R' i).ownBlock:=by unfold kvs;rw [HLN.o,HAO.o]
      have kbU:∀o,(u0.alloc o).cell? ⟨S,i,none⟩=some (.slice (some ⟨g2,o2,none⟩) (m+1) (cap' i)):=fun o=>(jr (a:=⟨S,i,none⟩) (jp u0 o S hSl)).trans kb
      have hs2:=K2.size
      have hSP:S<P:=qz
      have bS:u2.heap[S]? =u0.heap[S]? :=(K2.block S zk (fun e=>yN)).trans (jp u0 _ S hSl)
      have bP:u2.heap[P]? =u0.heap[P]? :=(K2.block P zk (fun e=>yI)).trans (jp u0 _ P hPl)
      have kb2:u2.cell? ⟨S,i,none⟩=some (.slice (some ⟨g2,o2,none⟩) (m+1) (cap' i)):=(jr (a:=⟨S,i,none⟩) bS).trans kb
      have kf2:u2.frozen? ⟨S,i,none⟩=false:=(uE (a:=⟨S,i,none⟩) bS).trans kf
      have PU:OpBlk (u0.alloc (.cells #[.int .i64 t,.int .i64 (i:Int),.int .i64 n,.int .u8 (kd:Int),.int .i64 nd,.int .i64 o,.string s,.string v] 38)) P (t,(i:Int),n,kd,nd,o,s,v):=(jp u0 _ P hPl).trans H3.o.2
      have P2:OpBlk u2 P (t,(i:Int),n,kd,nd,o,s,v):=bP.trans H3.o.2
      have HNX:Aside (∃ao'' cap'' c'',WithSt w S c ao cap R (some ⟨blk,off,none⟩) F (k+1) ao'' cap'' (upR R' i (R' i++ [(t,(i:Int),n,kd,nd,o,s,v)])) (z &&riseB (R' i) (t,(i:Int),n,kd,nd,o,s,v)) c'' (u2.setCell ⟨S,i,none⟩ (.slice va ((m+1)+1) vc))):=by
       refine H3.o.1.next hi hbt hx.o qR (ob:=.cells #[.int .i64 t,.int .i64 (i:Int),.int .i64 n,.int .u8 (kd:Int),.int .i64 nd,.int .i64 o,.string s,.string v] 38) xg qZ ?_
       rcases hcase with ⟨g,cp,e1,e2⟩ | e
       ·exact .inl ⟨g,cp,by unfold kvs;rw [HLN.o,HAO.o];exact e1,xI⟩
       exact .inr ⟨e.1,⟨e.2.os,e.2.tape,e.2.output,e.2.size,e.2.block⟩⟩
      clear hown hgrow hcase K2 hOwn bS bP hgP hs2
      go_wp2_with fail
      refine wp_region_Z (S:=(fun w'=>OpBlk w' P (t,(i:Int),n,kd,nd,o,s,v))) (z:=8) zj H3.o.2 (fun hHeld=> ?_)
      refine wpAnyZ_free (i:=0) (v:= ?vaT0) zo rfl zj zj zj (fun _ _ _ h=>h) (Or.inl ⟨zu,?hyT0⟩) hHeld ?restT0
      case hyT0=>(intro w' _;go_simp;try with_reducible rfl)
      simp only [Act.put,jq,jx,jy]
      refine wpAnyZ_free (i:=1) (v:= ?vaT1) zo rfl zj zj zj (fun _ _ _ h=>h) (Or.inl ⟨zu,?hyT1⟩) hHeld ?restT1
      case hyT1=>(intro w' _;go_simp;try with_reducible rfl)
      simp only [Act.put,jq,jx,jy]
      refine wpAnyZ_take (i:=2) (v:= ?vaT2) zo zj rfl zj zj zj zj (fun _ _ _ h=>h) (Or.inl ⟨zu,?hyT2⟩) hHeld ?restT2
      case hyT2=>(intro w' hSw;obtain ⟨j0,j1,j2,j3,j4,j5,j6,j7,-⟩:=hSw.cells;dsimp only at j0 j1 j2 j3 j4 j5 j6 j7;go_simp;try with_reducible rfl)
      simp only [Act.put,jq,jx,jy]
      refine wpAnyZ_free (i:=3) (v:= ?vaT3) zo rfl zj zj zj (fun _ _ _ h=>h) (Or.inl ⟨zu,?hyT3⟩) hHeld ?restT3
      case hyT3=>(intro w' _;go_simp;try with_reducible rfl)
      simp only [Act.put,jq,jx,jy]
      refine wpAnyZ_take (i:=4) (v:= ?vaT4) zo zj rfl zj zj zj zj (fun _ _ _ h=>h) (Or.inl ⟨zu,?hyT4⟩) hHeld ?restT4
      case hyT4=>(intro w' hSw;obtain ⟨j0,j1,j2,j3,j4,j5,j6,j7,-⟩:=hSw.cells;dsimp only at j0 j1 j2 j3 j4 j5 j6 j7;go_simp;try with_reducible rfl)
      simp only [Act.put,jq,jx,jy]
      refine wpAnyZ_one (i:=5) zj rfl (fun K hK=> ?_)
      go_simp
      refine hK _ _ (.inl PU) ?_
      clear hK K hHeld
      refine wpAnyZ_one (i:=6) zj rfl (fun K hK=> ?_)
      rw [if_pos zu]
      simp only [vv,vT,vV]
      refine Lib.wp_append_run _ _ _ _ _ rfl (.slice (some ⟨g2,o2,none⟩) (m+1) (cap' i)) (.slice (some ⟨u0.heap.size,0,none⟩) 1 1) ?ahsT ?ahxT _ u2 hrun ?_
      case ahsT=>rfl
      case ahxT=>rfl
      refine hK _ _ (.inl P2) ?_
      clear hK K
      refine qn ?_
      refine wpAnyZ_free (i:=7) (v:= ?vaT7) zo rfl zj zj zj (fun _ _ _ h=>h) (Or.inl ⟨zu,?hyT7⟩) P2 ?restT7
      case hyT7=>(intro w' _;go_simp;try with_reducible rfl)
      refine qn ?_
      refine wpAnyZ_one (i:=8) zj rfl (fun K hK=> ?_)
      go_simp
      refine hK _ _ (.inr ⟨rfl,zo⟩) ?_
      clear hK K
      refine wpAnyZ_done zj ?_ _
      obtain ⟨ao'',cap'',c'',HW⟩:=HNX.o
      go_wp2
      go_roundg (F.length - (k+1))
      case measure=>omega
      case rel=>exact ⟨k+1,ao'',cap'',_,_,c'',zw,by rw [HR.o];simp,zi,jj _,HW⟩
     | false=>
      have HZ:Aside (lessB t' b' t (i:Int)=false):=hzz
      have HR:Aside (riseB (R' i) (t,(i:Int),n,kd,nd,o,s,v)=false):=HB2.o.trans hzz
      clear hzz
      refine wp_region_quiet_grown zj zj ?_
      repeat (go_big_quiet_step (first | (go_at_call 115;refine Calls.grown_of (less_is _ _ _ _ false _ HZ.o))))
      refine wpQuiet_nil ?_
      intro _ hw'
      obtain ⟨⟨nq,osq⟩,hw''⟩:=hw'
      change _=grow (U1.drewN nq) osq at hw''
      subst hw''
      have H3:Aside (WithSt w S c ao cap R (some ⟨blk,off,none⟩) F k ao' cap' R' z c' (grow (U1.drewN nq) osq)/\OpBlk (grow (U1.drewN nq) osq) P (t,(i:Int),n,kd,nd,o,s,v)):=⟨H2.o.1.later (below_grows ⟨nq,osq,rfl⟩),H2.o.2.1.later (below_grows ⟨nq,osq,rfl⟩)⟩
      generalize grow (U1.drewN nq) osq=u0 at H3 |-
      clear H2 q0 q1 p0 p1 y0 y1 y2 y3 y4 y5 y6 y7 f8 kb
      obtain ⟨y0,y1,y2,y3,y4,y5,y6,y7,f8⟩:=H3.o.2.cells
      dsimp only at y0 y1 y2 y3 y4 y5 y6 y7
      have hPl:=H3.o.2.lt
      have kb:=H3.o.1.box.at hi
      rw [HLN.o,HAO.o] at kb
      have kf:=H3.o.1.box.fz i
      have hSl:=H3.o.1.box.lt
      obtain ⟨i0,hi0,hz0,hz1,hz2⟩:=info_parts infoOp
      obtain ⟨v',u2,hrun,hown,hgrow,hcase⟩:=append_in (P:=prog) (u0.alloc (.cells #[.int .i64 t,.int .i64 (i:Int),.int .i64 n,.int .u8 (kd:Int),.int .i64 nd,.int .i64 o,.string s,.string v] 38)).drew 0 32 32 38 i0 _ 8 80 underlying32 hi0 hz0 hz1 hz2 rfl zi (.slice (some ⟨g2,o2,none⟩) (m+1) (cap' i)) (m+1) (cellsOf (R' i)) zP ⟨u0.heap.size,0,none⟩ 1 1 zi (encX (t,(i:Int),n,kd,nd,o,s,v)) rfl (lit_cellsO u0 (t,(i:Int),n,kd,nd,o,s,v) _) (encX_one _) zD zi (js _)
      obtain ⟨va,vc,rfl⟩:=rowIs hown
      have hgrow:(u0.alloc (.cells #[.int .i64 t,.int .i64 (i:Int),.int .i64 n,.int .u8 (kd:Int),.int .i64 nd,.int .i64 o,.string s,.string v] 38)).grownBy u2 (Value.slice (some ⟨g2,o2,none⟩) (m+1) (cap' i)).ownBlock:=⟨hgrow.os,hgrow.tape,hgrow.output,hgrow.size,hgrow.block⟩
      have hgP:∀g,(kvs ao' cap' R' i).ownBlock=some g->g<P/\g≠S:=fun g hg=>⟨yu,fun e=>ym⟩
      have K2:=keeps_of_grown hgrow
      have hOwn:(Value.slice (some ⟨g2,o2,none⟩) (m+1) (cap' i)).ownBlock=(kvs ao' cap' R' i).ownBlock:=by unfold kvs;rw [HLN.o,HAO.o]
      have kbU:∀o,(u0.alloc o).cell? ⟨S,i,none⟩=some (.slice (some ⟨g2,o2,none⟩) (m+1) (cap' i)):=fun o=>(jr (a:=⟨S,i,none⟩) (jp u0 o S hSl)).trans kb
      have hs2:=K2.size
      have hSP:S<P:=qz
      have bS:u2.heap[S]? =u0.heap[S]? :=(K2.block S zk (fun e=>yN)).trans (jp u0 _ S hSl)
      have bP:u2.heap[P]? =u0.heap[P]? :=(K2.block P zk (fun e=>yI)).trans (jp u0 _ P hPl)
      have kb2:u2.cell? ⟨S,i,none⟩=some (.slice (some ⟨g2,o2,none⟩) (m+1) (cap' i)):=(jr (a:=⟨S,i,none⟩) bS).trans kb
      have kf2:u2.frozen? ⟨S,i,none⟩=false:=(uE (a:=⟨S,i,none⟩) bS).trans kf
      have PU:OpBlk (u0.alloc (.cells #[.int .i64 t,.int .i64 (i:Int),.int .i64 n,.int .u8 (kd:Int),.int .i64 nd,.int .i64 o,.string s,.string v] 38)) P (t,(i:Int),n,kd,nd,o,s,v):=(jp u0 _ P hPl).trans H3.o.2
      have P2:OpBlk u2 P (t,(i:Int),n,kd,nd,o,s,v):=bP.trans H3.o.2
      have HNX:Aside (∃ao'' cap'' c'',WithSt w S c ao cap R (some ⟨blk,off,none⟩) F (k+1) ao'' cap'' (upR R' i (R' i++ [(t,(i:Int),n,kd,nd,o,s,v)])) (z &&riseB (R' i) (t,(i:Int),n,kd,nd,o,s,v)) c'' (u2.setCell ⟨S,i,none⟩ (.slice va ((m+1)+1) vc))):=by
       refine H3.o.1.next hi hbt hx.o qR (ob:=.cells #[.int .i64 t,.int .i64 (i:Int),.int .i64 n,.int .u8 (kd:Int),.int .i64 nd,.int .i64 o,.string s,.string v] 38) xg qZ ?_
       rcases hcase with ⟨g,cp,e1,e2⟩ | e
       ·exact .inl ⟨g,cp,by unfold kvs;rw [HLN.o,HAO.o];exact e1,xI⟩
       exact .inr ⟨e.1,⟨e.2.os,e.2.tape,e.2.output,e.2.size,e.2.block⟩⟩
      clear hown hgrow hcase K2 hOwn bS bP hgP hs2
      go_wp2_with fail
      refine wp_region_Z (S:=(fun w'=>OpBlk w' P (t,(i:Int),n,kd,nd,o,s,v))) (z:=8) zj H3.o.2 (fun hHeld=> ?_)
      refine wpAnyZ_free (i:=0) (v:= ?vaF0) zo rfl zj zj zj (fun _ _ _ h=>h) (Or.inl ⟨zu,?hyF0⟩) hHeld ?restF0
      case hyF0=>(intro w' _;go_simp;try with_reducible rfl)
      simp only [Act.put,jq,jx,jy]
      refine wpAnyZ_free (i:=1) (v:= ?vaF1) zo rfl zj zj zj (fun _ _ _ h=>h) (Or.inl ⟨zu,?hyF1⟩) hHeld ?restF1
      case hyF1=>(intro w' _;go_simp;try with_reducible rfl)
      simp only [Act.put,jq,jx,jy]
      refine wpAnyZ_take (i:=2) (v:= ?vaF2) zo zj rfl zj zj zj zj (fun _ _ _ h=>h) (Or.inl ⟨zu,?hyF2⟩) hHeld ?restF2
      case hyF2=>(intro w' hSw;obtain ⟨j0,j1,j2,j3,j4,j5,j6,j7,-⟩:=hSw.cells;dsimp only at j0 j1 j2 j3 j4 j5 j6 j7;go_simp;try with_reducible rfl)
      simp only [Act.put,jq,jx,jy]
      refine wpAnyZ_free (i:=3) (v:= ?vaF3) zo rfl zj zj zj (fun _ _ _ h=>h) (Or.inl ⟨zu,?hyF3⟩) hHeld ?restF3
      case hyF3=>(intro w' _;go_simp;try with_reducible rfl)
      simp only [Act.put,jq,jx,jy]
      refine wpAnyZ_take (i:=4) (v:= ?vaF4) zo zj rfl zj zj zj zj (fun _ _ _ h=>h) (Or.inl ⟨zu,?hyF4⟩) hHeld ?restF4
      case hyF4=>(intro w' hSw;obtain ⟨j0,j1,j2,j3,j4,j5,j6,j7,-⟩:=hSw.cells;dsimp only at j0 j1 j2 j3 j4 j5 j6 j7;go_simp;try with_reducible rfl)
      simp only [Act.put,jq,jx,jy]
      refine wpAnyZ_one (i:=5) zj rfl (fun K hK=> ?_)
      go_simp
      refine hK _ _ (.inl PU) ?_
      clear hK K hHeld
      refine wpAnyZ_one (i:=6) zj rfl (fun K hK=> ?_)
      rw [if_pos zu]
      simp only [vv,vT,vV]
      refine Lib.wp_append_run _ _ _ _ _ rfl (.slice (some ⟨g2,o2,none⟩) (m+1) (cap' i)) (.slice (some ⟨u0.heap.size,0,none⟩) 1 1) ?ahsF ?ahxF _ u2 hrun ?_
      case ahsF=>rfl
      case ahxF=>rfl
      refine hK _ _ (.inl P2) ?_
      clear hK K
      refine qn ?_
      refine wpAnyZ_free (i:=7) (v:= ?vaF7) zo rfl zj zj zj (fun _ _ _ h=>h) (Or.inl ⟨zu,?hyF7⟩) P2 ?restF7
      case hyF7=>(intro w' _;go_simp;try with_reducible rfl)
      refine qn ?_
      refine wpAnyZ_one (i:=8) zj rfl (fun K hK=> ?_)
      go_simp
      refine hK _ _ (.inr ⟨rfl,zo⟩) ?_
      clear hK K
      refine wpAnyZ_done zj ?_ _
      obtain ⟨ao'',cap'',c'',HW⟩:=HNX.o
      go_wp2
      go_roundg (F.length - (k+1))
      case measure=>omega
      case rel=>exact ⟨k+1,ao'',cap'',_,_,c'',zw,by rw [HR.o];simp,zi,jj _,HW⟩
   have e0:=HL0.o
   clear HL0
   subst e0
   have dn:(n !=((R' i).length:Int)+1)=true:=by simp [hnn]
   have HNN:=Lib.hid hnn
   clear hnn
   have eg:U1.cell? ⟨8,0,none⟩=some (.iface 399 (.pointer (some (ad 8)))):=(WithSt.env H2.o.1 HE.o.1 HE.o.2.2).c8
   have hlow:=HE.o.1.low
   have hsB:=HE.o.1.size
   have hSw:=A.o.hS.2.2
   have n1:8≠S+1:=zi
   have n2:S+1≠8:=zi
   have HSw:=Lib.hid hSw
   clear hSw hlow hsB
   obtain ⟨z0,z1,z2,z3,zf⟩:U1.cell? ⟨S+1,0,none⟩=some (.slice none 0 0)/\U1.cell? ⟨S+1,1,none⟩=some (.slice none 0 0)/\U1.cell? ⟨S+1,2,none⟩=some (.slice none 0 0)/\U1.cell? ⟨S+1,3,none⟩=some (.slice none 0 0)/\∀c,U1.frozen? ⟨S+1,c,none⟩=false:=by
    have:=H2.o.1.res
    refine ⟨?_,?_,?_,?_,fun c=> ?_⟩<;>simp [World.cell?,World.frozen?,this]
   go_wp2_with fail
   go_region
   all_goals
    go_wp2
    (try simp only [Exit.inBlock,Exit.then])
    refine bodyPost_ret (v:=.tuple #[.agg #[.slice none 0 0,.slice none 0 0,.slice none 0 0,.slice none 0 0],eV ad 9]) ?_ rfl ⟨F,H1.o.2.1,H1.o.2.2,?_⟩
    ·rw [results_ct rfl]
     unfold eV
     go_simp
    have hk8:Keeps (fun k=>k=S+1) U1 (U1.setCells (S+1) 0 [.slice none 0 0,.slice none 0 0,.slice none 0 0,.slice none 0 0]):=setCells_keeps (S+1) _ 0 U1
    refine ⟨c',?_,A.o.hue,?_,?_⟩
    ·exact H2.o.1.keeps.then hk8.drew (fun j hj e=>je)
    ·exact H2.o.1.old.kept (fun j hj=>⟨fun q hq hcq=>hk8.block q hq (fun e=>yG),fun _ _=>rfl⟩)
    rw [A.o.go,hdrop.o,withGo,hbt,if_neg HNN.o]
  have d1:decide ((k:Int)<(F.length:Int))=false:=zk
  have hgo:Aside (withGo R true F=some (R',z)):=by
   have:=A.o.go
   rw [vR zi,withGo] at this
   exact this
  obtain ⟨z0,z1,z2,z3,zf⟩:wr.cell? ⟨S+1,0,none⟩=some (.slice none 0 0)/\wr.cell? ⟨S+1,1,none⟩=some (.slice none 0 0)/\wr.cell? ⟨S+1,2,none⟩=some (.slice none 0 0)/\wr.cell? ⟨S+1,3,none⟩=some (.slice none 0 0)/\∀c,wr.frozen? ⟨S+1,c,none⟩=false:=by
   have:=A.o.res
   refine ⟨?_,?_,?_,?_,fun c=> ?_⟩<;>simp [World.cell?,World.frozen?,this]
  have hlow:=HE.o.1.low
  have hsB:=HE.o.1.size
  have hSw:=A.o.hS.2.2
  cases z with
  | false=>
   have eg:wr.cell? ⟨4,0,none⟩=some (.iface 399 (.pointer (some (ad 2)))):=(WithSt.env A.o HE.o.1 HE.o.2.2).op4.c2
   have n1:4≠S+1:=zi
   have n2:S+1≠4:=zi
   have HSw:=Lib.hid hSw
   clear hSw hlow hsB
   go_wp2_with fail
   go_region
   all_goals
    go_wp2
    (try simp only [Exit.inBlock,Exit.then])
    refine bodyPost_ret (v:=.tuple #[.agg #[.slice none 0 0,.slice none 0 0,.slice none 0 0,.slice none 0 0],eV ad 3]) ?_ rfl ⟨F,H1.o.2.1,H1.o.2.2,?_⟩
    ·rw [results_ct rfl]
     unfold eV
     go_simp
    have hk8:Keeps (fun k=>k=S+1) wr (wr.setCells (S+1) 0 [.slice none 0 0,.slice none 0 0,.slice none 0 0,.slice none 0 0]):=setCells_keeps (S+1) _ 0 wr
    refine ⟨c',?_,A.o.hue,?_,?_⟩
    ·exact A.o.keeps.then hk8.drew (fun j hj e=>je)
    ·exact A.o.old.kept (fun j hj=>⟨fun q hq hcq=>hk8.block q hq (fun e=>yG),fun _ _=>rfl⟩)
    rw [hgo.o]
  | true=>
   have HSw:=Lib.hid hSw
   clear hSw hlow hsB
   have k0:=A.o.box.at (i:=0) zi
   have k1:=A.o.box.at (i:=1) zi
   have k2:=A.o.box.at (i:=2) zi
   have k3:=A.o.box.at (i:=3) zi
   go_wp2
   (try simp only [Exit.inBlock,Exit.then])
   refine bodyPost_ret (v:=.tuple #[kV ao' cap' R',.nilIface]) ?_ rfl ⟨F,H1.o.2.1,H1.o.2.2,?_⟩
   ·rw [results_ct rfl]
    unfold kV
    go_simp
   have hk8:Keeps (fun k=>k=S+1) wr (wr.setCells (S+1) 0 [.slice (ao' 0) (R' 0).length (cap' 0),.slice (ao' 1) (R' 1).length (cap' 1),.slice (ao' 2) (R' 2).length (cap' 2),.slice (ao' 3) (R' 3).length (cap' 3)]):=setCells_keeps (S+1) _ 0 wr
   have hkk:∀j,j<4->Kept c' (10+j) wr c' (wr.setCells (S+1) 0 [.slice (ao' 0) (R' 0).length (cap' 0),.slice (ao' 1) (R' 1).length (cap' 1),.slice (ao' 2) (R' 2).length (cap' 2),.slice (ao' 3) (R' 3).length (cap' 3)]):=fun j hj=>⟨fun q hq hcq=>hk8.block q hq (fun e=>yG),fun _ _=>rfl⟩
   refine ⟨c',A.o.keeps.then hk8 (fun j hj e=>je),A.o.hue,A.o.old.kept hkk,?_⟩
   rw [hgo.o]
   exact ⟨ao',cap',rfl,A.o.new.kept hkk⟩
