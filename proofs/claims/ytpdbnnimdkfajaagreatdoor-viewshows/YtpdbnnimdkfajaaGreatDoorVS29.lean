import Derived.Test.YtpdbnnimdkfajaaGreatDoorVS25
import Derived.Test.YtpdbnnimdkfajaaGreatDoorVS26
import Derived.Test.YtpdbnnimdkfajaaGreatDoorVS27
set_option linter.unusedSimpArgs false
set_option linter.unusedVariables false
set_option maxRecDepth 100000
set_option maxHeartbeats 64000000
namespace Go.Proofs.YtpdbnnimdkfajaaGreatDoor
open Go.Proofs.Tryz
variable {T by_:Int} {A ys:List OpX} {B bc br bt bx i:Nat} {ad:Nat→Addr} {c:Nat→Nat} {kv kv':Nat→Value} {R:Rws} {W w w':World}
section
open Go.RowKit Go.Lib Go.Sort
theorem stable_by {xs:List OpX} (h:StableOf xs ys):ys.Perm xs/\ys.Pairwise (fun a b=>¬CLt (stO b) (stO a)):=by
 obtain ⟨d',⟨hp,hs⟩,rfl⟩:=h
 have hsz:(tagged xs).size=xs.length:=tagged_size xs
 have hp':PermIn 0 (tagged xs).size (tagged xs) d':=by rw [hsz];exact hp
 have hd:d'.size=xs.length:=by have:=hp.1;rw [this,hsz]
 have hperm:=permIn_list hp'
 have hfst:(tagged xs).toList.map Prod.fst=xs:=by
  unfold tagged
  simp
 refine ⟨?_,?_⟩
 ·have:=hperm.map Prod.fst
  rw [hfst] at this
  exact this.symm
 have hl:=sorted_list d' (by rw [hd];exact hs)
 rw [ub]
 refine hl.imp (fun {a b} q=> ?_)
 have:=(slt_false.1 q).1
 unfold ltX at this
 have e:=lessB_clt (stO b.1) (stO a.1)
 intro hc
 have h2:lessB b.1.1 b.1.2.1 a.1.1 a.1.2.1=true:=e.trans (decide_eq_true hc)
 rw [h2] at this
 cases this
theorem by_stamp (hs:ys.Pairwise (fun a b=>¬CLt (stO b) (stO a))) (hn:ys.Pairwise (fun a b=>stO a≠stO b)):ys.Pairwise (fun a b=>CLt (stO a) (stO b)):=
 (hs.and hn).imp (fun {a b} h=>by
  obtain ⟨h1,h2⟩:=h
  unfold CLt at*
  rcases ha:stO a with ⟨a1,a2⟩
  rcases hb:stO b with ⟨b1,b2⟩
  rw [ha,hb] at h1 h2
  dsimp only at*
  have h3:¬(a1=b1/\a2=b2):=fun e=>h2 (by rw [e.1,e.2])
  omega)
def aoOf (v:Value):Option Addr:=match v with
 | .slice a _ _=>a
 | _=>none
def capOf (v:Value):Nat:=match v with
 | .slice _ _ c=>c
 | _=>0
theorem row_kvs (h:RowsAt w c kv R) (hi:i<4):kv i=kvs (fun j=>aoOf (kv j)) (fun j=>capOf (kv j)) R i:=by
 obtain ⟨a,cp,e⟩:=rowIs (h i hi).1
 show kv i= .slice (aoOf (kv i)) (R i).length (capOf (kv i))
 rw [e]
 rfl
theorem RowsAt.congr (h:RowsAt w c kv R) (e:∀i,i<4->kv i=kv' i):RowsAt w c kv' R:=fun i hi=>by rw [<-e i hi];exact h i hi
theorem RepCell.congr (h:RepCell w br T by_ kv bt bx bc) (e:∀i,i<4->kv i=kv' i):RepCell w br T by_ kv' bt bx bc:=by
 unfold RepCell at*
 rw [<-e 0 zi,<-e 1 zi,<-e 2 zi,<-e 3 zi]
 exact h
theorem RepMid.norm (h:RepMid w c br T by_ kv bt bx bc R A):∃ao cap,RepMid w c br T by_ (kvs ao cap R) bt bx bc R A:=
 ⟨_,_,h.cell.congr (fun i hi=>row_kvs h.rows hi),h.hue,h.rows.congr (fun i hi=>row_kvs h.rows hi),h.tree,h.text,h.marks,h.time⟩
structure RepOwn (B:Nat) (w:World) (c:Nat->Nat) (br:Nat) (by_:Int) (R:Rws):Prop where
 rep:RepAt w c br by_ R
 low:∀k,c k≠0->B<=k
 high:∀k,w.heap.size<=k->c k=0
theorem RepOwn.later {B:Nat} {w w':World} {c:Nat->Nat} {br:Nat} {by_:Int} {R:Rws} (h:RepOwn B w c br by_ R) (hb:Below w.heap.size w w'):RepOwn B w' c br by_ R:=⟨h.rep.later hb,h.low,fun k hk=>h.high k (jw hb.size hk)⟩
theorem up_perm (R:Rws) (hi:i<4) (o:OpX):(allR (upR R i (R i++ [o]))).Perm (allR R++ [o]):=by
 have sw:∀(a b:List OpX),(a++ [o]++b).Perm (a++b++ [o]):=fun a b=>by
  rw [jR,jR]
  exact (vW (l₁:=[o]) (l₂:=b)).append_left a
 unfold allR upR
 have h4:i=0\/i=1\/i=2\/i=3:=zi
 rcases h4 with rfl | rfl | rfl | rfl
 ·simpa using sw (R 0) (R 1++(R 2++R 3))
 ·simpa using sw (R 0++R 1) (R 2++R 3)
 ·simpa using sw (R 0++(R 1++R 2)) (R 3)
 simp
theorem withGo_perm:∀(F:List OpX) (R:Rws) (z:Bool) (R':Rws) (z':Bool),(∀x∈F,errO x=0)->withGo R z F=some (R',z')->(allR R').Perm (allR R++F)
 | [],R,z,R',z',_,h=>by
  rw [withGo] at h
  cases h
  rw [vf]
 | o::t,R,z,R',z',ho,h=>by
  obtain ⟨i,hi,hb,hbn⟩:=by_nat (ho o jM)
  rw [withGo,hbn] at h
  split at h
  ·have ih:=withGo_perm t _ _ R' z' (fun x hx=>ho x (jv _ hx)) h
   refine ih.trans ?_
   have:=(up_perm R hi o).append_right t
   rwa [jR] at this
  cases h
theorem stamps_apart (h:RowsN R) (hm:∀x∈ys,x∈allR R) (hp:ys.Pairwise (fun x y=>¬(byO x=byO y/\numO x=numO y))):ys.Pairwise (fun a b=>stO a≠stO b):=
 hp.imp_of_mem (fun {a b} ha hb q e=>q (by rw [h.stamp (hm a ha) (hm b hb) e];exact ⟨rfl,rfl⟩))
theorem RepMid.recolor {c':Nat->Nat} (h:RepMid w c br T by_ kv bt bx bc R A) (e:∀k,k<w.heap.size->c' k=c k):RepMid w c' br T by_ kv bt bx bc R A:=h.kept (fun i _=>⟨fun _ _ _=>rfl,e⟩)
def hueTo (w w':World) (c c2:Nat->Nat):Nat->Nat:=fun k=>if k<w.heap.size then c k else if k<w'.heap.size then c2 k else 0
theorem hueTo_is {c2:Nat->Nat} (hh:∀k,k<w.heap.size->c2 k=c k) {k:Nat} (hk:k<w'.heap.size):hueTo w w' c c2 k=c2 k:=by
 unfold hueTo
 by_cases q:k<w.heap.size
 ·rw [if_pos q,hh k q]
 rw [if_neg q,if_pos hk]
theorem own_close {c2:Nat->Nat} (hm:RepMid w' c2 br T by_ kv bt bx bc R A) (hp:A.Perm (allR R)) (hK:RowsK R) (hb:0<=by_/\by_<4) (hk:Keeps (fun k=>c k≠0) w w') (hh:∀k,k<w.heap.size->c2 k=c k) (hB:∀k,c k≠0->B<=k) (hBw:B<=w.heap.size):∃c',Acts w c w' c'/\RepOwn B w' c' br by_ R:=by
 refine ⟨hueTo w w' c c2,⟨hk,fun k q=>if_pos q⟩,⟨_,_,_,_,_,_,hm.recolor (fun k q=>hueTo_is hh q),hp,hK,hb⟩,fun k q=> ?_,fun k q=> ?_⟩
 ·unfold hueTo at q
  by_cases e:k<w.heap.size
  ·rw [if_pos e] at q;exact hB k q
  omega
 have:=hk.size
 unfold hueTo
 rw [if_neg zi,if_neg zi]
end
section
open Go.RowKit Go.Lib Go.Sort
def JoinOut (B:Nat) (ad:Nat->Addr) (w:World) (c:Nat->Nat) (br:Nat) (by_:Int) (R:Rws) (l:List OpX) (e:Ending) (w':World):Prop:=∃a c',JoinIs (allR R) l a/\Acts w c w' c'/\(match a with
 | .inl (i,cd)=>RepOwn B w' c' br by_ R/\∃v,e= .returned (.tuple #[.int .i64 0,v])/\((i= -1/\v=eV ad cd/\cd≠0)\/(0<=i/\FaultIs ad w' v i cd))
 | .inr fresh=>e= .returned (.tuple #[.int .i64 (fresh.length:Int),.nilIface])/\∃R',RepOwn B w' c' br by_ R'/\∀x,x∈allR R'↔x∈allR R++fresh)
theorem row_le (R:Rws) (hi:i<4):(R i).length<=(allR R).length:=by
 have h4:i=0\/i=1\/i=2\/i=3:=zi
 unfold allR
 rcases h4 with rfl | rfl | rfl | rfl<;>simp<;>omega
theorem join_wide (w:World) (c:Nat->Nat) (br:Nat) (by_:Int) (R:Rws) (la:Option Addr) (lc:Nat) (l:List OpX) (h:RepOwn B w c br by_ R) (hE:EnvE B ad w) (hin:OpsIn w la l) (hs:Sized l) (hR1:(allR R).length<=140) (hl1:l.length<=1000) (hf1:∀F,siftS (allR R) 0 [] l= .inr F->(allR R).length+F.length<=140):
  Calls prog 10 #[.pointer (some ⟨br,0,none⟩),.slice la l.length lc] w (JoinOut B ad w c br by_ R l):=by
 obtain ⟨T,kv,bt,bx,bc,A,hM0,hperm,hK,hb0,hb4⟩:=h.rep
 obtain ⟨ao,cap,hM⟩:=hM0.norm
 have hrl:∀i,i<4->(R i).length<=140:=fun i hi=>yh
 have k2:w.cell? ⟨br,2,none⟩=some (.slice (ao 0) (R 0).length (cap 0)):=hM.cell.c2
 have k3:w.cell? ⟨br,3,none⟩=some (.slice (ao 1) (R 1).length (cap 1)):=hM.cell.c3
 have k4:w.cell? ⟨br,4,none⟩=some (.slice (ao 2) (R 2).length (cap 2)):=hM.cell.c4
 have k5:w.cell? ⟨br,5,none⟩=some (.slice (ao 3) (R 3).length (cap 3)):=hM.cell.c5
 have hsift:=sift_any w ao cap R la lc l hE.op4 hE.c6 (KnownAt.of_rows hM.rows) hK.num (fun i hi=>by have:=hrl i hi;omega) hin hs zi
 unfold kV at hsift
 have H0:Aside (RepMid w c br T by_ (kvs ao cap R) bt bx bc R A/\A.Perm (allR R)/\RowsK R/\RepOwn B w c br by_ R/\EnvE B ad w/\0<=by_/\by_<4):=⟨hM,hperm,hK,h,hE,hb0,hb4⟩
 have HF1:Aside (∀F,siftS (allR R) 0 [] l= .inr F->(allR R).length+F.length<=140):=hf1
 clear hM hM0 hperm hK h hE hin hs hf1
 go_enter func10,ntmps10
 go_wp2_with fail
 refine hsift.mono ?_
 clear hsift
 rintro e w1 ⟨hso,hb1⟩
 cases hsf:siftS (allR R) 0 [] l with
 | inl ic=>
  obtain ⟨i,cd⟩:=ic
  rw [hsf] at hso
  obtain ⟨v,rfl,blk,rfl,hblk⟩:=hso
  have HF:Aside (siftS (allR R) 0 [] l= .inl (i,cd)/\Below w.heap.size w w1/\w1.heap[blk]? =some (.cells #[.int .i64 (i:Int),eV ad cd] 198 (0,0))):=⟨hsf,hb1,hblk⟩
  clear hsf hb1 hblk
  go_wp2
  go_ret2
  refine ⟨.inl ((i:Int),cd),c,?_,Acts.of_below c HF.o.2.1,H0.o.2.2.2.1.later HF.o.2.1,_,rfl,.inr ⟨Int.natCast_nonneg _,blk,rfl,HF.o.2.2⟩⟩
  unfold JoinIs
  rw [HF.o.1]
 | inr fresh=>
  rw [hsf] at hso
  obtain ⟨v,rfl,hrow⟩:=hso
  obtain ⟨fa,fc,rfl⟩:=rowIs hrow
  obtain ⟨g1,g2,g3,g4,g5⟩:=sift_fresh (freshK_nil _) hsf
  have hn:(allR R).length+fresh.length<=140:=HF1.o fresh hsf
  have hfl:fresh.length<=l.length:=by simpa using g5
  have hops:OpsIn w1 fa fresh:=by
   rcases ownsOps hrow with ⟨_,q⟩ | ⟨b,o,cp,q1,q2⟩
   ·exact .inl q
   exact .inr ⟨b,o,(Value.slice.inj q1).1,q2⟩
  have hM1:=H0.o.1.later hb1
  have H1:Aside (siftS (allR R) 0 [] l= .inr fresh/\Below w.heap.size w w1/\FreshK (allR R) fresh/\w1.ownsRow w.heap.size 38 8 (.slice fa fresh.length fc) fresh.length (cellsOf fresh)/\RepMid w1 c br T by_ (kvs ao cap R) bt bx bc R A/\EnvE B ad w1):=⟨hsf,hb1,g1,hrow,hM1,H0.o.2.2.2.2.1.later hb1⟩
  have hwith:=with_any w1 c ao cap R fa fc fresh H1.o.2.2.2.2.2 H0.o.2.2.2.1.low hM1.rows hops g1.ok (fun k hk=>H0.o.2.2.2.1.high k (jw hb1.size hk)) zi (fun i hi=>by have:=hrl i hi;omega)
  have k2':w1.cell? ⟨br,2,none⟩=some (.slice (ao 0) (R 0).length (cap 0)):=hM1.cell.c2
  have k3':w1.cell? ⟨br,3,none⟩=some (.slice (ao 1) (R 1).length (cap 1)):=hM1.cell.c3
  have k4':w1.cell? ⟨br,4,none⟩=some (.slice (ao 2) (R 2).length (cap 2)):=hM1.cell.c4
  have k5':w1.cell? ⟨br,5,none⟩=some (.slice (ao 3) (R 3).length (cap 3)):=hM1.cell.c5
  unfold kV at hwith
  clear hsf hrow g1 g2 g3 g4 g5 hops hM1 k2 k3 k4 k5 hb1
  go_wp2_with fail
  refine hwith.mono ?_
  clear hwith k2' k3' k4' k5'
  rintro e w2 ⟨F,hFp,hFs,c2,hk2,hhue2,hold2,hout⟩
  have hgo:=withGo_is F R true H0.o.2.2.1.num (H1.o.2.2.1.perm hFp) hFs (by simp [H0.o.2.2.1.nofall])
  have hmemF:∀x,x∈allR R++F↔x∈allR R++fresh:=fun x=>by simp only [ju,hFp.mem_iff]
  have hM2:RepMid w2 c2 br T by_ (kvs ao cap R) bt bx bc R A:=by
   have hm:=H1.o.2.2.2.2.1
   have kp:∀j,j≠0->¬(10<=j/\j<14)->Kept c j w1 c2 w2:=fun j _ hj=>⟨fun k hk e=>hk2.block k hk (fun q=>hj (by rw [<-e];exact q)),hhue2⟩
   exact ⟨hm.cell.same ((kp 1 zi zi).block _ hm.cell.lt hm.hue),(hhue2 _ hm.cell.lt).trans hm.hue,hold2,hm.tree.kept (kp 2 zi zi),hm.text.kept (kp 3 zi zi) (fun nd _=>kp _ zX zX),hm.marks.kept (kp 4 zi zi),hm.time⟩
  have H2:Aside (RepMid w2 c2 br T by_ (kvs ao cap R) bt bx bc R A/\Keeps (fun k=>c k≠0) w w2/\(∀k,k<w.heap.size->c2 k=c k)/\EnvE B ad w2/\(∀x,x∈allR R++F↔x∈allR R++fresh)/\F.Perm fresh/\OpsIn w2 fa fresh/\(∀a,fa=some a->w.heap.size<=a.block\/fresh= [])):=by
   have hrow2:=H1.o.2.2.2.1
   have hfa:∀g,(Value.slice fa fresh.length fc).ownBlock=some g->c g=0:=fun g hg=>H0.o.2.2.2.1.high g (hrow2.lt g hg).1
   have hkw:Keeps (fun k=>c k≠0) w w2:=((keeps_of_below H1.o.2.1).mono (fun k hk e=>absurd hk zi)).then hk2 (fun k _ e=>zi)
   refine ⟨hM2,hkw,fun k hk=>hhue2 k (jE hk H1.o.2.1.size),H0.o.2.2.2.2.1.mono (hkw.below H0.o.2.2.2.2.1.size (fun k e=>H0.o.2.2.2.1.low k e)),hmemF,hFp,?_,?_⟩
   ·rcases ownsOps (owns_same hrow2 (fun g hg=>hk2.block g (hrow2.lt g hg).2 (fun q=>by have:=hfa g hg;omega))) with ⟨_,q⟩ | ⟨b,o,cp,q1,q2⟩
    ·exact .inl q
    exact .inr ⟨b,o,(Value.slice.inj q1).1,q2⟩
   intro a ha
   rcases hrow2.2 with ⟨_,q⟩ | ⟨g,cp,cur,q1,q2,_⟩
   ·exact .inr (jC.1 q)
   have:=(Value.slice.inj q1).1
   rw [ha] at this
   cases this
   exact .inl q2
  have KC:Aside (∀w3,Below w2.heap.size w2 w3->∃c',Acts w c w3 c'/\RepOwn B w3 c' br by_ R):=fun w3 hb3=>own_close (H2.o.1.later hb3) H0.o.2.1 H0.o.2.2.1 H0.o.2.2.2.2.2 (H2.o.2.1.then (keeps_of_below hb3) (fun k hk e=>by have:=H2.o.2.1.size;omega)) H2.o.2.2.1 H0.o.2.2.2.1.low H0.o.2.2.2.2.1.size
  clear hk2 hhue2 hold2 hM2 hmemF
  rcases hgo with ⟨hnone,hgap⟩ | ⟨R',z',hsome,hngap,hN',hmem',hz',hlen',hext'⟩
  ·rw [hnone] at hout
   subst hout
   have HG:Aside (Gap (allR R++fresh)):=hgap.congr H2.o.2.2.2.2.1
   have ev:eV ad 9= .iface 399 (.pointer (some (ad 8))):=rfl
   rw [ev]
   clear hnone hgap ev
   go_wp2
   go_ret2
   obtain ⟨c',a1,a2⟩:=KC.o _ (zg w2 _)
   refine ⟨.inl (-1,9),c',?_,a1,a2,_,rfl,.inl ⟨rfl,rfl,zo⟩⟩
   unfold JoinIs
   rw [H1.o.1]
   exact .inl ⟨HG.o,rfl⟩
  cases z' with
  | false=>
   rw [hsome] at hout
   have hout:e= .returned (.tuple #[.agg #[.slice none 0 0,.slice none 0 0,.slice none 0 0,.slice none 0 0],eV ad 3]):=hout
   subst hout
   have HG:Aside (¬Gap (allR R++fresh)/\Falls (allR R++fresh)):=⟨fun q=>hngap (q.congr (fun x=>(H2.o.2.2.2.2.1 x).symm)),by
    refine Classical.byContradiction (fun q=> ?_)
    have:=hz'.2 (fun k=>q (k.congr H2.o.2.2.2.2.1))
    cases this⟩
   have ev:eV ad 3= .iface 399 (.pointer (some (ad 2))):=rfl
   rw [ev]
   clear hsome hngap ev hN' hmem' hz' hlen' hext'
   go_wp2
   go_ret2
   obtain ⟨c',a1,a2⟩:=KC.o _ (zg w2 _)
   refine ⟨.inl (-1,3),c',?_,a1,a2,_,rfl,.inl ⟨rfl,rfl,zo⟩⟩
   unfold JoinIs
   rw [H1.o.1]
   exact .inr (.inl ⟨HG.o.1,HG.o.2,rfl⟩)
  | true=>
   rw [hsome] at hout
   obtain ⟨ao',cap',rfl,hnew⟩:=hout
   have hNF:¬Falls (allR R++fresh):=fun q=>(hz'.1 rfl) (q.congr (fun x=>(H2.o.2.2.2.2.1 x).symm))
   have hNG:¬Gap (allR R++fresh):=fun q=>hngap (q.congr (fun x=>(H2.o.2.2.2.2.1 x).symm))
   have hmem:∀x,x∈allR R'↔x∈allR R++fresh:=fun x=>(hmem' x).trans (H2.o.2.2.2.2.1 x)
   have hRN:RowsN R':=⟨hN',fun x hx y hy e1 e2=>Classical.byContradiction (fun q=>hNF ⟨x,(hmem x).1 hx,y,(hmem y).1 hy,e1,e2,q⟩)⟩
   have hl':(allR R').length<=140:=by have:=H2.o.2.2.2.2.2.1.length_eq;omega
   have hrl':∀i,i<4->(R' i).length<=1000:=fun i hi=>by have:=row_le R' hi;omega
   have hokF:∀x∈F,errO x=0:=fun x hx=>H1.o.2.2.1.ok x (H2.o.2.2.2.2.2.1.mem_iff.1 hx)
   have hpm:(allR R').Perm (allR R++fresh):=(withGo_perm F R true R' true hokF hsome).trans (H2.o.2.2.2.2.2.1.append_left _)
   obtain ⟨U,hU⟩:=za (w2.alloc (.cells #[.slice (ao' 0) (R' 0).length (cap' 0),.slice (ao' 1) (R' 1).length (cap' 1),.slice (ao' 2) (R' 2).length (cap' 2),.slice (ao' 3) (R' 3).length (cap' 3)] 65))
   have hbU:Below w2.heap.size w2 U:=by rw [hU];exact zg w2 _
   obtain ⟨Q,hQ⟩:=za w2.heap.size
   have hkb:KBox U Q ao' cap' R':=by rw [hU,hQ];exact KBox.new w2 ao' cap' R'
   have hnU:RowsAt U c2 (kvs ao' cap' R') R':=hnew.kept (fun i _=>⟨fun k hk _=>hbU.block k hk,fun _ _=>rfl⟩)
   obtain ⟨zb,hzb⟩:∃zb:Bool,zb=true↔∀x∈fresh,RefOk (allR R') x:=⟨@decide _ (Classical.propDecidable _),@decide_eq_true_iff _ (Classical.propDecidable _)⟩
   have hbears:=bearsAll_any U ao' cap' R' fa fc fresh (H2.o.2.2.2.2.2.2.1.later hbU) (fun x hx=>(hmem x).2 (vi _ hx)) zb hzb ((H2.o.2.2.2.1.later hbU).op4) (KnownAt.of_rows hnU) hRN hrl' zi
   have H3:Aside (RepMid U c2 br T by_ (kvs ao cap R) bt bx bc R A/\RowsAt U c2 (kvs ao' cap' R') R'/\RowsN R'/\(∀x,x∈allR R'↔x∈allR R++fresh)/\(allR R').Perm (allR R++fresh)/\¬Gap (allR R++fresh)/\¬Falls (allR R++fresh)/\(zb=true↔∀x∈fresh,RefOk (allR R') x)/\Below w2.heap.size w2 U/\KBox U Q ao' cap' R'/\Q=w2.heap.size):=⟨H2.o.1.later hbU,hnU,hRN,hmem,hpm,hNG,hNF,hzb,hbU,hkb,hQ⟩
   have HU:Aside (U=w2.alloc (.cells #[.slice (ao' 0) (R' 0).length (cap' 0),.slice (ao' 1) (R' 1).length (cap' 1),.slice (ao' 2) (R' 2).length (cap' 2),.slice (ao' 3) (R' 3).length (cap' 3)] 65)/\Q=w2.heap.size):=⟨hU,hQ⟩
   have k0:=hkb.at (i:=0) zi
   have k1:=hkb.at (i:=1) zi
   have k2:=hkb.at (i:=2) zi
   have k3:=hkb.at (i:=3) zi
   unfold kV at hbears |-
   clear hnew hNF hNG hRN hpm hokF hU hQ hbU hkb hnU hzb hsome hngap hN' hmem' hz' hlen' hext' hmem
   go_upto_region 7 with fail
   rw [<-HU.o.1,<-HU.o.2]
   go_wp2_with fail
   refine hbears.mono ?_
   clear hbears
   rintro e w3 ⟨rfl,hb3⟩
   have hM3:=H3.o.1.later hb3
   have hkb3:=H3.o.2.2.2.2.2.2.2.2.2.1.later hb3
   have E3:=(H2.o.2.2.2.1.later H3.o.2.2.2.2.2.2.2.2.1).later hb3
   have H4:Aside (RepMid w3 c2 br T by_ (kvs ao cap R) bt bx bc R A/\RowsAt w3 c2 (kvs ao' cap' R') R'/\Below w2.heap.size w2 w3/\KBox w3 Q ao' cap' R'/\EnvE B ad w3):=⟨hM3,H3.o.2.1.kept (fun i _=>⟨fun k hk _=>hb3.block k hk,fun _ _=>rfl⟩),zh H3.o.2.2.2.2.2.2.2.2.1 hb3,hkb3,E3⟩
   clear k0 k1 k2 k3
   cases zb with
   | false=>
    have eg:=E3.c5
    have HN:Aside (∃x∈allR R++fresh,¬RefOk (allR R++fresh) x):=by
     refine Classical.byContradiction (fun q=> ?_)
     have:=H3.o.2.2.2.2.2.2.2.1.2 (fun x hx=>Classical.byContradiction (fun k=>q ⟨x,vi _ hx,fun k'=>k (k'.mono (fun y hy=>(H3.o.2.2.2.1 y).2 hy))⟩))
     cases this
    clear hM3 hkb3 E3 hb3
    go_wp2_with fail
    go_quiet (fail)
    go_wp2
    go_ret2
    obtain ⟨c',a1,a2⟩:=KC.o _ (Go.below_drewN H4.o.2.2.1 _)
    refine ⟨.inl (-1,6),c',?_,a1,a2,_,rfl,.inl ⟨rfl,rfl,zo⟩⟩
    unfold JoinIs
    rw [H1.o.1]
    exact .inr (.inr (.inl ⟨H3.o.2.2.2.2.2.1,H3.o.2.2.2.2.2.2.1,HN.o,rfl⟩))
   | true=>
    have hall:∀x∈fresh,RefOk (allR R') x:=H3.o.2.2.2.2.2.2.2.1.1 rfl
    have hRN:=H3.o.2.2.1
    have hmem:=H3.o.2.2.2.1
    have hW:WellK (allR R'):=⟨hRN.num.ok,hRN.num.one,hRN.num.gap,hRN.up,fun x hx=>by
     rcases ju.1 ((hmem x).1 hx) with q | q
     ·exact (H0.o.2.2.1.well.refs x q).mono (fun y hy=>(hmem y).2 (jP _ hy))
     ·exact hall x q⟩
    have HW:Aside (RowsK R'):=⟨hRN.num,hW⟩
    have dn:decide ((400:Int)<((allR R').length:Int))=false:=zk
    have dn':decide (400<(allR R').length)=false:=zk
    have hcount:=count_any w3 ao' cap' R' hrl'
    unfold kV at hcount
    have k0:=hkb3.at (i:=0) zi
    have k1:=hkb3.at (i:=1) zi
    have k2:=hkb3.at (i:=2) zi
    have k3:=hkb3.at (i:=3) zi
    clear hM3 hkb3 E3 hall hRN hmem hW hb3
    go_wp2_with fail
    refine hcount.mono ?_
    clear hcount k0 k1 k2 k3
    rintro e w4 ⟨rfl,hb4'⟩
    have hM4:=H4.o.1.later hb4'
    have hkb4:=H4.o.2.2.2.1.later hb4'
    have k0:=hkb4.at (i:=0) zi
    have k1:=hkb4.at (i:=1) zi
    have k2:=hkb4.at (i:=2) zi
    have k3:=hkb4.at (i:=3) zi
    have q2:=hM4.cell.c2
    have q3:=hM4.cell.c3
    have q4:=hM4.cell.c4
    have q5:=hM4.cell.c5
    have qf:=hM4.cell.fz
    obtain ⟨w5,hw5⟩:=za ((((w4.setCell ⟨br,2,none⟩ (.slice (ao' 0) (R' 0).length (cap' 0))).setCell ⟨br,3,none⟩ (.slice (ao' 1) (R' 1).length (cap' 1))).setCell ⟨br,4,none⟩ (.slice (ao' 2) (R' 2).length (cap' 2))).setCell ⟨br,5,none⟩ (.slice (ao' 3) (R' 3).length (cap' 3)))
    have hk5:Keeps (fun k=>k=br) w4 w5:=by rw [hw5];exact setCells_keeps br [.slice (ao' 0) (R' 0).length (cap' 0),.slice (ao' 1) (R' 1).length (cap' 1),.slice (ao' 2) (R' 2).length (cap' 2),.slice (ao' 3) (R' 3).length (cap' 3)] 2 w4
    have hp5:RepPart w5 c2 br T by_ (kvs ao' cap' R') bt bx bc R' A:=by
     have kp:∀i,i≠1->Kept c2 i w4 c2 w5:=fun i hi=>⟨fun k hk e=>hk5.block k hk (fun q=>by have q':k=br:=q;rw [q',hM4.hue] at e;omega),fun _ _=>rfl⟩
     have hr4:RowsAt w4 c2 (kvs ao' cap' R') R':=H4.o.2.1.kept (fun i _=>⟨fun k hk _=>hb4'.block k hk,fun _ _=>rfl⟩)
     refine ⟨?_,hM4.hue,hr4.kept (fun i _=>kp _ zi),hM4.tree.kept (kp 2 zi),hM4.text.kept (kp 3 zi) (fun nd _=>kp _ zX),hM4.marks.kept (kp 4 zi)⟩
     have hh:=setCells_heap br [.slice (ao' 0) (R' 0).length (cap' 0),.slice (ao' 1) (R' 1).length (cap' 1),.slice (ao' 2) (R' 2).length (cap' 2),.slice (ao' 3) (R' 3).length (cap' 3)] 2 w4 _ _ hM4.cell
     unfold RepCell
     rw [hw5]
     refine Eq.trans hh ?_
     simp [over,kvs]
    have hkw5:Keeps (fun k=>c k≠0) w w5:=((H2.o.2.1.then (keeps_of_below H4.o.2.2.1) (fun k hk e=>by have:=H2.o.2.1.size;omega)).then (keeps_of_below hb4') (fun k hk e=>by have:=H2.o.2.1.size;have:=H4.o.2.2.1.size;omega)).then hk5 (fun k hk e=>by have e':k=br:=e;have:=H2.o.2.2.1 k hk;rw [e'] at this |-;rw [<-this,H2.o.1.hue];decide)
    have hops5:OpsIn w5 fa fresh:=by
     have ho:=(H2.o.2.2.2.2.2.2.1.later H4.o.2.2.1).later hb4'
     rcases ho with q | ⟨bb,oo,e1,e2⟩
     ·exact .inl q
     refine .inr ⟨bb,oo,e1,fun j u hj=> ?_⟩
     have hcell:=e2 j u hj
     have hbl:=jl w4 ⟨bb,oo+j,none⟩ hcell
     rw [jr (a:=⟨bb,oo+j,none⟩) (hk5.block bb hbl (fun q=>by
      have q':bb=br:=q
      rcases H2.o.2.2.2.2.2.2.2 _ e1 with q2 | q2
      ·have:=H0.o.1.cell.lt;dsimp only at q2;omega
      ·rw [q2] at hj;simp [cellsOf] at hj))]
     exact hcell
    have H5:Aside (RepPart w5 c2 br T by_ (kvs ao' cap' R') bt bx bc R' A/\Keeps (fun k=>c k≠0) w w5/\OpsIn w5 fa fresh/\EnvE B ad w5):=⟨hp5,hkw5,hops5,H0.o.2.2.2.2.1.mono (hkw5.below H0.o.2.2.2.2.1.size (fun k e=>H0.o.2.2.2.1.low k e))⟩
    have HW5:Aside (w5=(((w4.setCell ⟨br,2,none⟩ (.slice (ao' 0) (R' 0).length (cap' 0))).setCell ⟨br,3,none⟩ (.slice (ao' 1) (R' 1).length (cap' 1))).setCell ⟨br,4,none⟩ (.slice (ao' 2) (R' 2).length (cap' 2))).setCell ⟨br,5,none⟩ (.slice (ao' 3) (R' 3).length (cap' 3))):=hw5
    have hsort:=opSort_new w5 (.slice fa fresh.length fc) fresh (by
     rcases H1.o.2.2.2.1.2 with ⟨e1,e2⟩ | ⟨g,cp,cur,e1,_⟩
     ·exact .inl ⟨e1,jC.1 e2⟩
     ·rcases hops5 with q | ⟨bb,oo,e4,e5⟩
      ·exact .inr ⟨g,0,fc,by rw [(Value.slice.inj e1).1],fun j u hj=>by rw [q] at hj;simp [cellsOf] at hj⟩
      ·exact .inr ⟨bb,oo,fc,by rw [e4],e5⟩) zi
    clear hw5 hk5 hp5 hkw5 hops5 hM4 hkb4 hb4'
    go_upto_region 12 with fail
    rw [<-HW5.o]
    clear q2 q3 q4 q5 qf k0 k1 k2 k3
    go_wp2_with fail
    refine hsort.mono ?_
    clear hsort
    rintro e w6 ⟨v6,ys,rfl,hy6,hst,hb6,hnew6⟩
    obtain ⟨va,vc,rfl,hin6⟩:∃va vc,v6= .slice va ys.length vc/\OpsIn w6 va ys:=by
     rcases hy6 with ⟨rfl,rfl⟩ | ⟨bb,oo,cp,rfl,e2⟩
     ·exact ⟨none,0,rfl,.inl rfl⟩
     exact ⟨_,_,rfl,.inr ⟨bb,oo,rfl,e2⟩⟩
    obtain ⟨hyp,hys⟩:=stable_by hst
    have hmem:=H3.o.2.2.2.1
    have hmy:∀x∈ys,x∈allR R':=fun x hx=>(hmem x).2 (vi _ (hyp.mem_iff.1 hx))
    have hyc:ys.Pairwise (fun a b=>CLt (stO a) (stO b)):=by_stamp hys (stamps_apart H3.o.2.2.1 hmy (H1.o.2.2.1.perm hyp).one)
    have hylen:ys.length=fresh.length:=hyp.length_eq
    obtain ⟨c6,hc6⟩:=za (hueTo w w5 c c2)
    have hsz56:=hb6.size
    have hszw:=H5.o.2.1.size
    have H6:Aside (RepPart w6 c6 br T by_ (kvs ao' cap' R') bt bx bc R' A/\Acts w c w6 c6/\(∀k,c6 k≠0->B<=k)/\(∀k,w6.heap.size<=k->c6 k=0)/\OpsIn w6 va ys/\(∀a,va=some a->c6 a.block=0)/\(∀k o,ys[k]? =some o->StepOk (allR R++ys.take k) o)/\ys.Perm fresh/\timeO A T):=by
     have hz5:∀k,w5.heap.size<=k->c6 k=0:=fun k hk=>by
      rw [hc6]
      unfold hueTo
      rw [if_neg zi,if_neg zi]
     refine ⟨(H5.o.1.kept (fun i _=>⟨fun _ _ _=>rfl,fun k hk=>by rw [hc6];exact hueTo_is H2.o.2.2.1 hk⟩)).later hb6,⟨H5.o.2.1.then (keeps_of_below hb6) (fun k hk e=>zi),fun k hk=>by rw [hc6];exact if_pos hk⟩,fun k q=> ?_,fun k hk=>hz5 k zi,hin6,fun a ha=> ?_,fun k o hko=> ?_,hyp,H0.o.1.time⟩
     ·rw [hc6] at q
      unfold hueTo at q
      by_cases e:k<w.heap.size
      ·rw [if_pos e] at q;exact H0.o.2.2.2.1.low k q
      have:=H0.o.2.2.2.2.1.size;omega
     ·rw [ha] at hnew6
      exact hz5 _ (hnew6 a.block rfl)
     refine prefix_step HW.o.well (fun x=> ?_) H0.o.2.2.1.well.refs hyc (fun x hx hx'=> ?_) hko
     ·rw [hmem x,ju]
      exact ⟨fun q=>q.imp id (fun q=>hyp.mem_iff.2 q),fun q=>q.imp id (fun q=>hyp.mem_iff.1 q)⟩
     exact H1.o.2.2.1.off x (hyp.mem_iff.1 hx) x hx' ⟨rfl,rfl⟩
    have hAl:A.length+ys.length<=140:=by have:=H0.o.2.1.length_eq;omega
    clear hy6 hst hb6 hnew6 hin6 hyp hys hmem hmy hyc hc6 hsz56 hszw
    go_wp2
    go_loopg [51] ys.length (fun kx s51 wr=>∃(k:Nat) (TT:Int) (cc:Nat->Nat),s51= .int .i64 (k:Int)/\k<=ys.length/\ys.length - k<=kx/\Aside (RepPart wr cc br TT by_ (kvs ao' cap' R') bt bx bc R' ((ys.take k).reverse++A)/\timeO ((ys.take k).reverse++A) TT/\Acts w c wr cc/\(∀k,cc k≠0->B<=k)/\(∀k,wr.heap.size<=k->cc k=0)/\OpsIn wr va ys/\(∀a,va=some a->cc a.block=0)))
    case atStart=>exact ⟨0,T,c6,rfl,js _,jj _,by simpa using H6.o.1,by simpa using H6.o.2.2.2.2.2.2.2.2,H6.o.2.1,H6.o.2.2.1,H6.o.2.2.2.1,H6.o.2.2.2.2.1,H6.o.2.2.2.2.2.1⟩
    case round=>
     obtain ⟨k,TT,cc,rfl,hkl,hkx,L⟩:=hrel
     by_cases hlt:k<ys.length
     ·have d1:decide ((k:Int)<(ys.length:Int))=true:=by simp;omega
      have wk:((k:Int)).toNat=k:=zi
      have pk:(0:Int)<=(k:Int):=zi
      have bk:(k:Int)<(ys.length:Int):=zi
      obtain ⟨⟨t,b,n,kd,nd,o,s,v⟩,hx⟩:∃x,Aside (ys[k]? =some x):=⟨ys[k],ji hlt⟩
      have hstep0:=H6.o.2.2.2.2.2.2.1 k _ hx.o
      have hpA:(allR R++ys.take k).Perm ((ys.take k).reverse++A):=(vW).trans (((List.reverse_perm _).symm.append_right _).trans (H0.o.2.1.symm.append_left _))
      have hstep:=hstep0.perm hpA
      obtain ⟨blk,off,hao,hc⟩:=L.o.2.2.2.2.2.1.get hx.o
      subst hao
      have r0:=hc 0 _ rfl
      have r1:=hc 1 _ rfl
      have r2:=hc 2 _ rfl
      have r3:=hc 3 _ rfl
      have r4:=hc 4 _ rfl
      have r5:=hc 5 _ rfl
      have r6:=hc 6 _ rfl
      have r7:=hc 7 _ rfl
      simp only [vk] at r0
      clear hc
      have hbU:∀ob,Below wr.heap.size wr (wr.alloc ob):=fun ob=>(jo _ wr).alloc ze ob
      have Ewr:=H0.o.2.2.2.2.1.mono (L.o.2.2.1.keeps.below H0.o.2.2.2.2.1.size (fun k e=>H0.o.2.2.2.1.low k e))
      have happ:=apply_any (wr.alloc (.cells #[.int .i64 t,.int .i64 b,.int .i64 n,.int .u8 (kd:Int),.int .i64 nd,.int .i64 o,.string s,.string v] 38)) cc br TT by_ (kvs ao' cap' R') bt bx bc R' ((ys.take k).reverse++A) (t,b,n,kd,nd,o,s,v) (L.o.1.later (hbU _)) hstep (Ewr.later (hbU _)) L.o.2.2.2.1 (fun q hq=>L.o.2.2.2.2.1 q (by simp at hq;omega)) zk
      have ht1:1<=t:=(err_by hstep.ok).1
      unfold encO at happ
      dsimp only at happ
      have HTK:Aside ((ys.take (k+1)).reverse=(t,b,n,kd,nd,o,s,v)::(ys.take k).reverse):=by
       show (ys.take (k+1)).reverse=_
       rw [jL,hx.o]
       simp
      clear hstep0 hstep hpA Ewr
      go_wp2_with fail
      refine happ.mono ?_
      clear happ r0 r1 r2 r3 r4 r5 r6 r7
      rintro e w7 ⟨⟨u,rfl⟩,c7,p1,p2,p3,p4⟩
      have LN:Aside (RepPart w7 c7 br (if TT<t then t else TT) by_ (kvs ao' cap' R') bt bx bc R' ((ys.take (k+1)).reverse++A)/\timeO ((ys.take (k+1)).reverse++A) (if TT<t then t else TT)/\Acts w c w7 c7/\(∀k,c7 k≠0->B<=k)/\(∀k,w7.heap.size<=k->c7 k=0)/\OpsIn w7 (some ⟨blk,off,none⟩) ys/\(∀a,some (⟨blk,off,none⟩:Addr)=some a->c7 a.block=0)):=by
       have hbk:blk<wr.heap.size:=by
        obtain ⟨b2,o2,e2,hc2⟩:=L.o.2.2.2.2.2.1.get hx.o
        cases e2
        exact jl wr ⟨blk,off+k*8+0,none⟩ (hc2 0 _ rfl)
       have hc0:cc blk=0:=L.o.2.2.2.2.2.2 _ rfl
       refine ⟨by rw [HTK.o];exact p1,by rw [HTK.o];exact timeO_cons L.o.2.1 _ ht1,(L.o.2.2.1.trans (Acts.of_below cc (hbU _))).trans p2,p3,p4,?_,fun a ha=> ?_⟩
       ·rcases L.o.2.2.2.2.2.1.later (hbU _) with q | ⟨bb,oo,e1,e2⟩
        ·exact .inl q
        cases e1
        refine .inr ⟨blk,off,rfl,fun j u hj=> ?_⟩
        rw [jr (a:=⟨blk,off+j,none⟩) (p2.keeps.block blk zk (fun q=>q hc0))]
        exact e2 j u hj
       cases ha
       rw [p2.hue blk zk]
       exact hc0
      clear p1 p2 p3 p4
      go_wp2
      go_roundg (ys.length - (k+1))
      case measure=>omega
      case rel=>exact ⟨k+1,_,c7,zw,zi,jj _,LN.o⟩
     have d1:decide ((k:Int)<(ys.length:Int))=false:=zk
     obtain rfl:k=ys.length:=zi
     go_wp2
     go_ret2
     refine ⟨.inr fresh,cc,?_,L.o.2.2.1,rfl,R',⟨⟨TT,_,bt,bx,bc,_,⟨L.o.1.cell,L.o.1.hue,L.o.1.rows,L.o.1.tree,L.o.1.text,L.o.1.marks,L.o.2.1⟩,?_,HW.o,H0.o.2.2.2.2.2⟩,L.o.2.2.2.1,L.o.2.2.2.2.1⟩,H3.o.2.2.2.1⟩
     ·unfold JoinIs
      rw [H1.o.1]
      refine .inr (.inr (.inr (.inr ⟨HW.o.well.congr H3.o.2.2.2.1,zi,rfl⟩)))
     rw [jX]
     refine ((List.reverse_perm ys).append_right A).trans (vW.trans ?_)
     exact ((H0.o.2.1.append_right ys).trans (H6.o.2.2.2.2.2.2.2.1.append_left _)).trans H3.o.2.2.2.2.1.symm
theorem join_any (w:World) (c:Nat->Nat) (br:Nat) (by_:Int) (R:Rws) (la:Option Addr) (lc:Nat) (l:List OpX) (h:RepOwn B w c br by_ R) (hE:EnvE B ad w) (hin:OpsIn w la l) (hs:Sized l) (hn:(allR R).length+l.length<=140):
  Calls prog 10 #[.pointer (some ⟨br,0,none⟩),.slice la l.length lc] w (JoinOut B ad w c br by_ R l):=
 join_wide w c br by_ R la lc l h hE hin hs zi zi (fun F hF=>by have:=(sift_fresh (freshK_nil _) hF).2.2.2.2;simp at this;omega)
end
section
open Go.RowKit
theorem world_at (W:World) {b:Nat} (hb:b<=W.heap.size):∃w0:World,w0.heap.size=b:=⟨{W with heap:=W.heap.extract 0 b},zk⟩
theorem tmap_new {b:Nat} (h:W.heap[b]? =some (.map #[] 0)):TMapAt W b 0 noT:=by
 obtain ⟨w0,rfl⟩:=world_at W (Nat.le_of_lt (jk.1 h).1)
 exact (tmapAt_made w0).same (h.trans (heap_alloc_new w0 _).symm)
theorem cmap_new {b:Nat} (h:W.heap[b]? =some (.map #[] 0)):CMapAt W b 0 noC:=by
 obtain ⟨w0,rfl⟩:=world_at W (Nat.le_of_lt (jk.1 h).1)
 exact (cmapAt_made w0).same (h.trans (heap_alloc_new w0 _).symm)
theorem map_new {b:Nat} (h:W.heap[b]? =some (.map #[] 0)):MapAt prog 3 W b 0 noSta:=by
 obtain ⟨w0,rfl⟩:=world_at W (Nat.le_of_lt (jk.1 h).1)
 exact (mapAt_made w0).same (h.trans (heap_alloc_new w0 _).symm)
def newHue (bt bm bx bc cm br:Nat):Nat->Nat:=fun k=>if k=br then 1 else if k=bt\/k=bm then 2 else if k=bx then 3 else if k=bc\/k=cm then 4 else 0
def NewOut (w:World) (by_:Int) (e:Ending) (w':World):Prop:=∃c br,e= .returned (.tuple #[.pointer (some ⟨br,0,none⟩),.nilIface])/\RepOwn w.heap.size w' c br by_ (fun _=>[])/\Below w.heap.size w w'
theorem new_close {b:Int} (h0:0<=b) (h4:b<4) (bt bm bx bc cm br:Nat) (hb:Below w.heap.size w W)
  (l1:w.heap.size<=bt) (l2:w.heap.size<=bm) (l3:w.heap.size<=bx) (l4:w.heap.size<=bc) (l5:w.heap.size<=cm) (l6:w.heap.size<=br)
  (d1:bt≠br) (d2:bm≠br) (d3:bx≠br/\bx≠bt/\bx≠bm) (d4:bc≠br/\bc≠bt/\bc≠bm/\bc≠bx) (d5:cm≠br/\cm≠bt/\cm≠bm/\cm≠bx)
  (e1:W.heap[bt]? =some (.cells #[.map (some bm),.slice none 0 0] 187 (0,0))) (e2:W.heap[bm]? =some (.map #[] 0)) (e3:W.heap[bx]? =some (.map #[] 0))
  (e4:W.heap[bc]? =some (.cells #[.map (some cm)] 193 (0,0))) (e5:W.heap[cm]? =some (.map #[] 0))
  (e6:W.heap[br]? =some (.cells #[.int .i64 0,.int .i64 b,.slice none 0 0,.slice none 0 0,.slice none 0 0,.slice none 0 0,.pointer (some ⟨bt,0,none⟩),.map (some bx),.pointer (some ⟨bc,0,none⟩)] 70 (0,0))):
  NewOut w b (.returned (.tuple #[.pointer (some ⟨br,0,none⟩),.nilIface])) W:=by
 have hlt:∀ {k:Nat} {o:Obj},W.heap[k]? =some o->k<W.heap.size:=fun h=>(jk.1 h).1
 have u1:newHue bt bm bx bc cm br br=1:=by unfold newHue;simp
 have u2:newHue bt bm bx bc cm br bt=2:=by unfold newHue;simp [d1]
 have u3:newHue bt bm bx bc cm br bm=2:=by unfold newHue;simp [d2]
 have u4:newHue bt bm bx bc cm br bx=3:=by unfold newHue;simp [d3.1,d3.2.1,d3.2.2]
 have u5:newHue bt bm bx bc cm br bc=4:=by unfold newHue;simp [d4.1,d4.2.1,d4.2.2.1,d4.2.2.2]
 have u6:newHue bt bm bx bc cm br cm=4:=by unfold newHue;simp [d5.1,d5.2.1,d5.2.2.1,d5.2.2.2]
 refine ⟨newHue bt bm bx bc cm br,br,rfl,⟨⟨0,fun _=>.slice none 0 0,bt,bx,bc,[],⟨e6,u1,?_,?_,?_,?_,timeO_nil⟩,by unfold allR;exact List.Perm.refl _,rowsK_nil,h0,h4⟩,fun k hk=> ?_,fun k hk=> ?_⟩,hb⟩
 ·exact fun i hi=>⟨jQ _ _ _ _,fun g hg=>by cases hg⟩
 ·refine ⟨bm,.slice none 0 0,[],⟨e1,⟨[],logTo_nil,jQ _ _ _ _⟩,⟨0,zm,map_new e2⟩,List.Pairwise.nil,fun m hm=>by simp at hm⟩,List.Perm.refl _,u2,u3,fun g hg=>by cases hg⟩
 ·refine ⟨0,noT,jj _,tmap_new e3,u4,fun nd=>⟨fun h=>yA,fun ⟨x,hx,_⟩=>(by cases hx)⟩,fun nd p hp=>by cases hp⟩
 ·exact ⟨cm,[],⟨e4,cmap_new e5⟩,List.Perm.refl _,u5,u6⟩
 ·by_cases q:k=br\/k=bt\/k=bm\/k=bx\/k=bc\/k=cm
  ·rcases q with rfl | rfl | rfl | rfl | rfl | rfl<;>assumption
  exact absurd (by unfold newHue;simp only [not_or] at q;simp [q.1,q.2.1,q.2.2.1,q.2.2.2.1,q.2.2.2.2.1,q.2.2.2.2.2]) hk
 have:=hlt e1;have:=hlt e2;have:=hlt e3;have:=hlt e4;have:=hlt e5;have:=hlt e6
 unfold newHue
 rw [if_neg zi,if_neg zi,if_neg zi,if_neg zi]
end
section
open Go.RowKit Go.Lib Go.Sort Go.Maps
