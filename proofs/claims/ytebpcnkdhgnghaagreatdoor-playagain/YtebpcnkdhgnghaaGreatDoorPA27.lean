import Derived.Test.YtebpcnkdhgnghaaGreatDoorPA22
import Derived.Test.YtebpcnkdhgnghaaGreatDoorPA24
import Derived.Test.YtebpcnkdhgnghaaGreatDoorPA25
import Derived.Test.YtebpcnkdhgnghaaGreatDoorPA26
set_option linter.unusedSimpArgs false
set_option linter.unusedVariables false
set_option maxRecDepth 100000
set_option maxHeartbeats 64000000
section
namespace Go.Proofs.YtebpcnkdhgnghaaGreatDoor
open Go.RowKit Go.Lib Go.Sort
variable {T by_:Int} {A ys:List OpX} {B bc br bt bx i:Nat} {kv kv':Nat→Value} {R:Rws} {w w':World}
theorem bG {xs:List OpX} (h:ae xs ys):ys.Perm xs/\ys.Pairwise (fun a b=>¬CLt (stO b) (stO a)):=by
 obtain ⟨d',⟨hp,hs⟩,rfl⟩:=h
 have hsz:(dH xs).size=xs.length:=ac xs
 have hp':PermIn 0 (dH xs).size (dH xs) d':=by rw [hsz];exact hp
 have hd:d'.size=xs.length:=by have:=hp.1;rw [this,hsz]
 have hperm:=sv hp'
 have hfst:(dH xs).toList.map Prod.fst=xs:=by
  unfold dH
  simp
 refine ⟨?_,?_⟩
 ·have:=hperm.map Prod.fst
  rw [hfst] at this
  exact this.symm
 have hl:=wL d' (by rw [hd];exact hs)
 rw [List.pairwise_map]
 refine hl.imp (fun {a b} q=> ?_)
 have:=(slt_false.1 q).1
 unfold ltX at this
 have e:=lO (stO b.1) (stO a.1)
 intro hc
 have h2:dO b.1.1 b.1.2.1 a.1.1 a.1.2.1=true:=e.trans (decide_eq_true hc)
 rw [h2] at this
 cases this
theorem AV (hs:ys.Pairwise (fun a b=>¬CLt (stO b) (stO a))) (hn:ys.Pairwise (fun a b=>stO a≠stO b)):ys.Pairwise (fun a b=>CLt (stO a) (stO b)):=
 (hs.and hn).imp (fun {a b} h=>by
  obtain ⟨h1,h2⟩:=h
  unfold CLt at*
  rcases ha:stO a with ⟨a1,a2⟩
  rcases hb:stO b with ⟨b1,b2⟩
  rw [ha,hb] at h1 h2
  dsimp only at*
  have h3:¬(a1=b1/\a2=b2):=fun e=>h2 (by rw [e.1,e.2])
  omega)
def Od (v:Value):Option Addr:=match v with
 | .slice a _ _=>a
 | _=>none
def Mf (v:Value):Nat:=match v with
 | .slice _ _ c=>c
 | _=>0
theorem FY {c:Nat->Nat} (h:RowsAt w c kv R) (hi:i<4):kv i=kvs (fun j=>Od (kv j)) (fun j=>Mf (kv j)) R i:=by
 obtain ⟨a,cp,e⟩:=dV (h i hi).1
 show kv i= .slice (Od (kv i)) (R i).length (Mf (kv i))
 rw [e]
 rfl
theorem RowsAt.congr {c:Nat->Nat} (h:RowsAt w c kv R) (e:∀i,i<4->kv i=kv' i):RowsAt w c kv' R:=fun i hi=>by rw [<-e i hi];exact h i hi
theorem RepCell.congr (h:RepCell w br T by_ kv bt bx bc) (e:∀i,i<4->kv i=kv' i):RepCell w br T by_ kv' bt bx bc:=by
 unfold RepCell at*
 rw [<-e 0 zj,<-e 1 zj,<-e 2 zj,<-e 3 zj]
 exact h
theorem RepMid.norm {c:Nat->Nat} (h:RepMid w c br T by_ kv bt bx bc R A):∃ao cap,RepMid w c br T by_ (kvs ao cap R) bt bx bc R A:=
 ⟨_,_,h.cell.congr (fun i hi=>FY h.rows hi),h.hue,h.rows.congr (fun i hi=>FY h.rows hi),h.tree,h.text,h.marks,h.time⟩
structure RepOwn (B:Nat) (w:World) (c:Nat->Nat) (br:Nat) (by_:Int) (R:Rws):Prop where
 rep:RepAt w c br by_ R
 low:∀k,c k≠0->B<=k
 high:∀k,w.heap.size<=k->c k=0
theorem RepOwn.later {B:Nat} {w w':World} {c:Nat->Nat} {br:Nat} {by_:Int} {R:Rws} (h:RepOwn B w c br by_ R) (hb:Below w.heap.size w w'):RepOwn B w' c br by_ R:=⟨h.rep.later hb,h.low,fun k hk=>h.high k (jM hb.size hk)⟩
theorem KP (R:Rws) (hi:i<4) (o:OpX):(aX (upR R i (R i++ [o]))).Perm (aX R++ [o]):=by
 have sw:∀(a b:List OpX),(a++ [o]++b).Perm (a++b++ [o]):=fun a b=>by
  rw [vn,vn]
  exact (um (l₁:=[o]) (l₂:=b)).append_left a
 unfold aX upR
 have h4:i=0\/i=1\/i=2\/i=3:=zj
 rcases h4 with rfl | rfl | rfl | rfl
 ·simpa using sw (R 0) (R 1++(R 2++R 3))
 ·simpa using sw (R 0++R 1) (R 2++R 3)
 ·simpa using sw (R 0++(R 1++R 2)) (R 3)
 simp
theorem mN:∀(F:List OpX) (R:Rws) (z:Bool) (R':Rws) (z':Bool),(∀x∈F,bY x=0)->ce R z F=some (R',z')->(aX R').Perm (aX R++F)
 | [],R,z,R',z',_,h=>by
  rw [ce] at h
  cases h
  rw [vZ]
 | o::t,R,z,R',z',ho,h=>by
  obtain ⟨i,hi,hb,hbn⟩:=kG (ho o vr)
  rw [ce,hbn] at h
  split at h
  ·have ih:=mN t _ _ R' z' (fun x hx=>ho x (vf _ hx)) h
   refine ih.trans ?_
   have:=(KP R hi o).append_right t
   rwa [vn] at this
  cases h
theorem rM (h:RowsN R) (hm:∀x∈ys,x∈aX R) (hp:ys.Pairwise (fun x y=>¬(byO x=byO y/\ah x=ah y))):ys.Pairwise (fun a b=>stO a≠stO b):=
 hp.imp_of_mem (fun {a b} ha hb q e=>q (by rw [h.stamp (hm a ha) (hm b hb) e];exact ⟨rfl,rfl⟩))
theorem RepMid.recolor {c c':Nat->Nat} (h:RepMid w c br T by_ kv bt bx bc R A) (e:∀k,k<w.heap.size->c' k=c k):RepMid w c' br T by_ kv bt bx bc R A:=h.kept (fun i _=>⟨fun _ _ _=>rfl,e⟩)
def rH (w w':World) (c c2:Nat->Nat):Nat->Nat:=fun k=>if k<w.heap.size then c k else if k<w'.heap.size then c2 k else 0
theorem wm {c c2:Nat->Nat} (hh:∀k,k<w.heap.size->c2 k=c k) {k:Nat} (hk:k<w'.heap.size):rH w w' c c2 k=c2 k:=by
 unfold rH
 by_cases q:k<w.heap.size
 ·rw [if_pos q,hh k q]
 rw [if_neg q,if_pos hk]
theorem Ej {c c2:Nat->Nat} (hm:RepMid w' c2 br T by_ kv bt bx bc R A) (hp:A.Perm (aX R)) (hK:RowsK R) (hb:0<=by_/\by_<4) (hk:Keeps (fun k=>c k≠0) w w') (hh:∀k,k<w.heap.size->c2 k=c k) (hB:∀k,c k≠0->B<=k) (hBw:B<=w.heap.size):∃c',Acts w c w' c'/\RepOwn B w' c' br by_ R:=by
 refine ⟨rH w w' c c2,⟨hk,fun k q=>if_pos q⟩,⟨_,_,_,_,_,_,hm.recolor (fun k q=>wm hh q),hp,hK,hb⟩,fun k q=> ?_,fun k q=> ?_⟩
 ·unfold rH at q
  by_cases e:k<w.heap.size
  ·rw [if_pos e] at q;exact hB k q
  omega
 have:=hk.size
 unfold rH
 exact kh5
end Go.Proofs.YtebpcnkdhgnghaaGreatDoor
end
section
namespace Go.Proofs.YtebpcnkdhgnghaaGreatDoor
open Go.RowKit Go.Lib Go.Sort
variable {B:Nat} {ad:Nat→Addr}
def FD (B:Nat) (ad:Nat->Addr) (w:World) (c:Nat->Nat) (br:Nat) (by_:Int) (R:Rws) (l:List OpX) (e:Ending) (w':World):Prop:=∃a c',cX (aX R) l a/\Acts w c w' c'/\(match a with
 | .inl (i,cd)=>RepOwn B w' c' br by_ R/\∃v,e= .returned (.tuple #[.int .i64 0,v])/\((i= -1/\v=eV ad cd/\cd≠0)\/(0<=i/\EU ad w' v i cd))
 | .inr fresh=>e= .returned (.tuple #[.int .i64 (fresh.length:Int),.nilIface])/\∃R',RepOwn B w' c' br by_ R'/\∀x,x∈aX R'↔x∈aX R++fresh)
theorem li (R:Rws) {i:Nat} (hi:i<4):(R i).length<=(aX R).length:=by
 have h4:i=0\/i=1\/i=2\/i=3:=zj
 unfold aX
 rcases h4 with rfl | rfl | rfl | rfl<;>simp<;>omega
theorem pD (w:World) (c:Nat->Nat) (br:Nat) (by_:Int) (R:Rws) (la:Option Addr) (lc:Nat) (l:List OpX) (h:RepOwn B w c br by_ R) (hE:EnvE B ad w) (hin:OpsIn w la l) (hs:JM l) (hR1:(aX R).length<=250) (hl1:l.length<=1000) (hf1:∀F,cA (aX R) 0 [] l= .inr F->(aX R).length+F.length<=250):
  Calls Tryz.prog 35 #[.pointer (some ⟨br,0,none⟩),.slice la l.length lc] w (FD B ad w c br by_ R l):=by
 obtain ⟨T,kv,bt,bx,bc,A,hM0,hperm,hK,hb0,hb4⟩:=h.rep
 obtain ⟨ao,cap,hM⟩:=hM0.norm
 have hrl:∀i,i<4->(R i).length<=250:=fun i hi=>yk
 have k2:w.cell? ⟨br,2,none⟩=some (.slice (ao 0) (R 0).length (cap 0)):=hM.cell.c2
 have k3:w.cell? ⟨br,3,none⟩=some (.slice (ao 1) (R 1).length (cap 1)):=hM.cell.c3
 have k4:w.cell? ⟨br,4,none⟩=some (.slice (ao 2) (R 2).length (cap 2)):=hM.cell.c4
 have k5:w.cell? ⟨br,5,none⟩=some (.slice (ao 3) (R 3).length (cap 3)):=hM.cell.c5
 have hsift:=Iw w ao cap R la lc l hE.op4 hE.c6 (KnownAt.of_rows hM.rows) hK.num (fun i hi=>by have:=hrl i hi;omega) hin hs zj
 unfold kV at hsift
 have H0:Aside (RepMid w c br T by_ (kvs ao cap R) bt bx bc R A/\A.Perm (aX R)/\RowsK R/\RepOwn B w c br by_ R/\EnvE B ad w/\0<=by_/\by_<4):=⟨hM,hperm,hK,h,hE,hb0,hb4⟩
 have HF1:Aside (∀F,cA (aX R) 0 [] l= .inr F->(aX R).length+F.length<=250):=hf1
 clear hM hM0 hperm hK h hE hin hs hf1
 go_enter Tryz.func35,Tryz.ntmps35
 go_wp2_with fail
 refine hsift.mono ?_
 clear hsift
 rintro e w1 ⟨hso,hb1⟩
 cases hsf:cA (aX R) 0 [] l with
 | inl ic=>
  obtain ⟨i,cd⟩:=ic
  rw [hsf] at hso
  obtain ⟨v,rfl,blk,rfl,hblk⟩:=hso
  have HF:Aside (cA (aX R) 0 [] l= .inl (i,cd)/\Below w.heap.size w w1/\w1.heap[blk]? =some (.cells #[.int .i64 (i:Int),eV ad cd] 75 (0,0))):=⟨hsf,hb1,hblk⟩
  clear hsf hb1 hblk
  go_wp2
  go_ret2
  refine ⟨.inl ((i:Int),cd),c,?_,Acts.of_below c HF.o.2.1,H0.o.2.2.2.1.later HF.o.2.1,_,rfl,.inr ⟨Int.natCast_nonneg _,blk,rfl,HF.o.2.2⟩⟩
  unfold cX
  rw [HF.o.1]
 | inr fresh=>
  rw [hsf] at hso
  obtain ⟨v,rfl,hrow⟩:=hso
  obtain ⟨fa,fc,rfl⟩:=dV hrow
  obtain ⟨g1,g2,g3,g4,g5⟩:=co (dK _) hsf
  have hn:(aX R).length+fresh.length<=250:=HF1.o fresh hsf
  have hfl:fresh.length<=l.length:=by simpa using g5
  have hops:OpsIn w1 fa fresh:=by
   rcases iw hrow with ⟨_,q⟩ | ⟨b,o,cp,q1,q2⟩
   ·exact .inl q
   exact kj1
  have hM1:=H0.o.1.later hb1
  have H1:Aside (cA (aX R) 0 [] l= .inr fresh/\Below w.heap.size w w1/\FreshK (aX R) fresh/\w1.ownsRow w.heap.size 61 8 (.slice fa fresh.length fc) fresh.length (cellsOf fresh)/\RepMid w1 c br T by_ (kvs ao cap R) bt bx bc R A/\EnvE B ad w1):=⟨hsf,hb1,g1,hrow,hM1,H0.o.2.2.2.2.1.later hb1⟩
  have hwith:=IA w1 c ao cap R fa fc fresh H1.o.2.2.2.2.2 H0.o.2.2.2.1.low hM1.rows hops g1.ok (fun k hk=>H0.o.2.2.2.1.high k (jM hb1.size hk)) zj (fun i hi=>by have:=hrl i hi;omega)
  have k2':w1.cell? ⟨br,2,none⟩=some (.slice (ao 0) (R 0).length (cap 0)):=hM1.cell.c2
  have k3':w1.cell? ⟨br,3,none⟩=some (.slice (ao 1) (R 1).length (cap 1)):=hM1.cell.c3
  have k4':w1.cell? ⟨br,4,none⟩=some (.slice (ao 2) (R 2).length (cap 2)):=hM1.cell.c4
  have k5':w1.cell? ⟨br,5,none⟩=some (.slice (ao 3) (R 3).length (cap 3)):=hM1.cell.c5
  unfold kV at hwith
  clear hsf hrow g1 g2 g3 g4 g5 hops hM1 k2 k3 k4 k5 hb1
  go_wp2_with fail
  refine hwith.mono ?_
  clear hwith k2' k3' k4' k5'
  rintro e w2 ⟨F,hFp,hFs,c2,hk2,hhue2,hold2,hout⟩
  have hgo:=rj F R true H0.o.2.2.1.num (H1.o.2.2.1.perm hFp) hFs (by simp [H0.o.2.2.1.nofall])
  have hmemF:∀x,x∈aX R++F↔x∈aX R++fresh:=fun x=>by simp only [jO,hFp.mem_iff]
  have hM2:RepMid w2 c2 br T by_ (kvs ao cap R) bt bx bc R A:=by
   have hm:=H1.o.2.2.2.2.1
   have kp:∀j,j≠0->¬(10<=j/\j<14)->oT c j w1 c2 w2:=fun j _ hj=>⟨fun k hk e=>hk2.block k hk (fun q=>hj (by rw [<-e];exact q)),hhue2⟩
   exact ⟨hm.cell.same ((kp 1 zj zj).block _ hm.cell.lt hm.hue),(hhue2 _ hm.cell.lt).trans hm.hue,hold2,hm.tree.kept (kp 2 zj zj),hm.text.kept (kp 3 zj zj) (fun nd _=>kp _ zY zY),hm.marks.kept (kp 4 zj zj),hm.time⟩
  have H2:Aside (RepMid w2 c2 br T by_ (kvs ao cap R) bt bx bc R A/\Keeps (fun k=>c k≠0) w w2/\(∀k,k<w.heap.size->c2 k=c k)/\EnvE B ad w2/\(∀x,x∈aX R++F↔x∈aX R++fresh)/\F.Perm fresh/\OpsIn w2 fa fresh/\(∀a,fa=some a->w.heap.size<=a.block\/fresh= [])):=by
   have hrow2:=H1.o.2.2.2.1
   have hfa:∀g,(Value.slice fa fresh.length fc).ownBlock=some g->c g=0:=fun g hg=>H0.o.2.2.2.1.high g (hrow2.lt g hg).1
   have hkw:Keeps (fun k=>c k≠0) w w2:=((aV H1.o.2.1).mono (fun k hk e=>absurd hk zj)).then hk2 (fun k _ e=>zj)
   refine ⟨hM2,hkw,fun k hk=>hhue2 k (jW hk H1.o.2.1.size),H0.o.2.2.2.2.1.mono (hkw.below H0.o.2.2.2.2.1.size (fun k e=>H0.o.2.2.2.1.low k e)),hmemF,hFp,?_,?_⟩
   ·rcases iw (cg hrow2 (fun g hg=>hk2.block g (hrow2.lt g hg).2 (fun q=>by have:=hfa g hg;omega))) with ⟨_,q⟩ | ⟨b,o,cp,q1,q2⟩
    ·exact .inl q
    exact kj1
   intro a ha
   rcases hrow2.2 with ⟨_,q⟩ | ⟨g,cp,cur,q1,q2,_⟩
   ·exact .inr (ve.1 q)
   have:=(Value.slice.inj q1).1
   rw [ha] at this
   cases this
   exact .inl q2
  have KC:Aside (∀w3,Below w2.heap.size w2 w3->∃c',Acts w c w3 c'/\RepOwn B w3 c' br by_ R):=fun w3 hb3=>Ej (H2.o.1.later hb3) H0.o.2.1 H0.o.2.2.1 H0.o.2.2.2.2.2 (H2.o.2.1.then (aV hb3) (fun k hk e=>by have:=H2.o.2.1.size;omega)) H2.o.2.2.1 H0.o.2.2.2.1.low H0.o.2.2.2.2.1.size
  clear hk2 hhue2 hold2 hM2 hmemF
  rcases hgo with ⟨hnone,hgap⟩ | ⟨R',z',hsome,hngap,hN',hmem',hz',hlen',hext'⟩
  ·rw [hnone] at hout
   subst hout
   have HG:Aside (Gap (aX R++fresh)):=hgap.congr H2.o.2.2.2.2.1
   have ev:eV ad 9= .iface 450 (.pointer (some (ad 8))):=rfl
   rw [ev]
   clear hnone hgap ev
   go_wp2
   go_ret2
   obtain ⟨c',a1,a2⟩:=KC.o _ (zh w2 _)
   refine ⟨.inl (-1,9),c',?_,a1,a2,_,rfl,.inl ⟨rfl,rfl,zo⟩⟩
   unfold cX
   rw [H1.o.1]
   exact .inl ⟨HG.o,rfl⟩
  cases z' with
  | false=>
   rw [hsome] at hout
   have hout:e= .returned (.tuple #[.agg #[.slice none 0 0,.slice none 0 0,.slice none 0 0,.slice none 0 0],eV ad 3]):=hout
   subst hout
   have HG:Aside (¬Gap (aX R++fresh)/\Falls (aX R++fresh)):=⟨fun q=>hngap (q.congr (fun x=>(H2.o.2.2.2.2.1 x).symm)),by
    refine Classical.byContradiction (fun q=> ?_)
    have:=hz'.2 (fun k=>q (k.congr H2.o.2.2.2.2.1))
    cases this⟩
   have ev:eV ad 3= .iface 450 (.pointer (some (ad 2))):=rfl
   rw [ev]
   clear hsome hngap ev hN' hmem' hz' hlen' hext'
   go_wp2
   go_ret2
   obtain ⟨c',a1,a2⟩:=KC.o _ (zh w2 _)
   refine ⟨.inl (-1,3),c',?_,a1,a2,_,rfl,.inl ⟨rfl,rfl,zo⟩⟩
   unfold cX
   rw [H1.o.1]
   exact .inr (.inl ⟨HG.o.1,HG.o.2,rfl⟩)
  | true=>
   rw [hsome] at hout
   obtain ⟨ao',cap',rfl,hnew⟩:=hout
   have hNF:¬Falls (aX R++fresh):=fun q=>(hz'.1 rfl) (q.congr (fun x=>(H2.o.2.2.2.2.1 x).symm))
   have hNG:¬Gap (aX R++fresh):=fun q=>hngap (q.congr (fun x=>(H2.o.2.2.2.2.1 x).symm))
   have hmem:∀x,x∈aX R'↔x∈aX R++fresh:=fun x=>(hmem' x).trans (H2.o.2.2.2.2.1 x)
   have hRN:RowsN R':=⟨hN',fun x hx y hy e1 e2=>Classical.byContradiction (fun q=>hNF ⟨x,(hmem x).1 hx,y,(hmem y).1 hy,e1,e2,q⟩)⟩
   have hl':(aX R').length<=250:=by have:=H2.o.2.2.2.2.2.1.length_eq;omega
   have hrl':∀i,i<4->(R' i).length<=1000:=fun i hi=>by have:=li R' hi;omega
   have hokF:∀x∈F,bY x=0:=fun x hx=>H1.o.2.2.1.ok x (H2.o.2.2.2.2.2.1.mem_iff.1 hx)
   have hpm:(aX R').Perm (aX R++fresh):=(mN F R true R' true hokF hsome).trans (H2.o.2.2.2.2.2.1.append_left _)
   obtain ⟨U,hU⟩:=za (w2.alloc (.cells #[.slice (ao' 0) (R' 0).length (cap' 0),.slice (ao' 1) (R' 1).length (cap' 1),.slice (ao' 2) (R' 2).length (cap' 2),.slice (ao' 3) (R' 3).length (cap' 3)] 112))
   have hbU:Below w2.heap.size w2 U:=by rw [hU];exact zh w2 _
   obtain ⟨Q,hQ⟩:=za w2.heap.size
   have hkb:KBox U Q ao' cap' R':=by rw [hU,hQ];exact KBox.new w2 ao' cap' R'
   have hnU:RowsAt U c2 (kvs ao' cap' R') R':=hnew.kept (fun i _=>⟨fun k hk _=>hbU.block k hk,fun _ _=>rfl⟩)
   obtain ⟨zb,hzb⟩:∃zb:Bool,zb=true↔∀x∈fresh,RefOk (aX R') x:=⟨@decide _ (Classical.propDecidable _),@decide_eq_true_iff _ (Classical.propDecidable _)⟩
   have hbears:=ru U ao' cap' R' fa fc fresh (H2.o.2.2.2.2.2.2.1.later hbU) (fun x hx=>(hmem x).2 (vB _ hx)) zb hzb ((H2.o.2.2.2.1.later hbU).op4) (KnownAt.of_rows hnU) hRN hrl' zj
   have H3:Aside (RepMid U c2 br T by_ (kvs ao cap R) bt bx bc R A/\RowsAt U c2 (kvs ao' cap' R') R'/\RowsN R'/\(∀x,x∈aX R'↔x∈aX R++fresh)/\(aX R').Perm (aX R++fresh)/\¬Gap (aX R++fresh)/\¬Falls (aX R++fresh)/\(zb=true↔∀x∈fresh,RefOk (aX R') x)/\Below w2.heap.size w2 U/\KBox U Q ao' cap' R'/\Q=w2.heap.size):=⟨H2.o.1.later hbU,hnU,hRN,hmem,hpm,hNG,hNF,hzb,hbU,hkb,hQ⟩
   have HU:Aside (U=w2.alloc (.cells #[.slice (ao' 0) (R' 0).length (cap' 0),.slice (ao' 1) (R' 1).length (cap' 1),.slice (ao' 2) (R' 2).length (cap' 2),.slice (ao' 3) (R' 3).length (cap' 3)] 112)/\Q=w2.heap.size):=⟨hU,hQ⟩
   have k0:=hkb.at (i:=0) zj
   have k1:=hkb.at (i:=1) zj
   have k2:=hkb.at (i:=2) zj
   have k3:=hkb.at (i:=3) zj
   unfold kV at hbears |-
   clear hnew hNF hNG hRN hpm hokF hU hQ hbU hkb hnU hzb hsome hngap hN' hmem' hz' hlen' hext' hmem
   go_upto_region 7 with fail
   rw [<-HU.o.1,<-HU.o.2]
   go_wp2_with fail
   refine hbears.mono ?_
   clear hbears
   rintro e w3 ⟨rfl,hb3⟩
   have hM3:=H3.o.1.later hb3
   have hkb3:=H3.o.2.2.2.2.2.2.2.2.2.1.later hb3
   have E3:=(H2.o.2.2.2.1.later H3.o.2.2.2.2.2.2.2.2.1).later hb3
   have H4:Aside (RepMid w3 c2 br T by_ (kvs ao cap R) bt bx bc R A/\RowsAt w3 c2 (kvs ao' cap' R') R'/\Below w2.heap.size w2 w3/\KBox w3 Q ao' cap' R'/\EnvE B ad w3):=⟨hM3,H3.o.2.1.kept (fun i _=>⟨fun k hk _=>hb3.block k hk,fun _ _=>rfl⟩),zi H3.o.2.2.2.2.2.2.2.2.1 hb3,hkb3,E3⟩
   clear k0 k1 k2 k3
   cases zb with
   | false=>
    have eg:=E3.c5
    have HN:Aside (∃x∈aX R++fresh,¬RefOk (aX R++fresh) x):=by
     refine Classical.byContradiction (fun q=> ?_)
     have:=H3.o.2.2.2.2.2.2.2.1.2 (fun x hx=>Classical.byContradiction (fun k=>q ⟨x,vB _ hx,fun k'=>k (k'.mono (fun y hy=>(H3.o.2.2.2.1 y).2 hy))⟩))
     cases this
    clear hM3 hkb3 E3 hb3
    go_wp2_with fail
    go_quiet (fail)
    go_wp2
    go_ret2
    obtain ⟨c',a1,a2⟩:=KC.o _ (Go.below_drewN H4.o.2.2.1 _)
    refine ⟨.inl (-1,6),c',?_,a1,a2,_,rfl,.inl ⟨rfl,rfl,zo⟩⟩
    unfold cX
    rw [H1.o.1]
    exact .inr (.inr (.inl ⟨H3.o.2.2.2.2.2.1,H3.o.2.2.2.2.2.2.1,HN.o,rfl⟩))
   | true=>
    have hall:∀x∈fresh,RefOk (aX R') x:=H3.o.2.2.2.2.2.2.2.1.1 rfl
    have hRN:=H3.o.2.2.1
    have hmem:=H3.o.2.2.2.1
    have hW:WellK (aX R'):=⟨hRN.num.ok,hRN.num.one,hRN.num.gap,hRN.up,fun x hx=>by
     rcases jO.1 ((hmem x).1 hx) with q | q
     ·exact (H0.o.2.2.1.well.refs x q).mono (fun y hy=>(hmem y).2 (vg _ hy))
     ·exact hall x q⟩
    have HW:Aside (RowsK R'):=⟨hRN.num,hW⟩
    have dn:decide ((400:Int)<((aX R').length:Int))=false:=zl
    have dn':decide (400<(aX R').length)=false:=zl
    have hcount:=mT w3 ao' cap' R' hrl'
    unfold kV at hcount
    have k0:=hkb3.at (i:=0) zj
    have k1:=hkb3.at (i:=1) zj
    have k2:=hkb3.at (i:=2) zj
    have k3:=hkb3.at (i:=3) zj
    clear hM3 hkb3 E3 hall hRN hmem hW hb3
    go_wp2_with fail
    refine hcount.mono ?_
    clear hcount k0 k1 k2 k3
    rintro e w4 ⟨rfl,hb4'⟩
    have hM4:=H4.o.1.later hb4'
    have hkb4:=H4.o.2.2.2.1.later hb4'
    have k0:=hkb4.at (i:=0) zj
    have k1:=hkb4.at (i:=1) zj
    have k2:=hkb4.at (i:=2) zj
    have k3:=hkb4.at (i:=3) zj
    have q2:=hM4.cell.c2
    have q3:=hM4.cell.c3
    have q4:=hM4.cell.c4
    have q5:=hM4.cell.c5
    have qf:=hM4.cell.fz
    obtain ⟨w5,hw5⟩:=za ((((w4.setCell ⟨br,2,none⟩ (.slice (ao' 0) (R' 0).length (cap' 0))).setCell ⟨br,3,none⟩ (.slice (ao' 1) (R' 1).length (cap' 1))).setCell ⟨br,4,none⟩ (.slice (ao' 2) (R' 2).length (cap' 2))).setCell ⟨br,5,none⟩ (.slice (ao' 3) (R' 3).length (cap' 3)))
    have hk5:Keeps (fun k=>k=br) w4 w5:=by rw [hw5];exact aY br [.slice (ao' 0) (R' 0).length (cap' 0),.slice (ao' 1) (R' 1).length (cap' 1),.slice (ao' 2) (R' 2).length (cap' 2),.slice (ao' 3) (R' 3).length (cap' 3)] 2 w4
    have hp5:RepPart w5 c2 br T by_ (kvs ao' cap' R') bt bx bc R' A:=by
     have kp:∀i,i≠1->oT c2 i w4 c2 w5:=fun i hi=>⟨fun k hk e=>hk5.block k hk (fun q=>by have q':k=br:=q;rw [q',hM4.hue] at e;omega),fun _ _=>rfl⟩
     have hr4:RowsAt w4 c2 (kvs ao' cap' R') R':=H4.o.2.1.kept (fun i _=>⟨fun k hk _=>hb4'.block k hk,fun _ _=>rfl⟩)
     refine ⟨?_,hM4.hue,hr4.kept (fun i _=>kp _ zj),hM4.tree.kept (kp 2 zj),hM4.text.kept (kp 3 zj) (fun nd _=>kp _ zY),hM4.marks.kept (kp 4 zj)⟩
     have hh:=ag br [.slice (ao' 0) (R' 0).length (cap' 0),.slice (ao' 1) (R' 1).length (cap' 1),.slice (ao' 2) (R' 2).length (cap' 2),.slice (ao' 3) (R' 3).length (cap' 3)] 2 w4 _ _ hM4.cell
     unfold RepCell
     rw [hw5]
     refine Eq.trans hh ?_
     simp [Ca,kvs]
    have hkw5:Keeps (fun k=>c k≠0) w w5:=((H2.o.2.1.then (aV H4.o.2.2.1) (fun k hk e=>by have:=H2.o.2.1.size;omega)).then (aV hb4') (fun k hk e=>by have:=H2.o.2.1.size;have:=H4.o.2.2.1.size;omega)).then hk5 (fun k hk e=>by have e':k=br:=e;have:=H2.o.2.2.1 k hk;rw [e'] at this |-;rw [<-this,H2.o.1.hue];decide)
    have hops5:OpsIn w5 fa fresh:=by
     have ho:=(H2.o.2.2.2.2.2.2.1.later H4.o.2.2.1).later hb4'
     rcases ho with q | ⟨bb,oo,e1,e2⟩
     ·exact .inl q
     refine .inr ⟨bb,oo,e1,fun j u hj=> ?_⟩
     have hcell:=e2 j u hj
     have hbl:=jR w4 ⟨bb,oo+j,none⟩ hcell
     rw [vi (a:=⟨bb,oo+j,none⟩) (hk5.block bb hbl (fun q=>by
      have q':bb=br:=q
      rcases H2.o.2.2.2.2.2.2.2 _ e1 with q2 | q2
      ·have:=H0.o.1.cell.lt;dsimp only at q2;omega
      ·rw [q2] at hj;simp [cellsOf] at hj))]
     exact hcell
    have H5:Aside (RepPart w5 c2 br T by_ (kvs ao' cap' R') bt bx bc R' A/\Keeps (fun k=>c k≠0) w w5/\OpsIn w5 fa fresh/\EnvE B ad w5):=⟨hp5,hkw5,hops5,H0.o.2.2.2.2.1.mono (hkw5.below H0.o.2.2.2.2.1.size (fun k e=>H0.o.2.2.2.1.low k e))⟩
    have HW5:Aside (w5=(((w4.setCell ⟨br,2,none⟩ (.slice (ao' 0) (R' 0).length (cap' 0))).setCell ⟨br,3,none⟩ (.slice (ao' 1) (R' 1).length (cap' 1))).setCell ⟨br,4,none⟩ (.slice (ao' 2) (R' 2).length (cap' 2))).setCell ⟨br,5,none⟩ (.slice (ao' 3) (R' 3).length (cap' 3))):=hw5
    have hsort:=nG w5 (.slice fa fresh.length fc) fresh (by
     rcases H1.o.2.2.2.1.2 with ⟨e1,e2⟩ | ⟨g,cp,cur,e1,_⟩
     ·exact .inl ⟨e1,ve.1 e2⟩
     ·rcases hops5 with q | ⟨bb,oo,e4,e5⟩
      ·exact .inr ⟨g,0,fc,by rw [(Value.slice.inj e1).1],fun j u hj=>by rw [q] at hj;simp [cellsOf] at hj⟩
      ·exact .inr ⟨bb,oo,fc,by rw [e4],e5⟩) zj
    clear hw5 hk5 hp5 hkw5 hops5 hM4 hkb4 hb4'
    go_upto_region 12 with fail
    rw [<-HW5.o]
    clear q2 q3 q4 q5 qf k0 k1 k2 k3
    go_wp2_with fail
    refine hsort.mono ?_
    clear hsort
    rintro e w6 ⟨v6,ys,rfl,hy6,hst,hb6,hnew6⟩
    obtain ⟨va,vc,rfl,hin6⟩:∃va vc,v6= .slice va ys.length vc/\OpsIn w6 va ys:=by
     rcases hy6 with ⟨rfl,rfl⟩ | ⟨bb,oo,cp,rfl,e2⟩
     ·exact ⟨none,0,rfl,.inl rfl⟩
     exact ⟨_,_,rfl,.inr ⟨bb,oo,rfl,e2⟩⟩
    obtain ⟨hyp,hys⟩:=bG hst
    have hmem:=H3.o.2.2.2.1
    have hmy:∀x∈ys,x∈aX R':=fun x hx=>(hmem x).2 (vB _ (hyp.mem_iff.1 hx))
    have hyc:ys.Pairwise (fun a b=>CLt (stO a) (stO b)):=AV hys (rM H3.o.2.2.1 hmy (H1.o.2.2.1.perm hyp).one)
    have hylen:ys.length=fresh.length:=hyp.length_eq
    obtain ⟨c6,hc6⟩:=za (rH w w5 c c2)
    have hsz56:=hb6.size
    have hszw:=H5.o.2.1.size
    have H6:Aside (RepPart w6 c6 br T by_ (kvs ao' cap' R') bt bx bc R' A/\Acts w c w6 c6/\(∀k,c6 k≠0->B<=k)/\(∀k,w6.heap.size<=k->c6 k=0)/\OpsIn w6 va ys/\(∀a,va=some a->c6 a.block=0)/\(∀k o,ys[k]? =some o->StepOk (aX R++ys.take k) o)/\ys.Perm fresh/\cD A T):=by
     have hz5:∀k,w5.heap.size<=k->c6 k=0:=fun k hk=>by
      rw [hc6]
      unfold rH
      exact kh5
     refine ⟨(H5.o.1.kept (fun i _=>⟨fun _ _ _=>rfl,fun k hk=>by rw [hc6];exact wm H2.o.2.2.1 hk⟩)).later hb6,⟨H5.o.2.1.then (aV hb6) (fun k hk e=>zj),fun k hk=>by rw [hc6];exact if_pos hk⟩,fun k q=> ?_,fun k hk=>hz5 k zj,hin6,fun a ha=> ?_,fun k o hko=> ?_,hyp,H0.o.1.time⟩
     ·rw [hc6] at q
      unfold rH at q
      by_cases e:k<w.heap.size
      ·rw [if_pos e] at q;exact H0.o.2.2.2.1.low k q
      have:=H0.o.2.2.2.2.1.size;omega
     ·rw [ha] at hnew6
      exact hz5 _ (hnew6 a.block rfl)
     refine tI HW.o.well (fun x=> ?_) H0.o.2.2.1.well.refs hyc (fun x hx hx'=> ?_) hko
     ·rw [hmem x,jO]
      exact ⟨fun q=>q.imp id (fun q=>hyp.mem_iff.2 q),fun q=>q.imp id (fun q=>hyp.mem_iff.1 q)⟩
     exact H1.o.2.2.1.off x (hyp.mem_iff.1 hx) x hx' ⟨rfl,rfl⟩
    have hAl:A.length+ys.length<=250:=by have:=H0.o.2.1.length_eq;omega
    clear hy6 hst hb6 hnew6 hin6 hyp hys hmem hmy hyc hc6 hsz56 hszw
    go_wp2
    go_loopg [51] ys.length (fun kx s51 wr=>∃(k:Nat) (TT:Int) (cc:Nat->Nat),s51= .int .i64 (k:Int)/\k<=ys.length/\ys.length - k<=kx/\Aside (RepPart wr cc br TT by_ (kvs ao' cap' R') bt bx bc R' ((ys.take k).reverse++A)/\cD ((ys.take k).reverse++A) TT/\Acts w c wr cc/\(∀k,cc k≠0->B<=k)/\(∀k,wr.heap.size<=k->cc k=0)/\OpsIn wr va ys/\(∀a,va=some a->cc a.block=0)))
    case atStart=>exact ⟨0,T,c6,rfl,jX _,jL _,by simpa using H6.o.1,by simpa using H6.o.2.2.2.2.2.2.2.2,H6.o.2.1,H6.o.2.2.1,H6.o.2.2.2.1,H6.o.2.2.2.2.1,H6.o.2.2.2.2.2.1⟩
    case round=>
     obtain ⟨k,TT,cc,rfl,hkl,hkx,L⟩:=hrel
     by_cases hlt:k<ys.length
     ·have d1:decide ((k:Int)<(ys.length:Int))=true:=by simp;omega
      have wk:((k:Int)).toNat=k:=zj
      have pk:(0:Int)<=(k:Int):=zj
      have bk:(k:Int)<(ys.length:Int):=zj
      obtain ⟨⟨t,b,n,kd,nd,o,s,v⟩,hx⟩:∃x,Aside (ys[k]? =some x):=⟨ys[k],jK hlt⟩
      have hstep0:=H6.o.2.2.2.2.2.2.1 k _ hx.o
      have hpA:(aX R++ys.take k).Perm ((ys.take k).reverse++A):=(um).trans (((List.reverse_perm _).symm.append_right _).trans (H0.o.2.1.symm.append_left _))
      have hstep:=hstep0.perm hpA
      obtain ⟨blk,off,hao,hc⟩:=L.o.2.2.2.2.2.1.get hx.o
      subst hao
      have r0:=hc 0 _ rfl
      have r1:=hc 1 _ rfl
      have r2:=hc 2 _ rfl
      have r3:=hc 3 _ rfl
      have r4:=hc 4 _ rfl
      have r5:=hc 5 _ rfl
      have r6:=hc 6 _ rfl
      have r7:=hc 7 _ rfl
      simp only [vI] at r0
      clear hc
      have hbU:∀ob,Below wr.heap.size wr (wr.alloc ob):=fun ob=>(jN _ wr).alloc zg ob
      have Ewr:=H0.o.2.2.2.2.1.mono (L.o.2.2.1.keeps.below H0.o.2.2.2.2.1.size (fun k e=>H0.o.2.2.2.1.low k e))
      have happ:=Dr (wr.alloc (.cells #[.int .i64 t,.int .i64 b,.int .i64 n,.int .u8 (kd:Int),.int .i64 nd,.int .i64 o,.string s,.string v] 61)) cc br TT by_ (kvs ao' cap' R') bt bx bc R' ((ys.take k).reverse++A) (t,b,n,kd,nd,o,s,v) (L.o.1.later (hbU _)) hstep (Ewr.later (hbU _)) L.o.2.2.2.1 (fun q hq=>L.o.2.2.2.2.1 q (by simp at hq;omega)) zl
      have ht1:1<=t:=(gj hstep.ok).1
      unfold ar at happ
      dsimp only at happ
      have HTK:Aside ((ys.take (k+1)).reverse=(t,b,n,kd,nd,o,s,v)::(ys.take k).reverse):=by
       show (ys.take (k+1)).reverse=_
       rw [vV,hx.o]
       simp
      clear hstep0 hstep hpA Ewr
      go_wp2_with fail
      refine happ.mono ?_
      clear happ r0 r1 r2 r3 r4 r5 r6 r7
      rintro e w7 ⟨⟨u,rfl⟩,c7,p1,p2,p3,p4⟩
      have LN:Aside (RepPart w7 c7 br (if TT<t then t else TT) by_ (kvs ao' cap' R') bt bx bc R' ((ys.take (k+1)).reverse++A)/\cD ((ys.take (k+1)).reverse++A) (if TT<t then t else TT)/\Acts w c w7 c7/\(∀k,c7 k≠0->B<=k)/\(∀k,w7.heap.size<=k->c7 k=0)/\OpsIn w7 (some ⟨blk,off,none⟩) ys/\(∀a,some (⟨blk,off,none⟩:Addr)=some a->c7 a.block=0)):=by
       have hbk:blk<wr.heap.size:=by
        obtain ⟨b2,o2,e2,hc2⟩:=L.o.2.2.2.2.2.1.get hx.o
        cases e2
        exact jR wr ⟨blk,off+k*8+0,none⟩ (hc2 0 _ rfl)
       have hc0:cc blk=0:=L.o.2.2.2.2.2.2 _ rfl
       refine ⟨by rw [HTK.o];exact p1,by rw [HTK.o];exact CR L.o.2.1 _ ht1,(L.o.2.2.1.trans (Acts.of_below cc (hbU _))).trans p2,p3,p4,?_,fun a ha=> ?_⟩
       ·rcases L.o.2.2.2.2.2.1.later (hbU _) with q | ⟨bb,oo,e1,e2⟩
        ·exact .inl q
        cases e1
        refine .inr ⟨blk,off,rfl,fun j u hj=> ?_⟩
        rw [vi (a:=⟨blk,off+j,none⟩) (p2.keeps.block blk zl (fun q=>q hc0))]
        exact e2 j u hj
       cases ha
       rw [p2.hue blk zl]
       exact hc0
      clear p1 p2 p3 p4
      go_wp2
      go_roundg (ys.length - (k+1))
      case measure=>omega
      case rel=>exact ⟨k+1,_,c7,zI,zj,jL _,LN.o⟩
     have d1:decide ((k:Int)<(ys.length:Int))=false:=zl
     obtain rfl:k=ys.length:=zj
     go_wp2
     go_ret2
     refine ⟨.inr fresh,cc,?_,L.o.2.2.1,rfl,R',⟨⟨TT,_,bt,bx,bc,_,⟨L.o.1.cell,L.o.1.hue,L.o.1.rows,L.o.1.tree,L.o.1.text,L.o.1.marks,L.o.2.1⟩,?_,HW.o,H0.o.2.2.2.2.2⟩,L.o.2.2.2.1,L.o.2.2.2.2.1⟩,H3.o.2.2.2.1⟩
     ·unfold cX
      rw [H1.o.1]
      refine .inr (.inr (.inr (.inr ⟨HW.o.well.congr H3.o.2.2.2.1,zj,rfl⟩)))
     rw [ul]
     refine ((List.reverse_perm ys).append_right A).trans (um.trans ?_)
     exact ((H0.o.2.1.append_right ys).trans (H6.o.2.2.2.2.2.2.2.1.append_left _)).trans H3.o.2.2.2.2.1.symm
theorem JQ (w:World) (c:Nat->Nat) (br:Nat) (by_:Int) (R:Rws) (la:Option Addr) (lc:Nat) (l:List OpX) (h:RepOwn B w c br by_ R) (hE:EnvE B ad w) (hin:OpsIn w la l) (hs:JM l) (hn:(aX R).length+l.length<=250):
  Calls Tryz.prog 35 #[.pointer (some ⟨br,0,none⟩),.slice la l.length lc] w (FD B ad w c br by_ R l):=
 pD w c br by_ R la lc l h hE hin hs zj zj (fun F hF=>by have:=(co (dK _) hF).2.2.2.2;simp at this;omega)
end Go.Proofs.YtebpcnkdhgnghaaGreatDoor
end
section
namespace Go.Proofs.YtebpcnkdhgnghaaGreatDoor
open Go.RowKit
variable {b:Nat} {W:World}
theorem oc (W:World) (hb:b<=W.heap.size):∃w0:World,w0.heap.size=b:=⟨{W with heap:=W.heap.extract 0 b},zl⟩
theorem Gh (h:W.heap[b]? =some (.map #[] 0)):TMapAt W b 0 noT:=by
 obtain ⟨w0,rfl⟩:=oc W (uQ (jJ.1 h).1)
 exact (sy w0).same (h.trans (heap_alloc_new w0 _).symm)
theorem JP (h:W.heap[b]? =some (.map #[] 0)):CMapAt W b 0 noC:=by
 obtain ⟨w0,rfl⟩:=oc W (uQ (jJ.1 h).1)
 exact (sg w0).same (h.trans (heap_alloc_new w0 _).symm)
theorem LI (h:W.heap[b]? =some (.map #[] 0)):MapAt Tryz.prog 3 W b 0 pU:=by
 obtain ⟨w0,rfl⟩:=oc W (uQ (jJ.1 h).1)
 exact (CF w0).same (h.trans (heap_alloc_new w0 _).symm)
def dy (bt bm bx bc cm br:Nat):Nat->Nat:=fun k=>if k=br then 1 else if k=bt\/k=bm then 2 else if k=bx then 3 else if k=bc\/k=cm then 4 else 0
def JC (w:World) (by_:Int) (e:Ending) (w':World):Prop:=∃c br,e= .returned (.tuple #[.pointer (some ⟨br,0,none⟩),.nilIface])/\RepOwn w.heap.size w' c br by_ (fun _=>[])/\Below w.heap.size w w'
theorem mM {w:World} {b:Int} (h0:0<=b) (h4:b<4) (bt bm bx bc cm br:Nat) (hb:Below w.heap.size w W)
  (l1:w.heap.size<=bt) (l2:w.heap.size<=bm) (l3:w.heap.size<=bx) (l4:w.heap.size<=bc) (l5:w.heap.size<=cm) (l6:w.heap.size<=br)
  (d1:bt≠br) (d2:bm≠br) (d3:bx≠br/\bx≠bt/\bx≠bm) (d4:bc≠br/\bc≠bt/\bc≠bm/\bc≠bx) (d5:cm≠br/\cm≠bt/\cm≠bm/\cm≠bx)
  (e1:W.heap[bt]? =some (.cells #[.map (some bm),.slice none 0 0] 196 (0,0))) (e2:W.heap[bm]? =some (.map #[] 0)) (e3:W.heap[bx]? =some (.map #[] 0))
  (e4:W.heap[bc]? =some (.cells #[.map (some cm)] 218 (0,0))) (e5:W.heap[cm]? =some (.map #[] 0))
  (e6:W.heap[br]? =some (.cells #[.int .i64 0,.int .i64 b,.slice none 0 0,.slice none 0 0,.slice none 0 0,.slice none 0 0,.pointer (some ⟨bt,0,none⟩),.map (some bx),.pointer (some ⟨bc,0,none⟩)] 117 (0,0))):
  JC w b (.returned (.tuple #[.pointer (some ⟨br,0,none⟩),.nilIface])) W:=by
 have hlt:∀ {k:Nat} {o:Obj},W.heap[k]? =some o->k<W.heap.size:=fun h=>(jJ.1 h).1
 have u1:dy bt bm bx bc cm br br=1:=by unfold dy;simp
 have u2:dy bt bm bx bc cm br bt=2:=by unfold dy;simp [d1]
 have u3:dy bt bm bx bc cm br bm=2:=by unfold dy;simp [d2]
 have u4:dy bt bm bx bc cm br bx=3:=by unfold dy;simp [d3.1,d3.2.1,d3.2.2]
 have u5:dy bt bm bx bc cm br bc=4:=by unfold dy;simp [d4.1,d4.2.1,d4.2.2.1,d4.2.2.2]
 have u6:dy bt bm bx bc cm br cm=4:=by unfold dy;simp [d5.1,d5.2.1,d5.2.2.1,d5.2.2.2]
 refine ⟨dy bt bm bx bc cm br,br,rfl,⟨⟨0,fun _=>.slice none 0 0,bt,bx,bc,[],⟨e6,u1,?_,?_,?_,?_,DV⟩,by unfold aX;exact List.Perm.refl _,gp,h0,h4⟩,fun k hk=> ?_,fun k hk=> ?_⟩,hb⟩
 ·exact fun i hi=>⟨vD _ _ _ _,fun g hg=>qI⟩
 ·refine ⟨bm,.slice none 0 0,[],⟨e1,⟨[],Dc,vD _ _ _ _⟩,⟨0,zq,LI e2⟩,List.Pairwise.nil,fun m hm=>by simp at hm⟩,List.Perm.refl _,u2,u3,fun g hg=>qI⟩
 ·refine ⟨0,noT,jL _,Gh e3,u4,fun nd=>⟨fun h=>qS,fun ⟨x,hx,_⟩=>(by cases hx)⟩,fun nd p hp=>by cases hp⟩
 ·exact ⟨cm,[],⟨e4,JP e5⟩,List.Perm.refl _,u5,u6⟩
 ·by_cases q:k=br\/k=bt\/k=bm\/k=bx\/k=bc\/k=cm
  ·rcases q with rfl | rfl | rfl | rfl | rfl | rfl<;>assumption
  exact absurd (by unfold dy;simp only [not_or] at q;simp [q.1,q.2.1,q.2.2.1,q.2.2.2.1,q.2.2.2.2.1,q.2.2.2.2.2]) hk
 have:=hlt e1;have:=hlt e2;have:=hlt e3;have:=hlt e4;have:=hlt e5;have:=hlt e6
 unfold dy
 rw [if_neg zj,if_neg zj,if_neg zj,if_neg zj]
end Go.Proofs.YtebpcnkdhgnghaaGreatDoor
end
section
namespace Go.Proofs.YtebpcnkdhgnghaaGreatDoor
open Go.Proofs.Tryz
open Go.RowKit Go.Lib Go.Sort Go.Maps
theorem NF (pb:Nat) (b:Int) (w:World) (hb:w.cell? ⟨pb,1,none⟩=some (.int .i64 b)):
  Calls prog 311 #[.pointer (some ⟨pb,0,none⟩)] w fun e w'=>e= .returned (.int .i64 b)/\w'=w:=by
 go_enter func311,ntmps311
 exact ka9
theorem MR (w:World) (br:Nat) (T by_:Int) (kv:Nat->Value) (bt bx bc:Nat) (hc:RepCell w br T by_ kv bt bx bc):
  Calls prog 268 #[.pointer (some ⟨br,0,none⟩)] w fun e w'=>e= .returned (.int .i64 by_)/\w'=w:=by
 have h:=NF br by_ w hc.c1
 clear hc
 go_enter func268,ntmps268
 go_wp2_with fail
 refine h.mono ?_
 rintro e w' ⟨rfl,rfl⟩
 exact ka9
end Go.Proofs.YtebpcnkdhgnghaaGreatDoor
end
section
namespace Go.Proofs.YtebpcnkdhgnghaaGreatDoor
open Go
theorem plcB_iff {T:List OpX} {nd:Int} :CH T nd=true↔(nd=0\/nd=1\/KnownN T nd):=by
 unfold CH
 rw [Bool.or_eq_true,Bool.or_eq_true,decide_eq_true_eq,decide_eq_true_eq,knownB_iff]
end Go.Proofs.YtebpcnkdhgnghaaGreatDoor
end
section
namespace Go.Proofs.YtebpcnkdhgnghaaGreatDoor
open Go
variable {S:List OpX}
theorem lv (h:WellK S):¬Gap S:=fun ⟨x,hx,h1,h2⟩=>by
 rcases h.gap x hx with q | q
 ·exact h1 q
 exact h2 q
theorem kH (h:WellK S):¬Falls S:=fun ⟨x,hx,y,hy,e1,e2,e3⟩=>e3 (h.rise x hx y hy e1 e2)
theorem ig {l:List OpX} {a a':(Int×Nat)⊕List OpX} (h:cX S l a) (h':cX S l a'):a=a':=by
 unfold cX at h h'
 cases hs:cA S 0 [] l with
 | inl p=>
  obtain ⟨i,c⟩:=p
  rw [hs] at h h'
  exact h.trans h'.symm
 | inr fresh=>
  rw [hs] at h h'
  dsimp only at h h'
  rcases h with ⟨q1,rfl⟩ | ⟨q1,q2,rfl⟩ | ⟨q1,q2,q3,rfl⟩ | ⟨q1,q2,rfl⟩ | ⟨q1,q2,rfl⟩<;>rcases h' with ⟨r1,rfl⟩ | ⟨r1,r2,rfl⟩ | ⟨r1,r2,r3,rfl⟩ | ⟨r1,r2,rfl⟩ | ⟨r1,r2,rfl⟩
  all_goals first
   | rfl
   | exact absurd q1 r1
   | exact absurd r1 q1
   | exact absurd q2 r2
   | exact absurd r2 q2
   | exact absurd q1 (lv r1)
   | exact absurd r1 (lv q1)
   | exact absurd q2 (kH r1)
   | exact absurd r2 (kH q1)
   | (obtain ⟨x,hx,hn⟩:=q3;exact absurd (r1.refs x hx) hn)
   | (obtain ⟨x,hx,hn⟩:=r3;exact absurd (q1.refs x hx) hn)
   | omega
end Go.Proofs.YtebpcnkdhgnghaaGreatDoor
end
section
namespace Go.Proofs.YtebpcnkdhgnghaaGreatDoor
open Go
def OU (R:List OpX) (nd:Int) (i:Nat) (M:List Ltr):Prop:=LineIs (R.take i) nd (M.map bare)
end Go.Proofs.YtebpcnkdhgnghaaGreatDoor
end
section
namespace Go.Proofs.YtebpcnkdhgnghaaGreatDoor
open Go.Shelf Go.RowKit Go.Lib Go.Sort
theorem Ek {P:Program} (k:Nat) (L:STy P k) (hF:P.funcs[(20:Nat)]? =some Tryz.f20) (en:Nat->Array Value) (b off cap b' off' cap' n:Nat) (w:World)
  (l1:∀i q os,i<n->Sem.run P (loadCellsFrom ⟨b,off+i*k,none⟩ 0 k #[]) (grow (w.drewN q) os)= .ok (en i) (grow (w.drewN q) os))
  (l2:∀i q os,i<n->Sem.run P (loadCellsFrom ⟨b',off'+i*k,none⟩ 0 k #[]) (grow (w.drewN q) os)= .ok (en i) (grow (w.drewN q) os))
  (hE:(∀i w,(binOp .neq 61 (.agg (en i)) (.agg (en i))).run P w= .ok (.bool false) w)) (hGd:∀(op:BinOp) (a b:Operand) (x y:Array Value) (w:World),Sem.run P (eqGuard op 61 a b (.agg x) (.agg y)) w= .ok () w) (hn:n<4611686018427387904):
  Calls P 20 #[.slice (some ⟨b,off,none⟩) n cap,.slice (some ⟨b',off',none⟩) n cap'] w fun e w'=>e= .returned (.bool true)/\∃q os,w'=grow (w.drewN q) os:=by
 have mixed:=L.mixed;have t0:=L.t0;have a0:=L.a0;have z0:=L.z0;have v0:=L.v0;have t3:=L.t3;have a3:=L.a3;have z3:=L.z3;have v3:=L.v3;have t4:=L.t4;have a4:=L.a4;have z4:=L.z4;have v4:=L.v4;have tS:=L.tS;have aS:=L.aS;have zS:=L.zS;have vS:=L.vS;have tC:=L.tC;have aC:=L.aC;have zC:=L.zC;have vC:=L.vC;have tU:=L.tU;have aU:=L.aU;have zU:=L.zU;have vU:=L.vU;have aE:=L.aE;have zE:=L.zE
 have L1:Aside (∀i q os,i<n->Sem.run P (loadCellsFrom ⟨b,off+i*k,none⟩ 0 k #[]) (grow (w.drewN q) os)= .ok (en i) (grow (w.drewN q) os)):=l1
 have L2:Aside (∀i q os,i<n->Sem.run P (loadCellsFrom ⟨b',off'+i*k,none⟩ 0 k #[]) (grow (w.drewN q) os)= .ok (en i) (grow (w.drewN q) os)):=l2
 have HE:Aside (∀i w,(binOp .neq 61 (.agg (en i)) (.agg (en i))).run P w= .ok (.bool false) w):=hE
 clear l1 l2 hE
 go_enter hF,Tryz.ntmps20
 go_wp2
 go_loopg [5] n (fun kx s5 wr=>∃(i:Nat),s5= .int .i64 (i:Int)/\i<=n/\n - i<=kx/\Aside (∃q os,wr=grow (w.drewN q) os))
 case atStart=>exact ⟨0,rfl,jX _,jL _,⟨0,#[],by rw [grow_empty];rfl⟩⟩
 case round=>
  obtain ⟨i,rfl,hi,hkx,W⟩:=hrel
  by_cases hlt:i<n
  ·have hltz:decide ((i:Int)<(n:Int))=true:=by simp;omega
   have ex:((i:Int)).toNat=i:=zj
   have px:(0:Int)<=(i:Int):=zj
   have bx:(i:Int)<(n:Int):=zj
   have hG:∀q os,∃q' os',grow (wr.drewN q) os=grow (w.drewN q') os':=fun q os=>dF W.o ⟨q,os,rfl⟩
   have lx:∀q os,Sem.run P (loadCellsFrom ⟨b,off+i*k,none⟩ 0 k #[]) (grow (wr.drewN q) os)= .ok (en i) (grow (wr.drewN q) os):=fun q os=>by obtain ⟨q',os',e⟩:=hG q os;rw [e];exact L1.o i q' os' hlt
   have ly:∀q os,Sem.run P (loadCellsFrom ⟨b',off'+i*k,none⟩ 0 k #[]) (grow (wr.drewN q) os)= .ok (en i) (grow (wr.drewN q) os):=fun q os=>by obtain ⟨q',os',e⟩:=hG q os;rw [e];exact L2.o i q' os' hlt
   have hq:=fun w=>HE.o i w
   have HG:Aside (∀q os,∃q' os',grow (wr.drewN q) os=grow (w.drewN q') os'):=hG
   clear hG W
   go_wp2_with fail
   go_quiet_grown (fail)
   have W2:Aside (∃q os,grow (wr.drewN nq) osq=grow (w.drewN q) os):=HG.o nq osq
   clear lx ly hq HG
   generalize grow (wr.drewN nq) osq=w2 at W2 |-
   go_wp2
   go_roundg (n - (i+1))
   case measure=>omega
   case rel=>exact ⟨i+1,zI,zj,jL _,W2⟩
  have hltz:decide ((i:Int)<(n:Int))=false:=zl
  go_wp2
  go_ret
  exact ⟨rfl,W.o⟩
end Go.Proofs.YtebpcnkdhgnghaaGreatDoor
end
section
namespace Go.Proofs.YtebpcnkdhgnghaaGreatDoor
open Go.Proofs.Tryz
open Go.Shelf Go.RowKit Go.Lib Go.Sort
theorem IL (x:OpX) (w:World):(binOp .neq 61 (.agg (cN x).toArray) (.agg (cN x).toArray)).run prog w= .ok (.bool false) w:=by
 obtain ⟨t,b,n,k,node,other,name,value⟩:=x
 show Sem.run prog (binOp .neq 61 (.agg #[.int .i64 t,.int .i64 b,.int .i64 n,.int .u8 (k:Int),.int .i64 node,.int .i64 other,.string name,.string value]) (.agg #[.int .i64 t,.int .i64 b,.int .i64 n,.int .u8 (k:Int),.int .i64 node,.int .i64 other,.string name,.string value])) w=_
 go_simp
theorem Hg (op:BinOp) (a b:Operand) (x y:Array Value) (w:World):Sem.run prog (eqGuard op 61 a b (.agg x) (.agg y)) w= .ok () w:=run_eqGuard_agg w op 61 a b x y zk
theorem FJ {w:World} {b off:Nat} {xs:List OpX} (hc:∀j u,(cellsOf xs)[j]? =some u->w.cell? ⟨b,off+j,none⟩=some u) (i q:Nat) (os:Array Obj) (hi:i<xs.length):
  Sem.run prog (loadCellsFrom ⟨b,off+i*8,none⟩ 0 8 #[]) (grow (w.drewN q) os)= .ok (cN xs[i]!).toArray (grow (w.drewN q) os):=
 run_loadCellsFrom_list prog _ _ (cN xs[i]!) 8 (bO _) (fun c v hcv=>by
  have h8:c<8:=by have:=(jI.1 hcv).1;rwa [bO] at this
  have e:=bW xs i c hi h8
  have h1:=hc (i*8+c) v (by rw [e,<-hcv,jK qi,getElem!_pos _ c qi])
  rw [Addr.add_lit,uj]
  exact bA (below_grow ⟨rfl,rfl,rfl,jL _,fun _ _=>rfl⟩ zg) h1)
theorem mZ (p p':Option Addr) (c c':Nat) (w:World):Calls prog 20 #[.slice p 0 c,.slice p' 0 c'] w fun e w'=>e= .returned (.bool true)/\w'=w:=by
 go_enter func20,ntmps20
 go_wp2
 refine wp_loop_rounds 1 ?_
 rw [rounds_succ]
 exact ka9
theorem ID (w:World) (v v':Value) (xs:List OpX) (h:OpsAt w v xs) (h':OpsAt w v' xs) (hn:xs.length<=1000):
  Calls prog 20 #[v,v'] w fun e w'=>e= .returned (.bool true)/\Below w.heap.size w w':=by
 rcases h with ⟨rfl,rfl⟩ | ⟨b,off,c,rfl,hc⟩
 ·rcases h' with ⟨rfl,_⟩ | ⟨b',off',c',rfl,_⟩
  ·refine (mZ none none 0 0 w).mono ?_
   exact kj6
  refine (mZ none (some ⟨b',off',none⟩) 0 c' w).mono ?_
  exact kj6
 rcases h' with ⟨rfl,rfl⟩ | ⟨b',off',c',rfl,hc'⟩
 ·refine (mZ (some ⟨b,off,none⟩) none c 0 w).mono ?_
  exact kj6
 refine (Ek 8 Aw func20 (fun i=>(cN xs[i]!).toArray) b off c b' off' c' xs.length w (fun i q os hi=>FJ hc i q os hi) (fun i q os hi=>FJ hc' i q os hi) (fun i w=>IL _ w) Hg zj).mono ?_
 rintro e w' ⟨rfl,q,os,rfl⟩
 exact ⟨rfl,below_grow ⟨rfl,rfl,rfl,jL _,fun _ _=>rfl⟩ zg⟩
end Go.Proofs.YtebpcnkdhgnghaaGreatDoor
end
section
namespace Go.Proofs.YtebpcnkdhgnghaaGreatDoor
open Go.Shelf Go.RowKit Go.Lib Go.Sort
end Go.Proofs.YtebpcnkdhgnghaaGreatDoor
end
section
namespace Go.Proofs.YtebpcnkdhgnghaaGreatDoor
open Go.Shelf Go.RowKit Go.Lib Go.Sort
end Go.Proofs.YtebpcnkdhgnghaaGreatDoor
end
section
namespace Go.Proofs.YtebpcnkdhgnghaaGreatDoor
open Go.Shelf Go.RowKit Go.Lib Go.Sort
end Go.Proofs.YtebpcnkdhgnghaaGreatDoor
end
section
namespace Go.Proofs.YtebpcnkdhgnghaaGreatDoor
open Go.Shelf Go.RowKit Go.Lib Go.Sort
end Go.Proofs.YtebpcnkdhgnghaaGreatDoor
end
section
namespace Go.Proofs.YtebpcnkdhgnghaaGreatDoor
open Go.Shelf Go.RowKit Go.Lib Go.Sort
end Go.Proofs.YtebpcnkdhgnghaaGreatDoor
end
section
namespace Go.Proofs.YtebpcnkdhgnghaaGreatDoor
open Go Go.RowKit Go.Lib Go.Sort
end Go.Proofs.YtebpcnkdhgnghaaGreatDoor
end
section
namespace Go.Proofs.YtebpcnkdhgnghaaGreatDoor
open Go Go.RowKit Go.Lib Go.Sort
def Oh (S:List OpX) (i:Nat):Nat:=S.countP (fun x=>decide (byO x=(i:Int)))
end Go.Proofs.YtebpcnkdhgnghaaGreatDoor
end
section
namespace Go.Proofs.YtebpcnkdhgnghaaGreatDoor
open Go.RowKit Go.Lib Go.Sort Go.Maps
theorem below_drewN {B:Nat} {w w':World} (h:Below B w w') (q:Nat):Below B w (w'.drewN q):=⟨h.os,h.tape,h.output,h.size,h.block⟩
end Go.Proofs.YtebpcnkdhgnghaaGreatDoor
end
section
namespace Go.Proofs.YtebpcnkdhgnghaaGreatDoor
open scoped Classical
def below (d:Int->Nat) (l:List Plc) (x:Int):Nat:=l.countP (fun p=>decide (d p.1<d x))
end Go.Proofs.YtebpcnkdhgnghaaGreatDoor
namespace Go.Proofs.YtebpcnkdhgnghaaGreatDoor
open Go.RowKit Go.Lib Go.Sort Go.Maps
open scoped Classical
end Go.Proofs.YtebpcnkdhgnghaaGreatDoor
namespace Go.Proofs.YtebpcnkdhgnghaaGreatDoor
open Go.RowKit Go.Lib Go.Sort
open scoped Classical
structure St4 (w1:World) (ys:List OpX) (i:Nat) (qs:List Plc) (ov:Value) (wr:World):Prop where
 row:wr.ownsRow w1.heap.size 82 3 ov qs.length (aB ai qs)
 pls:IsPlaces (aH (eu (ys.take i))) qs
 len:qs.length<=i
 below:Below w1.heap.size w1 wr
end Go.Proofs.YtebpcnkdhgnghaaGreatDoor
end
section
namespace Go.Proofs.YtebpcnkdhgnghaaGreatDoor
open Go Go.RowKit Go.Lib Go.Sort
structure PS (R:List OpX) (nd:Int) (w1:World) (p i:Nat) (v:Value) (M:List Ltr) (wr:World):Prop where
 ref:OG w1.heap.size wr p v M
 lof:OU R nd i M
 len:M.length<=i
 keep:Keeps (fun k=>k=p) w1 wr
end Go.Proofs.YtebpcnkdhgnghaaGreatDoor
end
section
namespace Go.Proofs.YtebpcnkdhgnghaaGreatDoor
open Go.RowKit Go.Lib Go.Sort Go.Maps
open scoped Classical
end Go.Proofs.YtebpcnkdhgnghaaGreatDoor
end
section
namespace Go.Proofs.YtebpcnkdhgnghaaGreatDoor
open Go.Shelf Go.RowKit Go.Lib Go.Sort
end Go.Proofs.YtebpcnkdhgnghaaGreatDoor
end
section
namespace Go.Proofs.YtebpcnkdhgnghaaGreatDoor
open Go Go.RowKit Go.Lib Go.Sort
structure L1 (w:World) (C:Nat) (T:List OpX) (ov:Value) (W:World):Prop where
 row:W.ownsRow (w.heap.size+1) 61 8 ov T.length (cellsOf T)
 flt:W.heap[C]? =some (.cells #[.int .i64 0,.int .i64 0] 29 (0,0))
 below:Below w.heap.size w W
 size:w.heap.size+1<=W.heap.size
end Go.Proofs.YtebpcnkdhgnghaaGreatDoor
end
section
namespace Go.Proofs.YtebpcnkdhgnghaaGreatDoor.PAgain
theorem Mu:joinedFacts Tryz.prog 4 Tryz.f4 Rows.playAgainSpec Rows.playAgainRow=true:=by
 unfold joinedFacts
 rw [jfP,jfU,jfR,jfN]
 kernel_rfl
