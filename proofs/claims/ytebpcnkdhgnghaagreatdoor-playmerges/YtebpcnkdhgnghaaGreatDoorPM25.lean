import Derived.Test.YtebpcnkdhgnghaaGreatDoorPM21
import Derived.Test.YtebpcnkdhgnghaaGreatDoorPM22
import Derived.Test.YtebpcnkdhgnghaaGreatDoorPM23
set_option linter.unusedSimpArgs false
set_option linter.unusedVariables false
set_option maxRecDepth 100000
set_option maxHeartbeats 64000000
namespace Go.Proofs.YtebpcnkdhgnghaaGreatDoor
open Go.Proofs.Tryz
variable {by_:Int} {A S S' T l ys:List OpX} {xs:List Value} {B b base bc br bt bx i k n:Nat} {ad:Nat→Addr} {kv kv':Nat→Value} {x:OpX} {R:Rws} {v:Value} {W w w':World}
section
open Go.RowKit Go.Lib Go.Sort
theorem fo {xs:List OpX} (h:cY xs ys):ys.Perm xs/\ys.Pairwise (fun a b=>¬CLt (stO b) (stO a)):=by
 obtain ⟨d',⟨hp,hs⟩,rfl⟩:=h
 have hsz:(dO xs).size=xs.length:=bN xs
 have hp':PermIn 0 (dO xs).size (dO xs) d':=by rw [hsz];exact hp
 have hd:d'.size=xs.length:=by have:=hp.1;rw [this,hsz]
 have hperm:=tG hp'
 have hfst:(dO xs).toList.map Prod.fst=xs:=by
  unfold dO
  simp
 refine ⟨?_,?_⟩
 ·have:=hperm.map Prod.fst
  rw [hfst] at this
  exact this.symm
 have hl:=se d' (by rw [hd];exact hs)
 rw [Zp]
 refine hl.imp (fun {a b} q=> ?_)
 have:=(slt_false.1 q).1
 unfold ltX at this
 have e:=mP (stO b.1) (stO a.1)
 intro hc
 have h2:bM b.1.1 b.1.2.1 a.1.1 a.1.2.1=true:=e.trans (decide_eq_true hc)
 rw [h2] at this
 cases this
theorem lS (hs:ys.Pairwise (fun a b=>¬CLt (stO b) (stO a))) (hn:ys.Pairwise (fun a b=>stO a≠stO b)):ys.Pairwise (fun a b=>CLt (stO a) (stO b)):=
 (hs.and hn).imp (fun {a b} h=>by
  obtain ⟨h1,h2⟩:=h
  unfold CLt at*
  rcases ha:stO a with ⟨a1,a2⟩
  rcases hb:stO b with ⟨b1,b2⟩
  rw [ha,hb] at h1 h2
  dsimp only at*
  have h3:¬(a1=b1/\a2=b2):=fun e=>h2 (by rw [e.1,e.2])
  omega)
def OD (v:Value):Option Addr:=match v with
 | .slice a _ _=>a
 | _=>none
def NG (v:Value):Nat:=match v with
 | .slice _ _ c=>c
 | _=>0
theorem DG {c:Nat->Nat} (h:RowsAt w c kv R) (hi:i<4):kv i=kvs (fun j=>OD (kv j)) (fun j=>NG (kv j)) R i:=by
 obtain ⟨a,cp,e⟩:=fh (h i hi).1
 show kv i= .slice (OD (kv i)) (R i).length (NG (kv i))
 rw [e]
 rfl
theorem RowsAt.congr {c:Nat->Nat} (h:RowsAt w c kv R) (e:∀i,i<4->kv i=kv' i):RowsAt w c kv' R:=fun i hi=>by rw [<-e i hi];exact h i hi
theorem RepCell.congr {T:Int} (h:RepCell w br T by_ kv bt bx bc) (e:∀i,i<4->kv i=kv' i):RepCell w br T by_ kv' bt bx bc:=by
 unfold RepCell at*
 rw [<-e 0 zj,<-e 1 zj,<-e 2 zj,<-e 3 zj]
 exact h
theorem RepMid.norm {c:Nat->Nat} {T:Int} (h:RepMid w c br T by_ kv bt bx bc R A):∃ao cap,RepMid w c br T by_ (kvs ao cap R) bt bx bc R A:=
 ⟨_,_,h.cell.congr (fun i hi=>DG h.rows hi),h.hue,h.rows.congr (fun i hi=>DG h.rows hi),h.tree,h.text,h.marks,h.time⟩
structure RepOwn (B:Nat) (w:World) (c:Nat->Nat) (br:Nat) (by_:Int) (R:Rws):Prop where
 rep:RepAt w c br by_ R
 low:∀k,c k≠0->B<=k
 high:∀k,w.heap.size<=k->c k=0
theorem RepOwn.later {B:Nat} {w w':World} {c:Nat->Nat} {br:Nat} {by_:Int} {R:Rws} (h:RepOwn B w c br by_ R) (hb:Below w.heap.size w w'):RepOwn B w' c br by_ R:=⟨h.rep.later hb,h.low,fun k hk=>h.high k (vI hb.size hk)⟩
theorem Lx (R:Rws) (hi:i<4) (o:OpX):(aQ (upR R i (R i++ [o]))).Perm (aQ R++ [o]):=by
 have sw:∀(a b:List OpX),(a++ [o]++b).Perm (a++b++ [o]):=fun a b=>by
  rw [uj,uj]
  exact (Zm (l₁:=[o]) (l₂:=b)).append_left a
 unfold aQ upR
 have h4:i=0\/i=1\/i=2\/i=3:=zj
 rcases h4 with rfl | rfl | rfl | rfl
 ·simpa using sw (R 0) (R 1++(R 2++R 3))
 ·simpa using sw (R 0++R 1) (R 2++R 3)
 ·simpa using sw (R 0++(R 1++R 2)) (R 3)
 simp
theorem lK:∀(F:List OpX) (R:Rws) (z:Bool) (R':Rws) (z':Bool),(∀x∈F,ai x=0)->dQ R z F=some (R',z')->(aQ R').Perm (aQ R++F)
 | [],R,z,R',z',_,h=>by
  rw [dQ] at h
  cases h
  rw [uQ]
 | o::t,R,z,R',z',ho,h=>by
  obtain ⟨i,hi,hb,hbn⟩:=Ar (ho o uu)
  rw [dQ,hbn] at h
  split at h
  ·have ih:=lK t _ _ R' z' (fun x hx=>ho x (ug _ hx)) h
   refine ih.trans ?_
   have:=(Lx R hi o).append_right t
   rwa [uj] at this
  cases h
theorem rV (h:RowsN R) (hm:∀x∈ys,x∈aQ R) (hp:ys.Pairwise (fun x y=>¬(byO x=byO y/\aw x=aw y))):ys.Pairwise (fun a b=>stO a≠stO b):=
 hp.imp_of_mem (fun {a b} ha hb q e=>q (by rw [h.stamp (hm a ha) (hm b hb) e];exact ⟨rfl,rfl⟩))
theorem RepMid.recolor {c c':Nat->Nat} {T:Int} (h:RepMid w c br T by_ kv bt bx bc R A) (e:∀k,k<w.heap.size->c' k=c k):RepMid w c' br T by_ kv bt bx bc R A:=h.kept (fun i _=>⟨fun _ _ _=>rfl,e⟩)
def rj (w w':World) (c c2:Nat->Nat):Nat->Nat:=fun k=>if k<w.heap.size then c k else if k<w'.heap.size then c2 k else 0
theorem AS {c c2:Nat->Nat} (hh:∀k,k<w.heap.size->c2 k=c k) (hk:k<w'.heap.size):rj w w' c c2 k=c2 k:=by
 unfold rj
 by_cases q:k<w.heap.size
 ·rw [if_pos q,hh k q]
 rw [if_neg q,if_pos hk]
theorem Eh {c c2:Nat->Nat} {T:Int} (hm:RepMid w' c2 br T by_ kv bt bx bc R A) (hp:A.Perm (aQ R)) (hK:RowsK R) (hb:0<=by_/\by_<4) (hk:Keeps (fun k=>c k≠0) w w') (hh:∀k,k<w.heap.size->c2 k=c k) (hB:∀k,c k≠0->B<=k) (hBw:B<=w.heap.size):∃c',Acts w c w' c'/\RepOwn B w' c' br by_ R:=by
 refine ⟨rj w w' c c2,⟨hk,fun k q=>if_pos q⟩,⟨_,_,_,_,_,_,hm.recolor (fun k q=>AS hh q),hp,hK,hb⟩,fun k q=> ?_,fun k q=> ?_⟩
 ·unfold rj at q
  by_cases e:k<w.heap.size
  ·rw [if_pos e] at q;exact hB k q
  omega
 have:=hk.size
 unfold rj
 exact km5
end
section
open Go.RowKit Go.Lib Go.Sort
def Db (B:Nat) (ad:Nat->Addr) (w:World) (c:Nat->Nat) (br:Nat) (by_:Int) (R:Rws) (l:List OpX) (e:Ending) (w':World):Prop:=∃a c',aK (aQ R) l a/\Acts w c w' c'/\(match a with
 | .inl (i,cd)=>RepOwn B w' c' br by_ R/\∃v,e= .returned (.tuple #[.int .i64 0,v])/\((i= -1/\v=eV ad cd/\cd≠0)\/(0<=i/\mO ad w' v i cd))
 | .inr fresh=>e= .returned (.tuple #[.int .i64 (fresh.length:Int),.nilIface])/\∃R',RepOwn B w' c' br by_ R'/\∀x,x∈aQ R'↔x∈aQ R++fresh)
theorem Jw (R:Rws) (hi:i<4):(R i).length<=(aQ R).length:=by
 have h4:i=0\/i=1\/i=2\/i=3:=zj
 unfold aQ
 rcases h4 with rfl | rfl | rfl | rfl<;>simp<;>omega
theorem DH (w:World) (c:Nat->Nat) (br:Nat) (by_:Int) (R:Rws) (la:Option Addr) (lc:Nat) (l:List OpX) (h:RepOwn B w c br by_ R) (hE:EnvE B ad w) (hin:OpsIn w la l) (hs:il l) (hR1:(aQ R).length<=250) (hl1:l.length<=1000) (hf1:∀F,bw (aQ R) 0 [] l= .inr F->(aQ R).length+F.length<=250):
  Calls prog 35 #[.pointer (some ⟨br,0,none⟩),.slice la l.length lc] w (Db B ad w c br by_ R l):=by
 obtain ⟨T,kv,bt,bx,bc,A,hM0,hperm,hK,hb0,hb4⟩:=h.rep
 obtain ⟨ao,cap,hM⟩:=hM0.norm
 have hrl:∀i,i<4->(R i).length<=250:=fun i hi=>qX
 have k2:w.cell? ⟨br,2,none⟩=some (.slice (ao 0) (R 0).length (cap 0)):=hM.cell.c2
 have k3:w.cell? ⟨br,3,none⟩=some (.slice (ao 1) (R 1).length (cap 1)):=hM.cell.c3
 have k4:w.cell? ⟨br,4,none⟩=some (.slice (ao 2) (R 2).length (cap 2)):=hM.cell.c4
 have k5:w.cell? ⟨br,5,none⟩=some (.slice (ao 3) (R 3).length (cap 3)):=hM.cell.c5
 have hsift:=Gl w ao cap R la lc l hE.op4 hE.c6 (KnownAt.of_rows hM.rows) hK.num (fun i hi=>by have:=hrl i hi;omega) hin hs zj
 unfold kV at hsift
 have H0:Aside (RepMid w c br T by_ (kvs ao cap R) bt bx bc R A/\A.Perm (aQ R)/\RowsK R/\RepOwn B w c br by_ R/\EnvE B ad w/\0<=by_/\by_<4):=⟨hM,hperm,hK,h,hE,hb0,hb4⟩
 have HF1:Aside (∀F,bw (aQ R) 0 [] l= .inr F->(aQ R).length+F.length<=250):=hf1
 clear hM hM0 hperm hK h hE hin hs hf1
 go_enter func35,ntmps35
 go_wp2_with fail
 refine hsift.mono ?_
 clear hsift
 rintro e w1 ⟨hso,hb1⟩
 cases hsf:bw (aQ R) 0 [] l with
 | inl ic=>
  obtain ⟨i,cd⟩:=ic
  rw [hsf] at hso
  obtain ⟨v,rfl,blk,rfl,hblk⟩:=hso
  have HF:Aside (bw (aQ R) 0 [] l= .inl (i,cd)/\Below w.heap.size w w1/\w1.heap[blk]? =some (.cells #[.int .i64 (i:Int),eV ad cd] 75 (0,0))):=⟨hsf,hb1,hblk⟩
  clear hsf hb1 hblk
  go_wp2
  go_ret2
  refine ⟨.inl ((i:Int),cd),c,?_,Acts.of_below c HF.o.2.1,H0.o.2.2.2.1.later HF.o.2.1,_,rfl,.inr ⟨Int.natCast_nonneg _,blk,rfl,HF.o.2.2⟩⟩
  unfold aK
  rw [HF.o.1]
 | inr fresh=>
  rw [hsf] at hso
  obtain ⟨v,rfl,hrow⟩:=hso
  obtain ⟨fa,fc,rfl⟩:=fh hrow
  obtain ⟨g1,g2,g3,g4,g5⟩:=dY (cL _) hsf
  have hn:(aQ R).length+fresh.length<=250:=HF1.o fresh hsf
  have hfl:fresh.length<=l.length:=by simpa using g5
  have hops:OpsIn w1 fa fresh:=by
   rcases ft hrow with ⟨_,q⟩ | ⟨b,o,cp,q1,q2⟩
   ·exact .inl q
   exact .inr ⟨b,o,(Value.slice.inj q1).1,q2⟩
  have hM1:=H0.o.1.later hb1
  have H1:Aside (bw (aQ R) 0 [] l= .inr fresh/\Below w.heap.size w w1/\FreshK (aQ R) fresh/\w1.ownsRow w.heap.size 61 8 (.slice fa fresh.length fc) fresh.length (cellsOf fresh)/\RepMid w1 c br T by_ (kvs ao cap R) bt bx bc R A/\EnvE B ad w1):=⟨hsf,hb1,g1,hrow,hM1,H0.o.2.2.2.2.1.later hb1⟩
  have hwith:=Gp w1 c ao cap R fa fc fresh H1.o.2.2.2.2.2 H0.o.2.2.2.1.low hM1.rows hops g1.ok (fun k hk=>H0.o.2.2.2.1.high k (vI hb1.size hk)) zj (fun i hi=>by have:=hrl i hi;omega)
  have k2':w1.cell? ⟨br,2,none⟩=some (.slice (ao 0) (R 0).length (cap 0)):=hM1.cell.c2
  have k3':w1.cell? ⟨br,3,none⟩=some (.slice (ao 1) (R 1).length (cap 1)):=hM1.cell.c3
  have k4':w1.cell? ⟨br,4,none⟩=some (.slice (ao 2) (R 2).length (cap 2)):=hM1.cell.c4
  have k5':w1.cell? ⟨br,5,none⟩=some (.slice (ao 3) (R 3).length (cap 3)):=hM1.cell.c5
  unfold kV at hwith
  clear hsf hrow g1 g2 g3 g4 g5 hops hM1 k2 k3 k4 k5 hb1
  go_wp2_with fail
  refine hwith.mono ?_
  clear hwith k2' k3' k4' k5'
  rintro e w2 ⟨F,hFp,hFs,c2,hk2,hhue2,hold2,hout⟩
  have hgo:=pA F R true H0.o.2.2.1.num (H1.o.2.2.1.perm hFp) hFs (by simp [H0.o.2.2.1.nofall])
  have hmemF:∀x,x∈aQ R++F↔x∈aQ R++fresh:=fun x=>by simp only [vL,hFp.mem_iff]
  have hM2:RepMid w2 c2 br T by_ (kvs ao cap R) bt bx bc R A:=by
   have hm:=H1.o.2.2.2.2.1
   have kp:∀j,j≠0->¬(10<=j/\j<14)->pR c j w1 c2 w2:=fun j _ hj=>⟨fun k hk e=>hk2.block k hk (fun q=>hj (by rw [<-e];exact q)),hhue2⟩
   exact ⟨hm.cell.same ((kp 1 zj zj).block _ hm.cell.lt hm.hue),(hhue2 _ hm.cell.lt).trans hm.hue,hold2,hm.tree.kept (kp 2 zj zj),hm.text.kept (kp 3 zj zj) (fun nd _=>kp _ yj yj),hm.marks.kept (kp 4 zj zj),hm.time⟩
  have H2:Aside (RepMid w2 c2 br T by_ (kvs ao cap R) bt bx bc R A/\Keeps (fun k=>c k≠0) w w2/\(∀k,k<w.heap.size->c2 k=c k)/\EnvE B ad w2/\(∀x,x∈aQ R++F↔x∈aQ R++fresh)/\F.Perm fresh/\OpsIn w2 fa fresh/\(∀a,fa=some a->w.heap.size<=a.block\/fresh= [])):=by
   have hrow2:=H1.o.2.2.2.1
   have hfa:∀g,(Value.slice fa fresh.length fc).ownBlock=some g->c g=0:=fun g hg=>H0.o.2.2.2.1.high g (hrow2.lt g hg).1
   have hkw:Keeps (fun k=>c k≠0) w w2:=((aX H1.o.2.1).mono (fun k hk e=>absurd hk zj)).then hk2 (fun k _ e=>zj)
   refine ⟨hM2,hkw,fun k hk=>hhue2 k (vV hk H1.o.2.1.size),H0.o.2.2.2.2.1.mono (hkw.below H0.o.2.2.2.2.1.size (fun k e=>H0.o.2.2.2.1.low k e)),hmemF,hFp,?_,?_⟩
   ·rcases ft (bg hrow2 (fun g hg=>hk2.block g (hrow2.lt g hg).2 (fun q=>by have:=hfa g hg;omega))) with ⟨_,q⟩ | ⟨b,o,cp,q1,q2⟩
    ·exact .inl q
    exact .inr ⟨b,o,(Value.slice.inj q1).1,q2⟩
   intro a ha
   rcases hrow2.2 with ⟨_,q⟩ | ⟨g,cp,cur,q1,q2,_⟩
   ·exact .inr (vZ.1 q)
   have:=(Value.slice.inj q1).1
   rw [ha] at this
   cases this
   exact .inl q2
  have KC:Aside (∀w3,Below w2.heap.size w2 w3->∃c',Acts w c w3 c'/\RepOwn B w3 c' br by_ R):=fun w3 hb3=>Eh (H2.o.1.later hb3) H0.o.2.1 H0.o.2.2.1 H0.o.2.2.2.2.2 (H2.o.2.1.then (aX hb3) (fun k hk e=>by have:=H2.o.2.1.size;omega)) H2.o.2.2.1 H0.o.2.2.2.1.low H0.o.2.2.2.2.1.size
  clear hk2 hhue2 hold2 hM2 hmemF
  rcases hgo with ⟨hnone,hgap⟩ | ⟨R',z',hsome,hngap,hN',hmem',hz',hlen',hext'⟩
  ·rw [hnone] at hout
   subst hout
   have HG:Aside (Gap (aQ R++fresh)):=hgap.congr H2.o.2.2.2.2.1
   have ev:eV ad 9= .iface 450 (.pointer (some (ad 8))):=rfl
   rw [ev]
   clear hnone hgap ev
   go_wp2
   go_ret2
   obtain ⟨c',a1,a2⟩:=KC.o _ (zh w2 _)
   refine ⟨.inl (-1,9),c',?_,a1,a2,_,rfl,.inl ⟨rfl,rfl,zr⟩⟩
   unfold aK
   rw [H1.o.1]
   exact .inl ⟨HG.o,rfl⟩
  cases z' with
  | false=>
   rw [hsome] at hout
   have hout:e= .returned (.tuple #[.agg #[.slice none 0 0,.slice none 0 0,.slice none 0 0,.slice none 0 0],eV ad 3]):=hout
   subst hout
   have HG:Aside (¬Gap (aQ R++fresh)/\Falls (aQ R++fresh)):=⟨fun q=>hngap (q.congr (fun x=>(H2.o.2.2.2.2.1 x).symm)),by
    refine Classical.byContradiction (fun q=> ?_)
    have:=hz'.2 (fun k=>q (k.congr H2.o.2.2.2.2.1))
    cases this⟩
   have ev:eV ad 3= .iface 450 (.pointer (some (ad 2))):=rfl
   rw [ev]
   clear hsome hngap ev hN' hmem' hz' hlen' hext'
   go_wp2
   go_ret2
   obtain ⟨c',a1,a2⟩:=KC.o _ (zh w2 _)
   refine ⟨.inl (-1,3),c',?_,a1,a2,_,rfl,.inl ⟨rfl,rfl,zr⟩⟩
   unfold aK
   rw [H1.o.1]
   exact .inr (.inl ⟨HG.o.1,HG.o.2,rfl⟩)
  | true=>
   rw [hsome] at hout
   obtain ⟨ao',cap',rfl,hnew⟩:=hout
   have hNF:¬Falls (aQ R++fresh):=fun q=>(hz'.1 rfl) (q.congr (fun x=>(H2.o.2.2.2.2.1 x).symm))
   have hNG:¬Gap (aQ R++fresh):=fun q=>hngap (q.congr (fun x=>(H2.o.2.2.2.2.1 x).symm))
   have hmem:∀x,x∈aQ R'↔x∈aQ R++fresh:=fun x=>(hmem' x).trans (H2.o.2.2.2.2.1 x)
   have hRN:RowsN R':=⟨hN',fun x hx y hy e1 e2=>Classical.byContradiction (fun q=>hNF ⟨x,(hmem x).1 hx,y,(hmem y).1 hy,e1,e2,q⟩)⟩
   have hl':(aQ R').length<=250:=by have:=H2.o.2.2.2.2.2.1.length_eq;omega
   have hrl':∀i,i<4->(R' i).length<=1000:=fun i hi=>by have:=Jw R' hi;omega
   have hokF:∀x∈F,ai x=0:=fun x hx=>H1.o.2.2.1.ok x (H2.o.2.2.2.2.2.1.mem_iff.1 hx)
   have hpm:(aQ R').Perm (aQ R++fresh):=(lK F R true R' true hokF hsome).trans (H2.o.2.2.2.2.2.1.append_left _)
   obtain ⟨U,hU⟩:=zc (w2.alloc (.cells #[.slice (ao' 0) (R' 0).length (cap' 0),.slice (ao' 1) (R' 1).length (cap' 1),.slice (ao' 2) (R' 2).length (cap' 2),.slice (ao' 3) (R' 3).length (cap' 3)] 112))
   have hbU:Below w2.heap.size w2 U:=by rw [hU];exact zh w2 _
   obtain ⟨Q,hQ⟩:=zc w2.heap.size
   have hkb:KBox U Q ao' cap' R':=by rw [hU,hQ];exact KBox.new w2 ao' cap' R'
   have hnU:RowsAt U c2 (kvs ao' cap' R') R':=hnew.kept (fun i _=>⟨fun k hk _=>hbU.block k hk,fun _ _=>rfl⟩)
   obtain ⟨zb,hzb⟩:∃zb:Bool,zb=true↔∀x∈fresh,RefOk (aQ R') x:=⟨@decide _ (Classical.propDecidable _),@decide_eq_true_iff _ (Classical.propDecidable _)⟩
   have hbears:=sR U ao' cap' R' fa fc fresh (H2.o.2.2.2.2.2.2.1.later hbU) (fun x hx=>(hmem x).2 (uI _ hx)) zb hzb ((H2.o.2.2.2.1.later hbU).op4) (KnownAt.of_rows hnU) hRN hrl' zj
   have H3:Aside (RepMid U c2 br T by_ (kvs ao cap R) bt bx bc R A/\RowsAt U c2 (kvs ao' cap' R') R'/\RowsN R'/\(∀x,x∈aQ R'↔x∈aQ R++fresh)/\(aQ R').Perm (aQ R++fresh)/\¬Gap (aQ R++fresh)/\¬Falls (aQ R++fresh)/\(zb=true↔∀x∈fresh,RefOk (aQ R') x)/\Below w2.heap.size w2 U/\KBox U Q ao' cap' R'/\Q=w2.heap.size):=⟨H2.o.1.later hbU,hnU,hRN,hmem,hpm,hNG,hNF,hzb,hbU,hkb,hQ⟩
   have HU:Aside (U=w2.alloc (.cells #[.slice (ao' 0) (R' 0).length (cap' 0),.slice (ao' 1) (R' 1).length (cap' 1),.slice (ao' 2) (R' 2).length (cap' 2),.slice (ao' 3) (R' 3).length (cap' 3)] 112)/\Q=w2.heap.size):=⟨hU,hQ⟩
   have k0:=hkb.at (i:=0) zj
   have k1:=hkb.at (i:=1) zj
   have k2:=hkb.at (i:=2) zj
   have k3:=hkb.at (i:=3) zj
   unfold kV at hbears |-
   clear hnew hNF hNG hRN hpm hokF hU hQ hbU hkb hnU hzb hsome hngap hN' hmem' hz' hlen' hext' hmem
   go_upto_region 7 with fail
   rw [<-HU.o.1,<-HU.o.2]
   go_wp2_with fail
   refine hbears.mono ?_
   clear hbears
   rintro e w3 ⟨rfl,hb3⟩
   have hM3:=H3.o.1.later hb3
   have hkb3:=H3.o.2.2.2.2.2.2.2.2.2.1.later hb3
   have E3:=(H2.o.2.2.2.1.later H3.o.2.2.2.2.2.2.2.2.1).later hb3
   have H4:Aside (RepMid w3 c2 br T by_ (kvs ao cap R) bt bx bc R A/\RowsAt w3 c2 (kvs ao' cap' R') R'/\Below w2.heap.size w2 w3/\KBox w3 Q ao' cap' R'/\EnvE B ad w3):=⟨hM3,H3.o.2.1.kept (fun i _=>⟨fun k hk _=>hb3.block k hk,fun _ _=>rfl⟩),zi H3.o.2.2.2.2.2.2.2.2.1 hb3,hkb3,E3⟩
   clear k0 k1 k2 k3
   cases zb with
   | false=>
    have eg:=E3.c5
    have HN:Aside (∃x∈aQ R++fresh,¬RefOk (aQ R++fresh) x):=by
     refine Classical.byContradiction (fun q=> ?_)
     have:=H3.o.2.2.2.2.2.2.2.1.2 (fun x hx=>Classical.byContradiction (fun k=>q ⟨x,uI _ hx,fun k'=>k (k'.mono (fun y hy=>(H3.o.2.2.2.1 y).2 hy))⟩))
     cases this
    clear hM3 hkb3 E3 hb3
    go_wp2_with fail
    go_quiet (fail)
    go_wp2
    go_ret2
    obtain ⟨c',a1,a2⟩:=KC.o _ (Go.below_drewN H4.o.2.2.1 _)
    refine ⟨.inl (-1,6),c',?_,a1,a2,_,rfl,.inl ⟨rfl,rfl,zr⟩⟩
    unfold aK
    rw [H1.o.1]
    exact .inr (.inr (.inl ⟨H3.o.2.2.2.2.2.1,H3.o.2.2.2.2.2.2.1,HN.o,rfl⟩))
   | true=>
    have hall:∀x∈fresh,RefOk (aQ R') x:=H3.o.2.2.2.2.2.2.2.1.1 rfl
    have hRN:=H3.o.2.2.1
    have hmem:=H3.o.2.2.2.1
    have hW:WellK (aQ R'):=⟨hRN.num.ok,hRN.num.one,hRN.num.gap,hRN.up,fun x hx=>by
     rcases vL.1 ((hmem x).1 hx) with q | q
     ·exact (H0.o.2.2.1.well.refs x q).mono (fun y hy=>(hmem y).2 (uk _ hy))
     ·exact hall x q⟩
    have HW:Aside (RowsK R'):=⟨hRN.num,hW⟩
    have dn:decide ((400:Int)<((aQ R').length:Int))=false:=zq
    have dn':decide (400<(aQ R').length)=false:=zq
    have hcount:=lr w3 ao' cap' R' hrl'
    unfold kV at hcount
    have k0:=hkb3.at (i:=0) zj
    have k1:=hkb3.at (i:=1) zj
    have k2:=hkb3.at (i:=2) zj
    have k3:=hkb3.at (i:=3) zj
    clear hM3 hkb3 E3 hall hRN hmem hW hb3
    go_wp2_with fail
    refine hcount.mono ?_
    clear hcount k0 k1 k2 k3
    rintro e w4 ⟨rfl,hb4'⟩
    have hM4:=H4.o.1.later hb4'
    have hkb4:=H4.o.2.2.2.1.later hb4'
    have k0:=hkb4.at (i:=0) zj
    have k1:=hkb4.at (i:=1) zj
    have k2:=hkb4.at (i:=2) zj
    have k3:=hkb4.at (i:=3) zj
    have q2:=hM4.cell.c2
    have q3:=hM4.cell.c3
    have q4:=hM4.cell.c4
    have q5:=hM4.cell.c5
    have qf:=hM4.cell.fz
    obtain ⟨w5,hw5⟩:=zc ((((w4.setCell ⟨br,2,none⟩ (.slice (ao' 0) (R' 0).length (cap' 0))).setCell ⟨br,3,none⟩ (.slice (ao' 1) (R' 1).length (cap' 1))).setCell ⟨br,4,none⟩ (.slice (ao' 2) (R' 2).length (cap' 2))).setCell ⟨br,5,none⟩ (.slice (ao' 3) (R' 3).length (cap' 3)))
    have hk5:Keeps (fun k=>k=br) w4 w5:=by rw [hw5];exact aZ br [.slice (ao' 0) (R' 0).length (cap' 0),.slice (ao' 1) (R' 1).length (cap' 1),.slice (ao' 2) (R' 2).length (cap' 2),.slice (ao' 3) (R' 3).length (cap' 3)] 2 w4
    have hp5:RepPart w5 c2 br T by_ (kvs ao' cap' R') bt bx bc R' A:=by
     have kp:∀i,i≠1->pR c2 i w4 c2 w5:=fun i hi=>⟨fun k hk e=>hk5.block k hk (fun q=>by have q':k=br:=q;rw [q',hM4.hue] at e;omega),fun _ _=>rfl⟩
     have hr4:RowsAt w4 c2 (kvs ao' cap' R') R':=H4.o.2.1.kept (fun i _=>⟨fun k hk _=>hb4'.block k hk,fun _ _=>rfl⟩)
     refine ⟨?_,hM4.hue,hr4.kept (fun i _=>kp _ zj),hM4.tree.kept (kp 2 zj),hM4.text.kept (kp 3 zj) (fun nd _=>kp _ yj),hM4.marks.kept (kp 4 zj)⟩
     have hh:=bW br [.slice (ao' 0) (R' 0).length (cap' 0),.slice (ao' 1) (R' 1).length (cap' 1),.slice (ao' 2) (R' 2).length (cap' 2),.slice (ao' 3) (R' 3).length (cap' 3)] 2 w4 _ _ hM4.cell
     unfold RepCell
     rw [hw5]
     refine Eq.trans hh ?_
     simp [Cb,kvs]
    have hkw5:Keeps (fun k=>c k≠0) w w5:=((H2.o.2.1.then (aX H4.o.2.2.1) (fun k hk e=>by have:=H2.o.2.1.size;omega)).then (aX hb4') (fun k hk e=>by have:=H2.o.2.1.size;have:=H4.o.2.2.1.size;omega)).then hk5 (fun k hk e=>by have e':k=br:=e;have:=H2.o.2.2.1 k hk;rw [e'] at this |-;rw [<-this,H2.o.1.hue];decide)
    have hops5:OpsIn w5 fa fresh:=by
     have ho:=(H2.o.2.2.2.2.2.2.1.later H4.o.2.2.1).later hb4'
     rcases ho with q | ⟨bb,oo,e1,e2⟩
     ·exact .inl q
     refine .inr ⟨bb,oo,e1,fun j u hj=> ?_⟩
     have hcell:=e2 j u hj
     have hbl:=vK w4 ⟨bb,oo+j,none⟩ hcell
     rw [uc (a:=⟨bb,oo+j,none⟩) (hk5.block bb hbl (fun q=>by
      have q':bb=br:=q
      rcases H2.o.2.2.2.2.2.2.2 _ e1 with q2 | q2
      ·have:=H0.o.1.cell.lt;dsimp only at q2;omega
      ·rw [q2] at hj;simp [cellsOf] at hj))]
     exact hcell
    have H5:Aside (RepPart w5 c2 br T by_ (kvs ao' cap' R') bt bx bc R' A/\Keeps (fun k=>c k≠0) w w5/\OpsIn w5 fa fresh/\EnvE B ad w5):=⟨hp5,hkw5,hops5,H0.o.2.2.2.2.1.mono (hkw5.below H0.o.2.2.2.2.1.size (fun k e=>H0.o.2.2.2.1.low k e))⟩
    have HW5:Aside (w5=(((w4.setCell ⟨br,2,none⟩ (.slice (ao' 0) (R' 0).length (cap' 0))).setCell ⟨br,3,none⟩ (.slice (ao' 1) (R' 1).length (cap' 1))).setCell ⟨br,4,none⟩ (.slice (ao' 2) (R' 2).length (cap' 2))).setCell ⟨br,5,none⟩ (.slice (ao' 3) (R' 3).length (cap' 3))):=hw5
    have hsort:=Ad w5 (.slice fa fresh.length fc) fresh (by
     rcases H1.o.2.2.2.1.2 with ⟨e1,e2⟩ | ⟨g,cp,cur,e1,_⟩
     ·exact .inl ⟨e1,vZ.1 e2⟩
     ·rcases hops5 with q | ⟨bb,oo,e4,e5⟩
      ·exact .inr ⟨g,0,fc,by rw [(Value.slice.inj e1).1],fun j u hj=>by rw [q] at hj;simp [cellsOf] at hj⟩
      ·exact .inr ⟨bb,oo,fc,by rw [e4],e5⟩) zj
    clear hw5 hk5 hp5 hkw5 hops5 hM4 hkb4 hb4'
    go_upto_region 12 with fail
    rw [<-HW5.o]
    clear q2 q3 q4 q5 qf k0 k1 k2 k3
    go_wp2_with fail
    refine hsort.mono ?_
    clear hsort
    rintro e w6 ⟨v6,ys,rfl,hy6,hst,hb6,hnew6⟩
    obtain ⟨va,vc,rfl,hin6⟩:∃va vc,v6= .slice va ys.length vc/\OpsIn w6 va ys:=by
     rcases hy6 with ⟨rfl,rfl⟩ | ⟨bb,oo,cp,rfl,e2⟩
     ·exact ⟨none,0,rfl,.inl rfl⟩
     exact ⟨_,_,rfl,.inr ⟨bb,oo,rfl,e2⟩⟩
    obtain ⟨hyp,hys⟩:=fo hst
    have hmem:=H3.o.2.2.2.1
    have hmy:∀x∈ys,x∈aQ R':=fun x hx=>(hmem x).2 (uI _ (hyp.mem_iff.1 hx))
    have hyc:ys.Pairwise (fun a b=>CLt (stO a) (stO b)):=lS hys (rV H3.o.2.2.1 hmy (H1.o.2.2.1.perm hyp).one)
    have hylen:ys.length=fresh.length:=hyp.length_eq
    obtain ⟨c6,hc6⟩:=zc (rj w w5 c c2)
    have hsz56:=hb6.size
    have hszw:=H5.o.2.1.size
    have H6:Aside (RepPart w6 c6 br T by_ (kvs ao' cap' R') bt bx bc R' A/\Acts w c w6 c6/\(∀k,c6 k≠0->B<=k)/\(∀k,w6.heap.size<=k->c6 k=0)/\OpsIn w6 va ys/\(∀a,va=some a->c6 a.block=0)/\(∀k o,ys[k]? =some o->StepOk (aQ R++ys.take k) o)/\ys.Perm fresh/\dM A T):=by
     have hz5:∀k,w5.heap.size<=k->c6 k=0:=fun k hk=>by
      rw [hc6]
      unfold rj
      exact km5
     refine ⟨(H5.o.1.kept (fun i _=>⟨fun _ _ _=>rfl,fun k hk=>by rw [hc6];exact AS H2.o.2.2.1 hk⟩)).later hb6,⟨H5.o.2.1.then (aX hb6) (fun k hk e=>zj),fun k hk=>by rw [hc6];exact if_pos hk⟩,fun k q=> ?_,fun k hk=>hz5 k zj,hin6,fun a ha=> ?_,fun k o hko=> ?_,hyp,H0.o.1.time⟩
     ·rw [hc6] at q
      unfold rj at q
      by_cases e:k<w.heap.size
      ·rw [if_pos e] at q;exact H0.o.2.2.2.1.low k q
      have:=H0.o.2.2.2.2.1.size;omega
     ·rw [ha] at hnew6
      exact hz5 _ (hnew6 a.block rfl)
     refine mF HW.o.well (fun x=> ?_) H0.o.2.2.1.well.refs hyc (fun x hx hx'=> ?_) hko
     ·rw [hmem x,vL]
      exact ⟨fun q=>q.imp id (fun q=>hyp.mem_iff.2 q),fun q=>q.imp id (fun q=>hyp.mem_iff.1 q)⟩
     exact H1.o.2.2.1.off x (hyp.mem_iff.1 hx) x hx' ⟨rfl,rfl⟩
    have hAl:A.length+ys.length<=250:=by have:=H0.o.2.1.length_eq;omega
    clear hy6 hst hb6 hnew6 hin6 hyp hys hmem hmy hyc hc6 hsz56 hszw
    go_wp2
    go_loopg [51] ys.length (fun kx s51 wr=>∃(k:Nat) (TT:Int) (cc:Nat->Nat),s51= .int .i64 (k:Int)/\k<=ys.length/\ys.length - k<=kx/\Aside (RepPart wr cc br TT by_ (kvs ao' cap' R') bt bx bc R' ((ys.take k).reverse++A)/\dM ((ys.take k).reverse++A) TT/\Acts w c wr cc/\(∀k,cc k≠0->B<=k)/\(∀k,wr.heap.size<=k->cc k=0)/\OpsIn wr va ys/\(∀a,va=some a->cc a.block=0)))
    case atStart=>exact ⟨0,T,c6,rfl,vM _,vB _,by simpa using H6.o.1,by simpa using H6.o.2.2.2.2.2.2.2.2,H6.o.2.1,H6.o.2.2.1,H6.o.2.2.2.1,H6.o.2.2.2.2.1,H6.o.2.2.2.2.2.1⟩
    case round=>
     obtain ⟨k,TT,cc,rfl,hkl,hkx,L⟩:=hrel
     by_cases hlt:k<ys.length
     ·have d1:decide ((k:Int)<(ys.length:Int))=true:=by simp;omega
      have wk:((k:Int)).toNat=k:=zj
      have pk:(0:Int)<=(k:Int):=zj
      have bk:(k:Int)<(ys.length:Int):=zj
      obtain ⟨⟨t,b,n,kd,nd,o,s,v⟩,hx⟩:∃x,Aside (ys[k]? =some x):=⟨ys[k],vF hlt⟩
      have hstep0:=H6.o.2.2.2.2.2.2.1 k _ hx.o
      have hpA:(aQ R++ys.take k).Perm ((ys.take k).reverse++A):=(Zm).trans (((List.reverse_perm _).symm.append_right _).trans (H0.o.2.1.symm.append_left _))
      have hstep:=hstep0.perm hpA
      obtain ⟨blk,off,hao,hc⟩:=L.o.2.2.2.2.2.1.get hx.o
      subst hao
      have r0:=hc 0 _ rfl
      have r1:=hc 1 _ rfl
      have r2:=hc 2 _ rfl
      have r3:=hc 3 _ rfl
      have r4:=hc 4 _ rfl
      have r5:=hc 5 _ rfl
      have r6:=hc 6 _ rfl
      have r7:=hc 7 _ rfl
      simp only [uZ] at r0
      clear hc
      have hbU:∀ob,Below wr.heap.size wr (wr.alloc ob):=fun ob=>(vG _ wr).alloc zg ob
      have Ewr:=H0.o.2.2.2.2.1.mono (L.o.2.2.1.keeps.below H0.o.2.2.2.2.1.size (fun k e=>H0.o.2.2.2.1.low k e))
      have happ:=EY (wr.alloc (.cells #[.int .i64 t,.int .i64 b,.int .i64 n,.int .u8 (kd:Int),.int .i64 nd,.int .i64 o,.string s,.string v] 61)) cc br TT by_ (kvs ao' cap' R') bt bx bc R' ((ys.take k).reverse++A) (t,b,n,kd,nd,o,s,v) (L.o.1.later (hbU _)) hstep (Ewr.later (hbU _)) L.o.2.2.2.1 (fun q hq=>L.o.2.2.2.2.1 q (by simp at hq;omega)) zq
      have ht1:1<=t:=(iv hstep.ok).1
      unfold bT at happ
      dsimp only at happ
      have HTK:Aside ((ys.take (k+1)).reverse=(t,b,n,kd,nd,o,s,v)::(ys.take k).reverse):=by
       show (ys.take (k+1)).reverse=_
       rw [uA,hx.o]
       simp
      clear hstep0 hstep hpA Ewr
      go_wp2_with fail
      refine happ.mono ?_
      clear happ r0 r1 r2 r3 r4 r5 r6 r7
      rintro e w7 ⟨⟨u,rfl⟩,c7,p1,p2,p3,p4⟩
      have LN:Aside (RepPart w7 c7 br (if TT<t then t else TT) by_ (kvs ao' cap' R') bt bx bc R' ((ys.take (k+1)).reverse++A)/\dM ((ys.take (k+1)).reverse++A) (if TT<t then t else TT)/\Acts w c w7 c7/\(∀k,c7 k≠0->B<=k)/\(∀k,w7.heap.size<=k->c7 k=0)/\OpsIn w7 (some ⟨blk,off,none⟩) ys/\(∀a,some (⟨blk,off,none⟩:Addr)=some a->c7 a.block=0)):=by
       have hbk:blk<wr.heap.size:=by
        obtain ⟨b2,o2,e2,hc2⟩:=L.o.2.2.2.2.2.1.get hx.o
        cases e2
        exact vK wr ⟨blk,off+k*8+0,none⟩ (hc2 0 _ rfl)
       have hc0:cc blk=0:=L.o.2.2.2.2.2.2 _ rfl
       refine ⟨by rw [HTK.o];exact p1,by rw [HTK.o];exact CS L.o.2.1 _ ht1,(L.o.2.2.1.trans (Acts.of_below cc (hbU _))).trans p2,p3,p4,?_,fun a ha=> ?_⟩
       ·rcases L.o.2.2.2.2.2.1.later (hbU _) with q | ⟨bb,oo,e1,e2⟩
        ·exact .inl q
        cases e1
        refine .inr ⟨blk,off,rfl,fun j u hj=> ?_⟩
        rw [uc (a:=⟨blk,off+j,none⟩) (p2.keeps.block blk zq (fun q=>q hc0))]
        exact e2 j u hj
       cases ha
       rw [p2.hue blk zq]
       exact hc0
      clear p1 p2 p3 p4
      go_wp2
      go_roundg (ys.length - (k+1))
      case measure=>omega
      case rel=>exact ⟨k+1,_,c7,zw,zj,vB _,LN.o⟩
     have d1:decide ((k:Int)<(ys.length:Int))=false:=zq
     obtain rfl:k=ys.length:=zj
     go_wp2
     go_ret2
     refine ⟨.inr fresh,cc,?_,L.o.2.2.1,rfl,R',⟨⟨TT,_,bt,bx,bc,_,⟨L.o.1.cell,L.o.1.hue,L.o.1.rows,L.o.1.tree,L.o.1.text,L.o.1.marks,L.o.2.1⟩,?_,HW.o,H0.o.2.2.2.2.2⟩,L.o.2.2.2.1,L.o.2.2.2.2.1⟩,H3.o.2.2.2.1⟩
     ·unfold aK
      rw [H1.o.1]
      refine .inr (.inr (.inr (.inr ⟨HW.o.well.congr H3.o.2.2.2.1,zj,rfl⟩)))
     rw [uU]
     refine ((List.reverse_perm ys).append_right A).trans (Zm.trans ?_)
     exact ((H0.o.2.1.append_right ys).trans (H6.o.2.2.2.2.2.2.2.1.append_left _)).trans H3.o.2.2.2.2.1.symm
theorem AW (w:World) (c:Nat->Nat) (br:Nat) (by_:Int) (R:Rws) (la:Option Addr) (lc:Nat) (l:List OpX) (h:RepOwn B w c br by_ R) (hE:EnvE B ad w) (hin:OpsIn w la l) (hs:il l) (hn:(aQ R).length+l.length<=250):
  Calls prog 35 #[.pointer (some ⟨br,0,none⟩),.slice la l.length lc] w (Db B ad w c br by_ R l):=
 DH w c br by_ R la lc l h hE hin hs zj zj (fun F hF=>by have:=(dY (cL _) hF).2.2.2.2;simp at this;omega)
end
section
open Go
theorem rT (a b:Int×Int):bM a.1 a.2 b.1 b.2=true↔CLt a b:=by
 unfold bM CLt
 split<;>simp<;>omega
def SiftAt (S l:List OpX) (i:Nat) (fresh:List OpX):Prop:=bw S 0 [] l=bw S i fresh (l.drop i)/\FreshK S fresh/\fresh.length<=i
theorem SiftAt.start (S l:List OpX):SiftAt S l 0 []:=⟨rfl,cL S,vB _⟩
theorem drop_one (hx:l[i]? =some x):l.drop i=x::l.drop (i+1):=by
 have hi:=(vA.1 hx).1
 rw [uK hi,(vA.1 hx).2]
theorem SiftAt.bad {fresh:List OpX} (h:SiftAt S l i fresh) (hx:l[i]? =some x) (he:ai x≠0):aK S l (.inl ((i:Int),ai x)):=by
 unfold aK
 rw [h.1,drop_one hx,gV he]
theorem SiftAt.other {fresh:List OpX} {y:OpX} (h:SiftAt S l i fresh) (hx:l[i]? =some x) (he:ai x=0) (hl:ax (S++fresh) (byO x) (aw x)=some y) (hy:y≠x):aK S l (.inl ((i:Int),7)):=by
 unfold aK
 rw [h.1,drop_one hx,ce he hl hy]
theorem SiftAt.same {fresh:List OpX} (h:SiftAt S l i fresh) (hx:l[i]? =some x) (he:ai x=0) (hl:ax (S++fresh) (byO x) (aw x)=some x):SiftAt S l (i+1) fresh:=by
 refine ⟨?_,h.2.1,by have:=h.2.2;omega⟩
 rw [h.1,drop_one hx,dS he hl]
theorem SiftAt.more {fresh:List OpX} (h:SiftAt S l i fresh) (hx:l[i]? =some x) (he:ai x=0) (hl:ax (S++fresh) (byO x) (aw x)=none):SiftAt S l (i+1) (fresh++ [x]):=by
 refine ⟨?_,h.2.1.snoc he hl,by have:=h.2.2;simp;omega⟩
 rw [h.1,drop_one hx,ee he hl]
theorem SiftAt.all {fresh:List OpX} (h:SiftAt S l i fresh) (hi:l.length<=i):bw S 0 [] l= .inr fresh:=by
 rw [h.1,ZQ hi]
 rfl
theorem nL {fresh:List OpX} (h1:∀x∈S,∀y∈S,byO x=byO y->aw x=aw y->x=y) (hF:FreshK S fresh):∀x∈S++fresh,∀y∈S++fresh,byO x=byO y->aw x=aw y->x=y:=by
 intro x hx y hy e1 e2
 rcases vL.1 hx with hx | hx<;>rcases vL.1 hy with hy | hy
 ·exact h1 x hx y hy e1 e2
 ·exact absurd ⟨e1,e2⟩ (hF.off y hy x hx)
 ·exact absurd ⟨e1.symm,e2.symm⟩ (hF.off x hx y hy)
 obtain ⟨i,hi,rfl⟩:=List.mem_iff_getElem.1 hx
 obtain ⟨j,hj,rfl⟩:=List.mem_iff_getElem.1 hy
 rcases Zw i j with q | q | q
 ·exact absurd ⟨e1,e2⟩ (ub.1 hF.one i j hi hj q)
 ·subst q;rfl
 exact absurd ⟨e1.symm,e2.symm⟩ (ub.1 hF.one j i hj hi q)
def sK (T:List OpX) (x:OpX):Bool:=decide (aw x≠1) &&(ax T (byO x) (aw x - 1)).isNone
def fH (T:List OpX) (x:OpX):Bool:=decide (aw x≠1) &&(match ax T (byO x) (aw x - 1) with
 | some o=> !bM o.1 o.2.1 x.1 x.2.1
 | none=>false)
theorem gapB_iff :T.any (sK T)=true↔Gap T:=by
 rw [ZD]
 unfold Gap sK
 constructor
 ·rintro ⟨x,hx,h⟩
  rw [uL,decide_eq_true_eq,Option.isNone_iff_eq_none] at h
  refine ⟨x,hx,h.1,fun ⟨y,hy,e1,e2⟩=>lookK_none.1 h.2 y hy ⟨e1,zj⟩⟩
 rintro ⟨x,hx,h1,h2⟩
 refine ⟨x,hx,?_⟩
 rw [uL,decide_eq_true_eq,Option.isNone_iff_eq_none]
 exact ⟨h1,lookK_none.2 (fun y hy q=>h2 ⟨y,hy,q.1,zj⟩)⟩
theorem rt (h1:∀x∈T,∀y∈T,byO x=byO y->aw x=aw y->x=y) (hok:∀x∈T,ai x=0):T.any (fH T)=true↔Falls T:=by
 rw [ZD]
 unfold Falls fH
 constructor
 ·rintro ⟨x,hx,h⟩
  rw [uL,decide_eq_true_eq] at h
  cases hl:ax T (byO x) (aw x - 1) with
  | none=>rw [hl] at h;cases h.2
  | some o=>
   rw [hl] at h
   obtain ⟨ho,e1,e2⟩:=eD hl
   refine ⟨o,ho,x,hx,e1,zj,fun q=> ?_⟩
   have:=(rT (stO o) (stO x)).2 q
   have h2:(!bM o.1 o.2.1 x.1 x.2.1)=true:=h.2
   unfold stO at this
   dsimp only at this
   rw [this] at h2
   cases h2
 rintro ⟨x,hx,y,hy,e1,e2,e3⟩
 refine ⟨y,hy,?_⟩
 have hn:=oM (hok x hx)
 have hl:ax T (byO y) (aw y - 1)=some x:=by
  have:=oS h1 hx
  rw [e1,show aw x=aw y - 1 by omega] at this
  exact this
 rw [uL,decide_eq_true_eq,hl]
 refine ⟨zj,?_⟩
 have:bM x.1 x.2.1 y.1 y.2.1=false:=by
  cases hb:bM x.1 x.2.1 y.1 y.2.1 with
  | false=>rfl
  | true=>exact absurd ((rT (stO x) (stO y)).1 hb) e3
 show (!bM x.1 x.2.1 y.1 y.2.1)=true
 rw [this]
 rfl
def sI (T:List OpX) (x:OpX):Bool:=((decide (kdO x=109) &&decide (idO x=aM x)) ||eW T (aM x)) &&((!decide (kdO x=109) ||wy T (aN x)) &&(!((decide (kdO x=105) &&decide (0<aN x)) ||decide (kdO x=100)) ||fK T (aM x) (aN x)))
theorem plcB_iff {nd:Int} :wy T nd=true↔(nd=0\/nd=1\/KnownN T nd):=by
 unfold wy
 rw [Zo,Zo,decide_eq_true_eq,decide_eq_true_eq,knownB_iff]
theorem refB_iff :sI T x=true↔RefOk T x:=by
 unfold sI RefOk
 rw [uL,uL,Zo,Zo,Zo,uL,knownB_iff,plcB_iff,si]
 simp only [decide_eq_true_eq,Bool.not_eq_true',decide_eq_false_iff_not,Bool.or_eq_false_iff,Bool.and_eq_false_iff]
 refine and_congr Iff.rfl (and_congr ?_ ?_)
 ·constructor
  ·rintro (h | h) q
   ·exact absurd q h
   exact h
  intro h
  by_cases q:kdO x=109
  ·exact .inr (h q)
  exact .inl q
 constructor
 ·rintro (h | h) q
  ·rcases q with ⟨q1,q2⟩ | q
   ·rcases h.1 with r | r
    ·exact absurd q1 r
    exact absurd q2 r
   exact absurd q h.2
  exact h
 intro h
 by_cases q:(kdO x=105/\0<aN x)\/kdO x=100
 ·exact .inr (h q)
 refine .inl ⟨?_,fun r=>q (.inr r)⟩
 by_cases r:kdO x=105
 ·exact .inr (fun t=>q (.inl ⟨r,t⟩))
 exact .inl r
end
section
open Go
def OneK (S:List OpX):Prop:=∀x∈S,∀y∈S,byO x=byO y->aw x=aw y->x=y
theorem OneK.perm (h:OneK S) (e:S.Perm S'):OneK S':=fun x hx y hy=>h x (e.mem_iff.2 hx) y (e.mem_iff.2 hy)
theorem Cm (h:OneK S) (e:S.Perm S') (b n:Int):ax S b n=ax S' b n:=by
 cases hl:ax S b n with
 | none=>exact (lookK_none.2 (fun x hx=>lookK_none.1 hl x (e.mem_iff.2 hx))).symm
 | some x=>
  obtain ⟨hx,e1,e2⟩:=eD hl
  have:=oS (h.perm e) (e.mem_iff.1 hx)
  rw [e1,e2] at this
  exact this.symm
theorem kU {S S':List OpX} (h:OneK S) (e:S.Perm S'):∀(l:List OpX) (i:Nat) (fresh:List OpX),FreshK S fresh->bw S i fresh l=bw S' i fresh l
 | [],i,fresh,_=>rfl
 | o::t,i,fresh,hF=>by
  have hl:=Cm (S:=S++fresh) (S':=S'++fresh) (nL h hF) (e.append_right fresh) (byO o) (aw o)
  by_cases he:ai o=0
  ·cases hk:ax (S++fresh) (byO o) (aw o) with
   | none=>
    rw [ee he hk,ee he (hl▸hk),kU h e t (i+1) (fresh++ [o]) (hF.snoc he hk)]
   | some x=>
    by_cases hx:x=o
    ·subst hx
     rw [dS he hk,dS he (hl▸hk),kU h e t (i+1) fresh hF]
    rw [ce he hk hx,ce he (hl▸hk) hx]
  rw [gV he,gV he]
theorem lz (h:WellK S):¬Gap S:=fun ⟨x,hx,h1,h2⟩=>by
 rcases h.gap x hx with q | q
 ·exact h1 q
 exact h2 q
theorem kI (h:WellK S):¬Falls S:=fun ⟨x,hx,y,hy,e1,e2,e3⟩=>e3 (h.rise x hx y hy e1 e2)
theorem ik {a a':(Int×Nat)⊕List OpX} (h:aK S l a) (h':aK S l a'):a=a':=by
 unfold aK at h h'
 cases hs:bw S 0 [] l with
 | inl p=>
  obtain ⟨i,c⟩:=p
  rw [hs] at h h'
  exact h.trans h'.symm
 | inr fresh=>
  rw [hs] at h h'
  dsimp only at h h'
  rcases h with ⟨q1,rfl⟩ | ⟨q1,q2,rfl⟩ | ⟨q1,q2,q3,rfl⟩ | ⟨q1,q2,rfl⟩ | ⟨q1,q2,rfl⟩<;>rcases h' with ⟨r1,rfl⟩ | ⟨r1,r2,rfl⟩ | ⟨r1,r2,r3,rfl⟩ | ⟨r1,r2,rfl⟩ | ⟨r1,r2,rfl⟩
  all_goals first
   | rfl
   | exact absurd q1 r1
   | exact absurd r1 q1
   | exact absurd q2 r2
   | exact absurd r2 q2
   | exact absurd q1 (lz r1)
   | exact absurd r1 (lz q1)
   | exact absurd q2 (kI r1)
   | exact absurd r2 (kI q1)
   | (obtain ⟨x,hx,hn⟩:=q3;exact absurd (r1.refs x hx) hn)
   | (obtain ⟨x,hx,hn⟩:=r3;exact absurd (q1.refs x hx) hn)
   | omega
theorem gx (h1:OneK S) (e:S.Perm S') {a:(Int×Nat)⊕List OpX} (h:aK S l a):aK S' l a:=by
 unfold aK at h |-
 rw [<-kU h1 e l 0 [] (cL S)]
 cases hs:bw S 0 [] l with
 | inl p=>
  obtain ⟨i,c⟩:=p
  rw [hs] at h
  exact h
 | inr fresh=>
  rw [hs] at h
  dsimp only at h |-
  have em:∀x,x∈S++fresh↔x∈S'++fresh:=fun x=>(e.append_right fresh).mem_iff
  have em':∀x,x∈S'++fresh↔x∈S++fresh:=fun x=>(em x).symm
  have hl:=e.length_eq
  rcases h with ⟨q1,rfl⟩ | ⟨q1,q2,rfl⟩ | ⟨q1,q2,q3,rfl⟩ | ⟨q1,q2,rfl⟩ | ⟨q1,q2,rfl⟩
  ·exact .inl ⟨q1.congr em,rfl⟩
  ·exact .inr (.inl ⟨fun r=>q1 (r.congr em'),q2.congr em,rfl⟩)
  ·refine .inr (.inr (.inl ⟨fun r=>q1 (r.congr em'),fun r=>q2 (r.congr em'),?_,rfl⟩))
   obtain ⟨x,hx,hn⟩:=q3
   exact ⟨x,(em x).1 hx,fun r=>hn (r.mono (fun y hy=>(em y).2 hy))⟩
  ·exact .inr (.inr (.inr (.inl ⟨q1.congr em,zj,rfl⟩)))
  exact .inr (.inr (.inr (.inr ⟨q1.congr em,zj,rfl⟩)))
theorem Cx {fresh:List OpX} (hs:bw S 0 [] l= .inr fresh) (h:(S++fresh).any (sK (S++fresh))=true):aK S l (.inl (-1,9)):=by
 unfold aK
 rw [hs]
 exact .inl ⟨gapB_iff.1 h,rfl⟩
theorem wE {fresh:List OpX} (hw:WellK S) (hF:FreshK S fresh) (hs:bw S 0 [] l= .inr fresh) (hg:(S++fresh).any (sK (S++fresh))=false) (hT:T.Perm (S++fresh)):
  ((S++fresh).any (fH (S++fresh))=true->aK S l (.inl (-1,3)))/\((S++fresh).any (fH (S++fresh))=false->(T.any (fun x=> !sI T x)=true->aK S l (.inl (-1,6)))/\(T.any (fun x=> !sI T x)=false->(400<S.length+fresh.length->aK S l (.inl (-1,8)))/\(S.length+fresh.length<=400->aK S l (.inr fresh)))):=by
 have h1:=nL hw.one hF
 have hok:∀x∈S++fresh,ai x=0:=fun x hx=>by
  rcases vL.1 hx with q | q
  ·exact hw.ok x q
  exact hF.ok x q
 have hG:¬Gap (S++fresh):=fun q=>by rw [gapB_iff.2 q] at hg;cases hg
 refine ⟨fun hf=> ?_,fun hf=> ?_⟩
 ·unfold aK
  rw [hs]
  exact .inr (.inl ⟨hG,(rt h1 hok).1 hf,rfl⟩)
 have hFa:¬Falls (S++fresh):=fun q=>by rw [(rt h1 hok).2 q] at hf;cases hf
 refine ⟨fun hr=> ?_,fun hr=> ?_⟩
 ·unfold aK
  rw [hs]
  obtain ⟨x,hx,hn⟩:=ZD.1 hr
  refine .inr (.inr (.inl ⟨hG,hFa,⟨x,hT.mem_iff.1 hx,fun q=> ?_⟩,rfl⟩))
  have:=refB_iff.2 (q.mono (fun y hy=>hT.mem_iff.2 hy))
  rw [this] at hn
  cases hn
 have hW:WellK (S++fresh):=by
  refine ⟨hok,h1,fun x hx=> ?_,fun x hx y hy e1 e2=> ?_,fun x hx=> ?_⟩
  ·by_cases q:aw x=1
   ·exact .inl q
   right
   by_cases r:∃y∈S++fresh,byO y=byO x/\aw y+1=aw x
   ·exact r
   exact absurd ⟨x,hx,q,r⟩ hG
  ·by_cases q:CLt (stO x) (stO y)
   ·exact q
   exact absurd ⟨x,hx,y,hy,e1,e2,q⟩ hFa
  have hb:sI T x=true:=by
   cases hb:sI T x with
   | true=>rfl
   | false=>
    exfalso
    have:T.any (fun x=> !sI T x)=true:=ZD.2 ⟨x,hT.mem_iff.2 hx,by rw [hb];rfl⟩
    rw [this] at hr
    cases hr
  exact (refB_iff.1 hb).mono (fun y hy=>hT.mem_iff.1 hy)
 refine ⟨fun hn=> ?_,fun hn=> ?_⟩
 ·unfold aK
  rw [hs]
  exact .inr (.inr (.inr (.inl ⟨hW,hn,rfl⟩)))
 unfold aK
 rw [hs]
 exact .inr (.inr (.inr (.inr ⟨hW,hn,rfl⟩)))
end
section
open Go Go.RowKit Go.Lib Go.Sort
theorem Cp (ho:w.ownsRow base 61 8 v n xs) (hn:n<=2000) (hbase:base<=w.heap.size) (ap:Option Addr) (c:Nat) (ys:List OpX) (hy:ys.length<=2000) (hap:OpsIn w ap ys) (hc:ap=none->c=0) (ty:TypeId):
  ∃v' w',(Builtin.append_ #[25,25] ty #[v,.slice ap ys.length c]).run prog w= .ok v' w'/\w'.ownsRow base 61 8 v' (n+ys.length) (xs++cellsOf ys)/\w.grownBy w' v.ownBlock:=by
 obtain ⟨i0,hi,hz0,hz1,hz2⟩:=info_parts fw
 cases ap with
 | none=>
  have h0:ys= []:=by
   rcases hap with h | ⟨_,_,h,_⟩
   ·exact h
   cases h
  subst h0
  rw [hc rfl]
  refine ⟨v,w,run_append_owned_none w base _ ty _ i0 8 underlying25 hi v n xs ho,by simpa [cellsOf] using ho,⟨rfl,rfl,rfl,vB _,fun _ _ _=>rfl⟩⟩
 | some a=>
  have hl:(cellsOf ys).length=ys.length*8:=aD ys
  obtain ⟨v',w',h1,h2,h3,-⟩:=run_append_own (P:=prog) w base 25 ty 61 i0 _ 8 80 underlying25 hi hz0 hz1 hz2 rfl zj v n xs ho a ys.length c (cellsOf ys) hl (fun j u hj=>by
   rcases hap with h | ⟨b,o,h,hcell⟩
   ·subst h;simp [cellsOf] at hj
   ·cases h
    rw [Addr.add_lit]
    exact hcell j u hj) (fun u hu=>by
    obtain ⟨x,_,hx⟩:=List.mem_flatMap.1 hu
    simp only [bq,vJ,Zr,or_false] at hx
    rcases hx with rfl | rfl | rfl | rfl | rfl | rfl | rfl | rfl<;>rfl) zA zj hbase
  exact ⟨v',w',h1,h2,h3⟩
theorem lT (c:Int) (w:World):Calls prog 28 #[.int .i64 c] w fun e w'=>e= .returned (.agg #[.int .i64 c,.int .i64 (-1)])/\Aside (Below w.heap.size w w'):=by
 go_enter func28,ntmps28
 go_wp2
 refine bodyPost_ret (v:=.agg #[.int .i64 c,.int .i64 (-1)]) (by simp [results,results28,go_sem]) rfl ⟨rfl,zh _ _⟩
theorem Az (w:World):Calls prog 7 #[] w fun e w'=>e= .returned (.agg #[.int .i64 0,.int .i64 (-1)])/\Aside (Below w.heap.size w w'):=by
 go_enter func7,ntmps7
 go_wp2
 refine bodyPost_ret (v:=.agg #[.int .i64 0,.int .i64 (-1)]) (by simp [results,results7,go_sem]) rfl ⟨rfl,zh _ _⟩
theorem Bg {fn:Func} {p u:Tmp} {ty:TypeId} (h:fn.results= #[.tmp u,.cell p ty]) (tmps:Array Value) (P:Program) (w:World):
  (results fn tmps).run P w=
   ((asAddr (tmps.getD p undef)).run P w).andThen fun a w1=>((loadVar ty a).run P w1).andThen fun v w2=>.ok (.tuple #[tmps.getD u undef,v]) w2:=by
 exact km0
end
section
open Go Go.RowKit Go.Lib Go.Sort
def OE (S:List OpX) (i:Nat):Nat:=S.countP (fun x=>decide (byO x=(i:Int)))
theorem MB {e:TypeId} (h:w.ownsRow base e k v n xs) (hs:∀g,v.ownBlock=some g->w'.heap[g]? =w.heap[g]?):w'.ownsRow base e k v n xs:=by
 refine ⟨h.1,?_⟩
 rcases h.2 with q | ⟨g,cap,cur,rfl,hb,hg,rest⟩
 ·exact .inl q
 exact .inr ⟨g,cap,cur,rfl,hb,(hs g rfl).trans hg,rest⟩
theorem Nk (w:World) (x:OpX):∀j u,(bq x)[j]? =some u->(w.alloc (.cells #[.int .i64 x.1,.int .i64 x.2.1,.int .i64 x.2.2.1,.int .u8 (x.2.2.2.1:Int),.int .i64 x.2.2.2.2.1,.int .i64 x.2.2.2.2.2.1,.string x.2.2.2.2.2.2.1,.string x.2.2.2.2.2.2.2] 61)).cell? ((⟨w.heap.size,0,none⟩:Addr).add j)=some u:=
 Zj (cs:= #[.int .i64 x.1,.int .i64 x.2.1,.int .i64 x.2.2.1,.int .u8 (x.2.2.2.1:Int),.int .i64 x.2.2.2.2.1,.int .i64 x.2.2.2.2.2.1,.string x.2.2.2.2.2.2.1,.string x.2.2.2.2.2.2.2]) (t:=61) (fr:=(0,0)) (heap_alloc_new w _)
theorem OV (x:OpX):∀u∈bq x,u.oneCell'=true:=by
 intro u hu
 simp only [bq,vJ,Zr,or_false] at hu
 rcases hu with rfl | rfl | rfl | rfl | rfl | rfl | rfl | rfl<;>rfl
theorem tN (xs:List OpX) (x:OpX):cellsOf (xs++ [x])=cellsOf xs++bq x:=xA
end
section
open Go.RowKit
theorem nc (W:World) (hb:b<=W.heap.size):∃w0:World,w0.heap.size=b:=⟨{W with heap:=W.heap.extract 0 b},zq⟩
theorem IG (h:W.heap[b]? =some (.map #[] 0)):TMapAt W b 0 noT:=by
 obtain ⟨w0,rfl⟩:=nc W (ZG (vD.1 h).1)
 exact (wW w0).same (h.trans (heap_alloc_new w0 _).symm)
theorem Gh (h:W.heap[b]? =some (.map #[] 0)):CMapAt W b 0 noC:=by
 obtain ⟨w0,rfl⟩:=nc W (ZG (vD.1 h).1)
 exact (wI w0).same (h.trans (heap_alloc_new w0 _).symm)
theorem KO (h:W.heap[b]? =some (.map #[] 0)):MapAt prog 3 W b 0 mh:=by
 obtain ⟨w0,rfl⟩:=nc W (ZG (vD.1 h).1)
 exact (Bi w0).same (h.trans (heap_alloc_new w0 _).symm)
def dx (bt bm bx bc cm br:Nat):Nat->Nat:=fun k=>if k=br then 1 else if k=bt\/k=bm then 2 else if k=bx then 3 else if k=bc\/k=cm then 4 else 0
def Ju (w:World) (by_:Int) (e:Ending) (w':World):Prop:=∃c br,e= .returned (.tuple #[.pointer (some ⟨br,0,none⟩),.nilIface])/\RepOwn w.heap.size w' c br by_ (fun _=>[])/\Below w.heap.size w w'
theorem lC {b:Int} (h0:0<=b) (h4:b<4) (bt bm bx bc cm br:Nat) (hb:Below w.heap.size w W)
  (l1:w.heap.size<=bt) (l2:w.heap.size<=bm) (l3:w.heap.size<=bx) (l4:w.heap.size<=bc) (l5:w.heap.size<=cm) (l6:w.heap.size<=br)
  (d1:bt≠br) (d2:bm≠br) (d3:bx≠br/\bx≠bt/\bx≠bm) (d4:bc≠br/\bc≠bt/\bc≠bm/\bc≠bx) (d5:cm≠br/\cm≠bt/\cm≠bm/\cm≠bx)
  (e1:W.heap[bt]? =some (.cells #[.map (some bm),.slice none 0 0] 196 (0,0))) (e2:W.heap[bm]? =some (.map #[] 0)) (e3:W.heap[bx]? =some (.map #[] 0))
  (e4:W.heap[bc]? =some (.cells #[.map (some cm)] 218 (0,0))) (e5:W.heap[cm]? =some (.map #[] 0))
  (e6:W.heap[br]? =some (.cells #[.int .i64 0,.int .i64 b,.slice none 0 0,.slice none 0 0,.slice none 0 0,.slice none 0 0,.pointer (some ⟨bt,0,none⟩),.map (some bx),.pointer (some ⟨bc,0,none⟩)] 117 (0,0))):
  Ju w b (.returned (.tuple #[.pointer (some ⟨br,0,none⟩),.nilIface])) W:=by
 have hlt:∀ {k:Nat} {o:Obj},W.heap[k]? =some o->k<W.heap.size:=fun h=>(vD.1 h).1
 have u1:dx bt bm bx bc cm br br=1:=by unfold dx;simp
 have u2:dx bt bm bx bc cm br bt=2:=by unfold dx;simp [d1]
 have u3:dx bt bm bx bc cm br bm=2:=by unfold dx;simp [d2]
 have u4:dx bt bm bx bc cm br bx=3:=by unfold dx;simp [d3.1,d3.2.1,d3.2.2]
 have u5:dx bt bm bx bc cm br bc=4:=by unfold dx;simp [d4.1,d4.2.1,d4.2.2.1,d4.2.2.2]
 have u6:dx bt bm bx bc cm br cm=4:=by unfold dx;simp [d5.1,d5.2.1,d5.2.2.1,d5.2.2.2]
 refine ⟨dx bt bm bx bc cm br,br,rfl,⟨⟨0,fun _=>.slice none 0 0,bt,bx,bc,[],⟨e6,u1,?_,?_,?_,?_,Ft⟩,by unfold aQ;exact List.Perm.refl _,pG,h0,h4⟩,fun k hk=> ?_,fun k hk=> ?_⟩,hb⟩
 ·exact fun i hi=>⟨uf _ _ _ _,fun g hg=>jl⟩
 ·refine ⟨bm,.slice none 0 0,[],⟨e1,⟨[],FP,uf _ _ _ _⟩,⟨0,zt,KO e2⟩,List.Pairwise.nil,fun m hm=>by simp at hm⟩,List.Perm.refl _,u2,u3,fun g hg=>jl⟩
 ·refine ⟨0,noT,vB _,IG e3,u4,fun nd=>⟨fun h=>qD,fun ⟨x,hx,_⟩=>(by cases hx)⟩,fun nd p hp=>by cases hp⟩
 ·exact ⟨cm,[],⟨e4,Gh e5⟩,List.Perm.refl _,u5,u6⟩
 ·by_cases q:k=br\/k=bt\/k=bm\/k=bx\/k=bc\/k=cm
  ·rcases q with rfl | rfl | rfl | rfl | rfl | rfl<;>assumption
  exact absurd (by unfold dx;simp only [not_or] at q;simp [q.1,q.2.1,q.2.2.1,q.2.2.2.1,q.2.2.2.2.1,q.2.2.2.2.2]) hk
 have:=hlt e1;have:=hlt e2;have:=hlt e3;have:=hlt e4;have:=hlt e5;have:=hlt e6
 unfold dx
 rw [if_neg zj,if_neg zj,if_neg zj,if_neg zj]
end
section
open Go.RowKit Go.Lib Go.Sort Go.Maps
