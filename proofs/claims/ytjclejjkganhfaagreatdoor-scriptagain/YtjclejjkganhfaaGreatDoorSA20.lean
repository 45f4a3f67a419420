import Derived.Test.YtjclejjkganhfaaGreatDoorSA18
import Derived.Test.YtjclejjkganhfaaGreatDoorSA19
set_option linter.unusedSimpArgs false
set_option linter.unusedVariables false
set_option maxRecDepth 100000
set_option maxHeartbeats 64000000
namespace Go.Proofs.YtjclejjkganhfaaGreatDoor
open Go.Proofs.Tryz
section
open RowKit Lib Go.Sort
theorem nA{xs ys}(h:nH xs ys):ys.Perm xs/\ys.Pairwise (fun a b=>¬CLt (stO b) (stO a)):=by
 obtain ⟨d',⟨hp,hs⟩,rfl⟩:=h;have hsz:=mt xs
 have dl:PermIn 0 (pD xs).size (pD xs) d':=by rw [hsz];exact hp
 have hd:d'.size=xs.length:=by have:=hp.1;rw [this,hsz]
 have hperm:=Is dl
 have hfst:(pD xs).toList.map Prod.fst=xs:=by
  unfold pD;simp
 refine ⟨?_,?_⟩
 ·have:=hperm.map Prod.fst;rw [hfst] at this;exact this.symm
 have hl:=JB d' (by rw [hd];exact hs);rw [YE];refine hl.imp (fun {a b} q=> ?_);have:=(slt_false.1 q).1
 grind [ltX,CK,stO,pY,decide_eq_true]
theorem KL{ys:qX}(hs:ys.Pairwise (fun a b=>¬CLt (stO b) (stO a)))(hn:ys.Pairwise (fun a b=>stO a≠stO b)):ys.Pairwise (fun a b=>CLt (stO a) (stO b)):=
 (hs.and hn).imp (fun {a b} h=>by
  grind)
def zep(v:Value):Option Addr:=match v with
 | .slice a _ _=>a
 | _=>none
def zb2(v:Value):Nat:=match v with
 | .slice _ _ c=>c
 | _=>0
theorem Nh{w}{c}{kv}{R}(h:E6 w c kv R){i}(hi:i<4):kv i=kvs (fun j=>zep (kv j)) (fun j=>zb2 (kv j)) R i:=by
 obtain ⟨a,cp,e⟩:=mC (h i hi).1
 show kv i= .slice (zep (kv i)) (R i).length (zb2 (kv i))
 rw [e];rfl
theorem E6.congr{w}{c}{kv kv'}{R}(h:E6 w c kv R)(e:∀i,i<4->kv i=kv' i):E6 w c kv' R:=fun i hi=>by rw [<-e i hi];exact h i hi
theorem n7.congr{w}{br}{T o8}{kv kv'}{bt bx bc}(h:n7 w br T o8 kv bt bx bc)(e:∀i,i<4->kv i=kv' i):n7 w br T o8 kv' bt bx bc:=by
 grind [n7]
theorem I2.aaY{w}{c}{br}{T o8}{kv}{bt bx bc}{R}{A}(h:I2 w c br T o8 kv bt bx bc R A):∃ao cap,I2 w c br T o8 (kvs ao cap R) bt bx bc R A:=
 ⟨_,_,h.cell.congr (fun i hi=>Nh h.D6 hi),h.B9,h.D6.congr (fun i hi=>Nh h.D6 hi),h.Z8,h.P9,h.P5,h.time⟩
structure C8 (B:Nat) (w:qW) (c:Nat->Nat) (br:Nat) (o8:Int) (R:Rws):Prop where
 G4:L0 w c br o8 R
 low:∀k,c k≠0->B<=k
 high:∀k,w.heap.size<=k->c k=0
theorem C8.later{B}{w w'}{c}{br}{o8}{R}(h:C8 B w c br o8 R)(hb:qL w w'):C8 B w' c br o8 R:=⟨h.G4.later hb,h.low,fun k hk=>h.high k (uQ hb.size hk)⟩
theorem zbg(R){i}(hi:i<4)(o):(lY (upR R i (R i++ [o]))).Perm (lY R++ [o]):=by
 have sw:∀(a b:qX),(a++ [o]++b).Perm (a++b++ [o]):=fun a b=>by
  grind [Zr,Ys]
 unfold lY upR;have h4:i=0\/i=1\/i=2\/i=3:=zj
 rcases h4 with rfl | rfl | rfl | rfl
 ·grind
 ·grind
 ·grind
 simp
theorem DX:∀(F:qX) (R:Rws) (z:Bool) (R':Rws) (z':Bool),(∀x∈F,mz x=0)->oD R z F=some (R',z')->(lY R').Perm (lY R++F)
 | [],R,z,R',z',_,h=>by
  simp_all [oD,Ye]
 | o::t,R,z,R',z',ho,h=>by
  obtain ⟨i,hi,hb,i8⟩:=Ab (ho o Zq);rw [oD,i8] at h;split at h
  ·have ih:=DX t _ _ R' z' (fun x hx=>ho x (Za _ hx)) h;refine ih.trans ?_;have:=(zbg R hi o).append_right t
   simp_all
  cases h
theorem Fa{R}(h:I3 R){ys:qX}(hm:∀x∈ys,x∈lY R)(hp:ys.Pairwise (fun x y=>¬(byO x=byO y/\mB x=mB y))):ys.Pairwise (fun a b=>stO a≠stO b):=
 hp.imp_of_mem (fun {a b} ha hb q e=>q (by rw [h.J (hm a ha) (hm b hb) e];exact ⟨rfl,rfl⟩))
theorem I2.ab9{w}{c c'}{br}{T o8}{kv}{bt bx bc}{R}{A}(h:I2 w c br T o8 kv bt bx bc R A)(e:∀k,k<w.heap.size->c' k=c k):I2 w c' br T o8 kv bt bx bc R A:=h.kept (fun i _=>⟨fun _ _ _=>rfl,e⟩)
def Ho(w w':qW)(c c2:Nat->Nat):Nat->Nat:=fun k=>if k<w.heap.size then c k else if k<w'.heap.size then c2 k else 0
theorem Ks{w w'}{c c2}(hh:∀k,k<w.heap.size->c2 k=c k){k}(hk:k<w'.heap.size):Ho w w' c c2 k=c2 k:=by
 simp_all [Ho,if_pos,if_neg]
theorem Ql{B}{w w'}{c c2}{br}{T o8}{kv}{bt bx bc}{R}{A}(hm:I2 w' c2 br T o8 kv bt bx bc R A)(hp:A.Perm (lY R))(hK:t7 R)(hb:0<=o8/\o8<4)(hk:m7 (fun k=>c k≠0) w w')(hh:∀k,k<w.heap.size->c2 k=c k)(hB:∀k,c k≠0->B<=k)(bI:B<=w.heap.size):∃c',M5 w c w' c'/\C8 B w' c' br o8 R:=by
 refine ⟨Ho w w' c c2,⟨hk,fun k q=>if_pos q⟩,⟨_,_,_,_,_,_,hm.ab9 (fun k q=>Ks hh q),hp,hK,hb⟩,fun k q=> ?_,fun k q=> ?_⟩
 ·unfold Ho at q
  grind
 have:=hk.size;unfold Ho
 grind
def QI(B:Nat)(ad:qF)(w:qW)(c:Nat->Nat)(br:Nat)(o8:Int)(R:Rws)(l:qX)(e:Ending)(w':qW):Prop:=∃a c',ny (lY R) l a/\M5 w c w' c'/\(match a with
 | .inl (i,cd)=>C8 B w' c' br o8 R/\∃v,e=qT #[qI 0,v]/\((i= -1/\v=eV ad cd/\cd≠0)\/(0<=i/\Rf ad w' v i cd))
 | .inr fresh=>e=qT #[qN fresh.length,.nilIface]/\∃R',C8 B w' c' br o8 R'/\∀x,x∈lY R'↔x∈lY R++fresh)
theorem Ad(R){i}(hi:i<4):(R i).length<=(lY R).length:=by
 grind [lY]
theorem Fd{B}{ad}(w)(c)(br)(o8)(R)(la)(lc)(l)(h:C8 B w c br o8 R)(hE:F1 B ad w)(ar:F2 w la l)(hs:WN l)(hR1:(lY R).length<=250)(hl1:l.length<=1000)(jD:∀F,nh (lY R) 0 [] l= .inr F->(lY R).length+F.length<=250):
  qC 116 #[qP br,.slice la l.length lc] w (QI B ad w c br o8 R l):=by
 obtain ⟨T,kv,bt,bx,bc,A,hM0,hperm,hK,hb0,hb4⟩:=h.G4;obtain ⟨ao,cap,hM⟩:=hM0.aaY
 have dA:∀i,i<4->(R i).length<=250:=fun i hi=>yE
 have k2:w.cell? (qA br 2)=some (.slice (ao 0) (R 0).length (cap 0)):=hM.cell.c2;have k3:w.cell? (qA br 3)=some (.slice (ao 1) (R 1).length (cap 1)):=hM.cell.c3;have k4:w.cell? (qA br 4)=some (.slice (ao 2) (R 2).length (cap 2)):=hM.cell.c4;have k5:w.cell? (qA br 5)=some (.slice (ao 3) (R 3).length (cap 3)):=hM.cell.c5;have gY:=UX w ao cap R la lc l hE.Q1 hE.c6 (D7.r hM.D6) hK.num (fun i hi=>by have:=dA i hi;omega) ar hs zj;unfold kV at gY
 have H0:Aside (I2 w c br T o8 (kvs ao cap R) bt bx bc R A/\A.Perm (lY R)/\t7 R/\C8 B w c br o8 R/\F1 B ad w/\0<=o8/\o8<4):=⟨hM,hperm,hK,h,hE,hb0,hb4⟩
 have HF1:Aside (∀F,nh (lY R) 0 [] l= .inr F->(lY R).length+F.length<=250):=jD;go_enter func116,ntmps116;go_wp2_with fail;refine gY.mono ?_;rintro e w1 ⟨hso,hb1⟩
 cases hsf:nh (lY R) 0 [] l with
 | inl ic=>
  obtain ⟨i,cd⟩:=ic;rw [hsf] at hso;obtain ⟨v,rfl,blk,rfl,hblk⟩:=hso
  have HF:Aside (nh (lY R) 0 [] l= .inl (i,cd)/\qL w w1/\w1.heap[blk]? =some (.cells #[qN i,eV ad cd] 71 (0,0))):=⟨hsf,hb1,hblk⟩
  go_wp2;go_ret2;refine ⟨.inl ((i:Int),cd),c,?_,M5.y c HF.o.2.1,H0.o.2.2.2.1.later HF.o.2.1,_,rfl,.inr ⟨Int.natCast_nonneg _,blk,rfl,HF.o.2.2⟩⟩;unfold ny;rw [HF.o.1]
 | inr fresh=>
  rw [hsf] at hso;obtain ⟨v,rfl,hrow⟩:=hso;obtain ⟨fa,fc,rfl⟩:=mC hrow;obtain ⟨g1,g2,g3,g4,g5⟩:=oN (pX _) hsf;have hn:=HF1.o fresh hsf
  have iZ:fresh.length<=l.length:=by simpa using g5
  have eF:F2 w1 fa fresh:=by
   rcases Cx hrow with ⟨_,q⟩ | ⟨b,o,cp,q1,q2⟩
   ·exact .inl q
   exact kk0
  have cM:=H0.o.1.later hb1
  have H1:Aside (nh (lY R) 0 [] l= .inr fresh/\qL w w1/\M8 (lY R) fresh/\w1.ownsRow w.heap.size 88 8 (.slice fa fresh.length fc) fresh.length (cellsOf fresh)/\I2 w1 c br T o8 (kvs ao cap R) bt bx bc R A/\F1 B ad w1):=⟨hsf,hb1,g1,hrow,cM,H0.o.2.2.2.2.1.later hb1⟩
  have j9:=Tm w1 c ao cap R fa fc fresh H1.o.2.2.2.2.2 H0.o.2.2.2.1.low cM.D6 eF g1.ok (fun k hk=>H0.o.2.2.2.1.high k (uQ hb1.size hk)) zj (fun i hi=>by have:=dA i hi;omega);have k2':w1.cell? (qA br 2)=some (.slice (ao 0) (R 0).length (cap 0)):=cM.cell.c2;have k3':w1.cell? (qA br 3)=some (.slice (ao 1) (R 1).length (cap 1)):=cM.cell.c3;have k4':w1.cell? (qA br 4)=some (.slice (ao 2) (R 2).length (cap 2)):=cM.cell.c4;have k5':w1.cell? (qA br 5)=some (.slice (ao 3) (R 3).length (cap 3)):=cM.cell.c5;unfold kV at j9;go_wp2_with fail;refine j9.mono ?_;rintro e w2 ⟨F,hFp,hFs,c2,hk2,hhue2,hold2,cn⟩;have iY:=Gp F R true H0.o.2.2.1.num (H1.o.2.2.1.G8 hFp) hFs (by simp [H0.o.2.2.1.acI])
  have hmemF:∀x,x∈lY R++F↔x∈lY R++fresh:=fun x=>by simp only [uU,hFp.mem_iff]
  have gC:I2 w2 c2 br T o8 (kvs ao cap R) bt bx bc R A:=by
   have hm:=H1.o.2.2.2.2.1
   have kp:∀j,j≠0->¬(10<=j/\j<14)->EH c j w1 c2 w2:=fun j _ hj=>⟨fun k hk e=>hk2.block k hk (fun q=>hj (by rw [<-e];exact q)),hhue2⟩
   exact ⟨hm.cell.same ((kp 1 zj zj).block _ hm.cell.lt hm.B9),(hhue2 _ hm.cell.lt).trans hm.B9,hold2,hm.Z8.kept (kp 2 zj zj),hm.P9.kept (kp 3 zj zj) (fun nd _=>kp _ yl yl),hm.P5.kept (kp 4 zj zj),hm.time⟩
  have H2:Aside (I2 w2 c2 br T o8 (kvs ao cap R) bt bx bc R A/\m7 (fun k=>c k≠0) w w2/\(∀k,k<w.heap.size->c2 k=c k)/\F1 B ad w2/\(∀x,x∈lY R++F↔x∈lY R++fresh)/\F.Perm fresh/\F2 w2 fa fresh/\(∀a,fa=some a->w.heap.size<=a.block\/fresh= [])):=by
   have dG:=H1.o.2.2.2.1
   have hfa:∀g,(Value.slice fa fresh.length fc).ownBlock=some g->c g=0:=fun g hg=>H0.o.2.2.2.1.high g (dG.lt g hg).1
   have hkw:m7 (fun k=>c k≠0) w w2:=((lW H1.o.2.1).mono (fun k hk e=>absurd hk zj)).then hk2 (fun k _ e=>zj)
   refine ⟨gC,hkw,fun k hk=>hhue2 k (uY hk H1.o.2.1.size),H0.o.2.2.2.2.1.mono (hkw.m8 H0.o.2.2.2.2.1.size (fun k e=>H0.o.2.2.2.1.low k e)),hmemF,hFp,?_,?_⟩
   ·rcases Cx (oZ dG (fun g hg=>hk2.block g (dG.lt g hg).2 (fun q=>by have:=hfa g hg;omega))) with ⟨_,q⟩ | ⟨b,o,cp,q1,q2⟩
    ·exact .inl q
    exact kk0
   intro a ha
   rcases dG.2 with ⟨_,q⟩ | ⟨g,cp,cur,q1,q2,_⟩
   ·exact .inr (Zi.1 q)
   have:=(Value.slice.inj q1).1;rw [ha] at this
   cases this
   exact .inl q2
  have KC:Aside (∀w3,qL w2 w3->∃c',M5 w c w3 c'/\C8 B w3 c' br o8 R):=fun w3 hb3=>Ql (H2.o.1.later hb3) H0.o.2.1 H0.o.2.2.1 H0.o.2.2.2.2.2 (H2.o.2.1.then (lW hb3) (fun k hk e=>by have:=H2.o.2.1.size;omega)) H2.o.2.2.1 H0.o.2.2.2.1.low H0.o.2.2.2.2.1.size
  rcases iY with ⟨hnone,hgap⟩ | ⟨R',z',hsome,hngap,hN',hmem',hz',hlen',hext'⟩
  ·rw [hnone] at cn;subst cn;have HG:Aside (Gap (lY R++fresh)):=hgap.congr H2.o.2.2.2.2.1;have ev:eV ad 9= .iface 437 (.pointer (some (ad 8))):=rfl;rw [ev];go_wp2;go_ret2;obtain ⟨c',a1,a2⟩:=KC.o _ (zh w2 _);refine ⟨.inl (-1,9),c',?_,a1,a2,_,rfl,.inl ⟨rfl,rfl,zo⟩⟩;unfold ny;rw [H1.o.1];exact .inl ⟨HG.o,rfl⟩
  cases z' with
  | false=>
   rw [hsome] at cn;have cn:e= .returned (.tuple #[.agg #[qE,qE,qE,qE],eV ad 3]):=cn;subst cn
   have HG:Aside (¬Gap (lY R++fresh)/\R8 (lY R++fresh)):=⟨fun q=>hngap (q.congr (fun x=>(H2.o.2.2.2.2.1 x).symm)),by
    refine Classical.byContradiction (fun q=> ?_)
    have:=hz'.2 (fun k=>q (k.congr H2.o.2.2.2.2.1))
    cases this⟩
   have ev:eV ad 3= .iface 437 (.pointer (some (ad 2))):=rfl;rw [ev];clear hsome hngap ev hN' hmem' hz' hlen' hext';go_wp2;go_ret2;obtain ⟨c',a1,a2⟩:=KC.o _ (zh w2 _);refine ⟨.inl (-1,3),c',?_,a1,a2,_,rfl,.inl ⟨rfl,rfl,zo⟩⟩;unfold ny;rw [H1.o.1];exact .inr (.inl ⟨HG.o.1,HG.o.2,rfl⟩)
  | true=>
   rw [hsome] at cn;obtain ⟨ao',cap',rfl,hnew⟩:=cn
   have hNF:¬R8 (lY R++fresh):=fun q=>(hz'.1 rfl) (q.congr (fun x=>(H2.o.2.2.2.2.1 x).symm))
   have hNG:¬Gap (lY R++fresh):=fun q=>hngap (q.congr (fun x=>(H2.o.2.2.2.2.1 x).symm))
   have hmem:∀x,x∈lY R'↔x∈lY R++fresh:=fun x=>(hmem' x).trans (H2.o.2.2.2.2.1 x)
   have jM:I3 R':=⟨hN',fun x hx y hy e1 e2=>Classical.byContradiction (fun q=>hNF ⟨x,(hmem x).1 hx,y,(hmem y).1 hy,e1,e2,q⟩)⟩
   have eK:(lY R').length<=250:=by have:=H2.o.2.2.2.2.2.1.length_eq;omega
   have hrl':∀i,i<4->(R' i).length<=1000:=fun i hi=>by have:=Ad R' hi;omega
   have jp:∀x∈F,mz x=0:=fun x hx=>H1.o.2.2.1.ok x (H2.o.2.2.2.2.2.1.mem_iff.1 hx)
   have dB:=(DX F R true R' true jp hsome).trans (H2.o.2.2.2.2.2.1.append_left _);obtain ⟨U,hU⟩:=za (w2.alloc (.cells #[.slice (ao' 0) (R' 0).length (cap' 0),.slice (ao' 1) (R' 1).length (cap' 1),.slice (ao' 2) (R' 2).length (cap' 2),.slice (ao' 3) (R' 3).length (cap' 3)] 138))
   have ah:qL w2 U:=by rw [hU];exact zh w2 _
   obtain ⟨Q,hQ⟩:=za w2.heap.size
   have hkb:I5 U Q ao' cap' R':=by rw [hU,hQ];exact I5.GA w2 ao' cap' R'
   have hnU:=hnew.kept (fun i _=>⟨fun k hk _=>ah.block k hk,fun _ _=>rfl⟩)
   obtain ⟨zb,cQ⟩:∃zb:Bool,zb=true↔∀x∈fresh,M0 (lY R') x:=⟨@decide _ (Classical.propDecidable _),@decide_eq_true_iff _ (Classical.propDecidable _)⟩
   have iF:=Hm U ao' cap' R' fa fc fresh (H2.o.2.2.2.2.2.2.1.later ah) (fun x hx=>(hmem x).2 (ZD _ hx)) zb cQ ((H2.o.2.2.2.1.later ah).Q1) (D7.r hnU) jM hrl' zj
   have H3:Aside (I2 U c2 br T o8 (kvs ao cap R) bt bx bc R A/\E6 U c2 (kvs ao' cap' R') R'/\I3 R'/\(∀x,x∈lY R'↔x∈lY R++fresh)/\(lY R').Perm (lY R++fresh)/\¬Gap (lY R++fresh)/\¬R8 (lY R++fresh)/\(zb=true↔∀x∈fresh,M0 (lY R') x)/\qL w2 U/\I5 U Q ao' cap' R'/\Q=w2.heap.size):=⟨H2.o.1.later ah,hnU,jM,hmem,dB,hNG,hNF,cQ,ah,hkb,hQ⟩
   have HU:Aside (U=w2.alloc (.cells #[.slice (ao' 0) (R' 0).length (cap' 0),.slice (ao' 1) (R' 1).length (cap' 1),.slice (ao' 2) (R' 2).length (cap' 2),.slice (ao' 3) (R' 3).length (cap' 3)] 138)/\Q=w2.heap.size):=⟨hU,hQ⟩
   have k0:=hkb.at (i:=0) zj;have k1:=hkb.at (i:=1) zj;have k2:=hkb.at (i:=2) zj;have k3:=hkb.at (i:=3) zj
   unfold kV at iF |-
   clear hnew hNF hNG jM dB jp hU hQ ah hkb hnU cQ hsome hngap hN' hmem' hz' hlen' hext' hmem;go_upto_region 7 with fail;rw [<-HU.o.1,<-HU.o.2];go_wp2_with fail;refine iF.mono ?_;rintro e w3 ⟨rfl,hb3⟩;have gB:=H3.o.1.later hb3;have iv:=H3.o.2.2.2.2.2.2.2.2.2.1.later hb3;have E3:=(H2.o.2.2.2.1.later H3.o.2.2.2.2.2.2.2.2.1).later hb3
   have H4:Aside (I2 w3 c2 br T o8 (kvs ao cap R) bt bx bc R A/\E6 w3 c2 (kvs ao' cap' R') R'/\qL w2 w3/\I5 w3 Q ao' cap' R'/\F1 B ad w3):=⟨gB,H3.o.2.1.kept (fun i _=>⟨fun k hk _=>hb3.block k hk,fun _ _=>rfl⟩),zi H3.o.2.2.2.2.2.2.2.2.1 hb3,iv,E3⟩
   cases zb with
   | false=>
    have eg:=E3.c5
    have HN:Aside (∃x∈lY R++fresh,¬M0 (lY R++fresh) x):=by
     refine Classical.byContradiction (fun q=> ?_);have:=H3.o.2.2.2.2.2.2.2.1.2 (fun x hx=>Classical.byContradiction (fun k=>q ⟨x,ZD _ hx,fun k'=>k (k'.mono (fun y hy=>(H3.o.2.2.2.1 y).2 hy))⟩))
     cases this
    go_wp2_with fail;go_quiet (fail);go_wp2;go_ret2;obtain ⟨c',a1,a2⟩:=KC.o _ (Go.below_drewN H4.o.2.2.1 _);refine ⟨.inl (-1,6),c',?_,a1,a2,_,rfl,.inl ⟨rfl,rfl,zo⟩⟩;unfold ny;rw [H1.o.1];exact .inr (.inr (.inl ⟨H3.o.2.2.2.2.2.1,H3.o.2.2.2.2.2.2.1,HN.o,rfl⟩))
   | true=>
    have hall:=H3.o.2.2.2.2.2.2.2.1.1 rfl;have jM:=H3.o.2.2.1;have hmem:=H3.o.2.2.2.1
    have hW:D5 (lY R'):=⟨jM.num.ok,jM.num.one,jM.num.gap,jM.up,fun x hx=>by
     rcases uU.1 ((hmem x).1 hx) with q | q
     ·exact (H0.o.2.2.1.G5.Q6 x q).mono (fun y hy=>(hmem y).2 (Zo _ hy))
     ·exact hall x q⟩
    have HW:Aside (t7 R'):=⟨jM.num,hW⟩
    have dn:decide ((400:Int)<((lY R').length:Int))=false:=zl;have dn':decide (400<(lY R').length)=false:=zl;have bA:=DR w3 ao' cap' R' hrl';unfold kV at bA;have k0:=iv.at (i:=0) zj;have k1:=iv.at (i:=1) zj;have k2:=iv.at (i:=2) zj;have k3:=iv.at (i:=3) zj;go_wp2_with fail;refine bA.mono ?_;rintro e w4 ⟨rfl,hb4'⟩;have hM4:=H4.o.1.later hb4';have iu:=H4.o.2.2.2.1.later hb4';have k0:=iu.at (i:=0) zj;have k1:=iu.at (i:=1) zj;have k2:=iu.at (i:=2) zj;have k3:=iu.at (i:=3) zj;have q2:=hM4.cell.c2;have q3:=hM4.cell.c3;have q4:=hM4.cell.c4;have q5:=hM4.cell.c5;have qf:=hM4.cell.fz;obtain ⟨w5,jj⟩:=za ((((w4.setCell (qA br 2) (.slice (ao' 0) (R' 0).length (cap' 0))).setCell (qA br 3) (.slice (ao' 1) (R' 1).length (cap' 1))).setCell (qA br 4) (.slice (ao' 2) (R' 2).length (cap' 2))).setCell (qA br 5) (.slice (ao' 3) (R' 3).length (cap' 3)))
    have cW:m7 (fun k=>k=br) w4 w5:=by rw [jj];exact lZ br [.slice (ao' 0) (R' 0).length (cap' 0),.slice (ao' 1) (R' 1).length (cap' 1),.slice (ao' 2) (R' 2).length (cap' 2),.slice (ao' 3) (R' 3).length (cap' 3)] 2 w4
    have hp5:GP w5 c2 br T o8 (kvs ao' cap' R') bt bx bc R' A:=by
     have kp:∀i,i≠1->EH c2 i w4 c2 w5:=fun i hi=>⟨fun k hk e=>cW.block k hk (fun q=>by have q':=q;rw [q',hM4.B9] at e;omega),fun _ _=>rfl⟩
     have hr4:=H4.o.2.1.kept (fun i _=>⟨fun k hk _=>hb4'.block k hk,fun _ _=>rfl⟩);refine ⟨?_,hM4.B9,hr4.kept (fun i _=>kp _ zj),hM4.Z8.kept (kp 2 zj),hM4.P9.kept (kp 3 zj) (fun nd _=>kp _ yl),hM4.P5.kept (kp 4 zj)⟩;have hh:=mD br [.slice (ao' 0) (R' 0).length (cap' 0),.slice (ao' 1) (R' 1).length (cap' 1),.slice (ao' 2) (R' 2).length (cap' 2),.slice (ao' 3) (R' 3).length (cap' 3)] 2 w4 _ _ hM4.cell;unfold n7;rw [jj];refine Eq.trans hh ?_;simp [Ly,kvs]
    have hkw5:=((H2.o.2.1.then (lW H4.o.2.2.1) (fun k hk e=>by have:=H2.o.2.1.size;omega)).then (lW hb4') (fun k hk e=>by have:=H2.o.2.1.size;have:=H4.o.2.2.1.size;omega)).then cW (fun k hk e=>by have e':=e;have:=H2.o.2.2.1 k hk;rw [e'] at this |-;rw [<-this,H2.o.1.B9];decide)
    have ig:F2 w5 fa fresh:=by
     have ho:=(H2.o.2.2.2.2.2.2.1.later H4.o.2.2.1).later hb4'
     rcases ho with q | ⟨bb,oo,e1,e2⟩
     ·exact .inl q
     refine .inr ⟨bb,oo,e1,fun j u hj=> ?_⟩;have hcell:=e2 j u hj;have cG:=uP w4 (qA bb (oo+j)) hcell
     rw [uV (a:=(qA bb (oo+j))) (cW.block bb cG (fun q=>by
      have q':=q
      rcases H2.o.2.2.2.2.2.2.2 _ e1 with q2 | q2
      ·have:=H0.o.1.cell.lt;dsimp only at q2;omega
      ·rw [q2] at hj;simp [cellsOf] at hj))]
     exact hcell
    have H5:Aside (GP w5 c2 br T o8 (kvs ao' cap' R') bt bx bc R' A/\m7 (fun k=>c k≠0) w w5/\F2 w5 fa fresh/\F1 B ad w5):=⟨hp5,hkw5,ig,H0.o.2.2.2.2.1.mono (hkw5.m8 H0.o.2.2.2.2.1.size (fun k e=>H0.o.2.2.2.1.low k e))⟩
    have HW5:Aside (w5=(((w4.setCell (qA br 2) (.slice (ao' 0) (R' 0).length (cap' 0))).setCell (qA br 3) (.slice (ao' 1) (R' 1).length (cap' 1))).setCell (qA br 4) (.slice (ao' 2) (R' 2).length (cap' 2))).setCell (qA br 5) (.slice (ao' 3) (R' 3).length (cap' 3))):=jj
    have hsort:=NJ w5 (.slice fa fresh.length fc) fresh (by
     rcases H1.o.2.2.2.1.2 with ⟨e1,e2⟩ | ⟨g,cp,cur,e1,_⟩
     ·exact .inl ⟨e1,Zi.1 e2⟩
     ·rcases ig with q | ⟨bb,oo,e4,e5⟩
      ·exact .inr ⟨g,0,fc,by rw [(Value.slice.inj e1).1],fun j u hj=>by rw [q] at hj;simp [cellsOf] at hj⟩
      ·exact .inr ⟨bb,oo,fc,by rw [e4],e5⟩) zj
    clear jj cW hp5 hkw5 ig hM4 iu hb4';go_upto_region 12 with fail;rw [<-HW5.o];go_wp2_with fail;refine hsort.mono ?_;rintro e w6 ⟨v6,ys,rfl,hy6,hst,hb6,hnew6⟩
    obtain ⟨va,vc,rfl,hin6⟩:∃va vc,v6= .slice va ys.length vc/\F2 w6 va ys:=by
     rcases hy6 with ⟨rfl,rfl⟩ | ⟨bb,oo,cp,rfl,e2⟩
     ·exact ⟨none,0,rfl,.inl rfl⟩
     exact ⟨_,_,rfl,.inr ⟨bb,oo,rfl,e2⟩⟩
    obtain ⟨lz,hys⟩:=nA hst;have hmem:=H3.o.2.2.2.1
    have hmy:∀x∈ys,x∈lY R':=fun x hx=>(hmem x).2 (ZD _ (lz.mem_iff.1 hx))
    have hyc:=KL hys (Fa H3.o.2.2.1 hmy (H1.o.2.2.1.G8 lz).one);have hylen:=lz.length_eq;obtain ⟨c6,kJ⟩:=za (Ho w w5 c c2);have hsz56:=hb6.size;have hszw:=H5.o.2.1.size
    have H6:Aside (GP w6 c6 br T o8 (kvs ao' cap' R') bt bx bc R' A/\M5 w c w6 c6/\(∀k,c6 k≠0->B<=k)/\(∀k,w6.heap.size<=k->c6 k=0)/\F2 w6 va ys/\(∀a,va=some a->c6 a.block=0)/\(∀k o,ys[k]? =some o->H9 (lY R++ys.take k) o)/\ys.Perm fresh/\oA A T):=by
     have hz5:∀k,w5.heap.size<=k->c6 k=0:=fun k hk=>by
      rw [kJ];unfold Ho;rw [if_neg zj,if_neg zj]
     refine ⟨(H5.o.1.kept (fun i _=>⟨fun _ _ _=>rfl,fun k hk=>by rw [kJ];exact Ks H2.o.2.2.1 hk⟩)).later hb6,⟨H5.o.2.1.then (lW hb6) (fun k hk e=>zj),fun k hk=>by rw [kJ];exact if_pos hk⟩,fun k q=> ?_,fun k hk=>hz5 k zj,hin6,fun a ha=> ?_,fun k o hko=> ?_,lz,H0.o.1.time⟩
     ·rw [kJ] at q;unfold Ho at q;by_cases e:k<w.heap.size
      ·rw [if_pos e] at q;exact H0.o.2.2.2.1.low k q
      have:=H0.o.2.2.2.2.1.size;omega
     ·rw [ha] at hnew6;exact hz5 _ (hnew6 a.block rfl)
     refine Jh HW.o.G5 (fun x=> ?_) H0.o.2.2.1.G5.Q6 hyc (fun x hx bD=> ?_) hko
     ·rw [hmem x,uU];exact ⟨fun q=>q.imp id (fun q=>lz.mem_iff.2 q),fun q=>q.imp id (fun q=>lz.mem_iff.1 q)⟩
     exact H1.o.2.2.1.off x (lz.mem_iff.1 hx) x bD ⟨rfl,rfl⟩
    have hAl:A.length+ys.length<=250:=by have:=H0.o.2.1.length_eq;omega
    go_wp2;go_loopg [51] ys.length (fun kx s51 wr=>∃(k:Nat) (TT:Int) (cc:Nat->Nat),s51=qN k/\k<=ys.length/\ys.length - k<=kx/\Aside (GP wr cc br TT o8 (kvs ao' cap' R') bt bx bc R' ((ys.take k).reverse++A)/\oA ((ys.take k).reverse++A) TT/\M5 w c wr cc/\(∀k,cc k≠0->B<=k)/\(∀k,wr.heap.size<=k->cc k=0)/\F2 wr va ys/\(∀a,va=some a->cc a.block=0)))
    case atStart=>exact ⟨0,T,c6,rfl,uW _,uM _,by simpa using H6.o.1,by simpa using H6.o.2.2.2.2.2.2.2.2,H6.o.2.1,H6.o.2.2.1,H6.o.2.2.2.1,H6.o.2.2.2.2.1,H6.o.2.2.2.2.2.1⟩
    case round=>
     obtain ⟨k,TT,cc,rfl,hkl,aY,L⟩:=hrel;by_cases hlt:k<ys.length
     ·have d1:qlt k ys.length=true:=by simp;omega
      have wk:((k:Int)).toNat=k:=zj;have pk:(0:Int)<=(k:Int):=zj
      obtain ⟨⟨t,b,n,kd,nd,o,s,v⟩,hx⟩:∃x,Aside (ys[k]? =some x):=⟨ys[k],uL hlt⟩
      have lF:=H6.o.2.2.2.2.2.2.1 k _ hx.o;have hpA:(lY R++ys.take k).Perm ((ys.take k).reverse++A):=(Ys).trans (((List.reverse_perm _).symm.append_right _).trans (H0.o.2.1.symm.append_left _));have aA:=lF.G8 hpA;obtain ⟨blk,off,aH,hc⟩:=L.o.2.2.2.2.2.1.e hx.o;subst aH;have r0:=hc 0 _ rfl;have r1:=hc 1 _ rfl;have r2:=hc 2 _ rfl;have r3:=hc 3 _ rfl;have r4:=hc 4 _ rfl;have r5:=hc 5 _ rfl;have r6:=hc 6 _ rfl;have r7:=hc 7 _ rfl;simp only [ZG] at r0
      have ah:∀ob,qL wr (wr.alloc ob):=fun ob=>(uO _ wr).alloc zg ob
      have Ewr:=H0.o.2.2.2.2.1.mono (L.o.2.2.1.L5.m8 H0.o.2.2.2.2.1.size (fun k e=>H0.o.2.2.2.1.low k e));have bB:=SY (wr.alloc (qOc t b n kd nd o s v)) cc br TT o8 (kvs ao' cap' R') bt bx bc R' ((ys.take k).reverse++A) (t,b,n,kd,nd,o,s,v) (L.o.1.later (ah _)) aA (Ewr.later (ah _)) L.o.2.2.2.1 (fun q hq=>L.o.2.2.2.2.1 q (by simp at hq;omega)) zl;have gF:1<=t:=(wF aA.ok).1;unfold mH at bB;dsimp only at bB
      have HTK:Aside ((ys.take (k+1)).reverse=(t,b,n,kd,nd,o,s,v)::(ys.take k).reverse):=by
       show (ys.take (k+1)).reverse=_
       rw [ZF,hx.o];simp
      go_wp2_with fail;refine bB.mono ?_;rintro e w7 ⟨⟨u,rfl⟩,c7,p1,p2,p3,p4⟩
      have LN:Aside (GP w7 c7 br (if TT<t then t else TT) o8 (kvs ao' cap' R') bt bx bc R' ((ys.take (k+1)).reverse++A)/\oA ((ys.take (k+1)).reverse++A) (if TT<t then t else TT)/\M5 w c w7 c7/\(∀k,c7 k≠0->B<=k)/\(∀k,w7.heap.size<=k->c7 k=0)/\F2 w7 (some (qA blk off)) ys/\(∀a,some ((qA blk off):Addr)=some a->c7 a.block=0)):=by
       have hbk:blk<wr.heap.size:=by
        obtain ⟨b2,o2,e2,hc2⟩:=L.o.2.2.2.2.2.1.e hx.o
        cases e2
        exact uP wr (qA blk (off+k*8+0)) (hc2 0 _ rfl)
       have fB:cc blk=0:=L.o.2.2.2.2.2.2 _ rfl;refine ⟨by rw [HTK.o];exact p1,by rw [HTK.o];exact Mt L.o.2.1 _ gF,(L.o.2.2.1.trans (M5.y cc (ah _))).trans p2,p3,p4,?_,fun a ha=> ?_⟩
       ·rcases L.o.2.2.2.2.2.1.later (ah _) with q | ⟨bb,oo,e1,e2⟩
        ·exact .inl q
        cases e1
        refine .inr ⟨blk,off,rfl,fun j u hj=> ?_⟩;rw [uV (a:=(qA blk (off+j))) (p2.L5.block blk zl (fun q=>q fB))];exact e2 j u hj
       cases ha
       rw [p2.B9 blk zl];exact fB
      go_wp2;go_roundg (ys.length - (k+1))
      case measure=>omega
      case rel=>exact ⟨k+1,_,c7,zJ,zj,uM _,LN.o⟩
     have d1:qlt k ys.length=false:=zl;obtain rfl:k=ys.length:=zj;go_wp2;go_ret2;refine ⟨.inr fresh,cc,?_,L.o.2.2.1,rfl,R',⟨⟨TT,_,bt,bx,bc,_,⟨L.o.1.cell,L.o.1.B9,L.o.1.D6,L.o.1.Z8,L.o.1.P9,L.o.1.P5,L.o.2.1⟩,?_,HW.o,H0.o.2.2.2.2.2⟩,L.o.2.2.2.1,L.o.2.2.2.2.1⟩,H3.o.2.2.2.1⟩
     ·unfold ny;rw [H1.o.1];refine .inr (.inr (.inr (.inr ⟨HW.o.G5.congr H3.o.2.2.2.1,zj,rfl⟩)))
     rw [Yq];refine ((List.reverse_perm ys).append_right A).trans (Ys.trans ?_);exact ((H0.o.2.1.append_right ys).trans (H6.o.2.2.2.2.2.2.2.1.append_left _)).trans H3.o.2.2.2.2.1.symm
theorem Tq{B}{ad}(w)(c)(br)(o8)(R)(la)(lc)(l)(h:C8 B w c br o8 R)(hE:F1 B ad w)(ar:F2 w la l)(hs:WN l)(hn:(lY R).length+l.length<=250):
  qC 116 #[qP br,.slice la l.length lc] w (QI B ad w c br o8 R l):=
 Fd w c br o8 R la lc l h hE ar hs zj zj (fun F hF=>by have:=(oN (pX _) hF).2.2.2.2;simp at this;omega)
theorem Px{w W w'}{pb}(h:qL w W)(hp:w.heap.size<=pb)(hb:But pb W w'):qL w w':=
 h.trans ⟨hb.os,hb.tape,hb.output,hb.size,fun k hk=>hb.block k (uY hk h.size) zj⟩
theorem Tk(w)(pb)(T o8)(h0:w.cell? (qB pb)=some (qI T))(h1:w.cell? (qA pb 1)=some (qI o8))(hT:0<=T)(hm:T<1073741824):
  qC 322 #[qP pb] w (qR (.tuple #[.agg #[qI (T+1),qI o8],.nilIface]) w):=by
 have hpl:pb<w.heap.size:=uP w (qB pb) h0;obtain ⟨S,hS⟩:=za w.heap.size;obtain ⟨U,hU⟩:=za ((w.alloc (.cells #[qI 0,qI 0] 86)).alloc (.cells #[qI T,qI o8] 128));have ah:qL w U:=zP
 have cw:U.heap[S+1]? =some (.cells #[qI T,qI o8] 128 (0,0)):=by
  rw [hU,hS];have:=heap_alloc_new (w.alloc (.cells #[qI 0,qI 0] 86)) (.cells #[qI T,qI o8] 128);exact kc7
 have b9:U.heap[S]? =some (.cells #[qI 0,qI 0] 86 (0,0)):=by
  exact kf5
 have hclk:Clk (S+1) T o8 U:=⟨xE,xE,by simp [World.frozen?,cw]⟩
 have ac:=Xo (S+1) T o8 U hclk hT hm
 have HB:Aside (qL w U/\S=w.heap.size/\U.heap[S]? =some (.cells #[qI 0,qI 0] 86 (0,0))):=⟨ah,hS,b9⟩
 have HU:Aside (U=(w.alloc (.cells #[qI 0,qI 0] 86)).alloc (.cells #[qI T,qI o8] 128)):=hU;go_enter func322,ntmps322;go_wp2_with fail;rw [<-HU.o,<-HB.o.2.1];clear hS;refine ac.mono ?_;rintro e w1 ⟨rfl,hbut,-⟩;have hS1:=(hbut.block S (uN.1 HB.o.2.2).1 zj).trans HB.o.2.2;have y0:w1.cell? (qB S)=some (qI 0):=xt;have y1:w1.cell? (qA S 1)=some (qI 0):=xt
 have yf:∀o,w1.frozen? (qA S o)=false:=fun o=>by simp [World.frozen?,hS1]
 have B1:Aside (qL w w1):=Px HB.o.1 vi hbut;go_wp2;(try simp only [Exit.inBlock,Exit.then]);refine bodyPost_ret (v:=.tuple #[.agg #[qI (T+1),qI o8],.nilIface]) ?_ rfl ⟨rfl,?_⟩
 ·exact kc3
 exact mV (b:=S) B1.o vi 0 [qI (T+1),qI o8]
theorem za3(x)(w)(h1:1<=x.1)(h2:x.1<=1073741824)(h3:0<=byO x)(h4:byO x<4):qC 82 #[mH x] w (qR (qI (idO x)) w):=by
 obtain ⟨t,b,n,k,nd,o,s,v⟩:=x;unfold mH idO;dsimp only at*;exact kf1
theorem n7.row{w}{br}{T o8}{kv}{bt bx bc}(h:n7 w br T o8 kv bt bx bc){i}(hi:i<4):w.cell? (qA br (2+i))=some (kv i):=by
 have h4:i=0\/i=1\/i=2\/i=3:=zj
 rcases h4 with rfl | rfl | rfl | rfl
 ·exact h.c2
 ·exact h.c3
 ·exact h.c4
 exact h.c5
def nR(T:Int)(i m:Nat)(kd:Nat)(nd o:Int)(s v:qY):OpX:=(T+1,(i:Int),(m:Int)+1,kd,if nd=0 then (T+1)*4+(i:Int) else nd,o,s,v)
def za4(ad:qF)(w:qW)(x:OpX)(e:Ending)(w':qW):Prop:=e=qT #[mH (if mz x=0 then x else lQ),eV ad (mz x)]/\qL w w'
def pZ(x:OpX):Nat:=if 1073741824<x.1 then 8 else mz x
theorem zaS{x}(h:x.1<=1073741824):pZ x=mz x:=if_neg zj
theorem TI{T}{i m kd}{nd o}{s v}(h:T<1073741824):pZ (nR T i m kd nd o s v)=mz (nR T i m kd nd o s v):=zaS (by show T+1<=1073741824;omega)
def XT(ad:qF)(w:qW)(x:OpX)(e:Ending)(w':qW):Prop:=e=qT #[mH (if pZ x=0 then x else lQ),eV ad (pZ x)]/\qL w w'
theorem aai{B}{ad}(w)(br)(T)(i:Nat)(ao)(cap)(bt bx bc)(R)(kd)(nd o)(s v)(hc:n7 w br T (i:Int) (kvs ao cap R) bt bx bc)(hE:F1 B ad w)(hi:i<4)(hT:0<=T)(hm:T<1073741824)(hn:(lY R).length<=250)(aG:s.size<=1000000)(aN:v.size<=1000000):
  qC 261 #[qP br,mH (0,0,0,kd,nd,o,s,v)] w (za4 ad w (nR T i (R i).length kd nd o s v)):=by
 have dA:∀i,i<4->(R i).length<=1000:=fun i hi=>yE
 have hri:=dA i hi;obtain ⟨S,hS⟩:=za w.heap.size;obtain ⟨U,hU⟩:=za ((w.alloc (qOc 0 0 0 kd nd o s v)).alloc qZc);have ah:qL w U:=zP
 have O0:m6 U S (0,0,0,kd,nd,o,s,v):=by rw [hU,hS];exact (uT _ _ _ zq).trans (m6.GA w (0,0,0,kd,nd,o,s,v))
 have O1:m6 U (S+1) lQ:=by
  rw [hU,hS];have:=m6.GA (w.alloc (qOc 0 0 0 kd nd o s v)) lQ;exact kc7
 have aO:=hc.same (ah.block _ hc.lt)
 have hbr:br<S:=by rw [hS];exact hc.lt
 have bA:=DR U ao cap R dA;unfold kV at bA;have k2:U.cell? (qA br 2)=some (.slice (ao 0) (R 0).length (cap 0)):=aO.c2;have k3:U.cell? (qA br 3)=some (.slice (ao 1) (R 1).length (cap 1)):=aO.c3;have k4:U.cell? (qA br 4)=some (.slice (ao 2) (R 2).length (cap 2)):=aO.c4;have k5:U.cell? (qA br 5)=some (.slice (ao 3) (R 3).length (cap 3)):=aO.c5;have dn:decide ((400:Int)<=((lY R).length:Int))=false:=zl;have dn':decide (400<=(lY R).length)=false:=zl
 have H0:Aside (n7 U br T (i:Int) (kvs ao cap R) bt bx bc/\m6 U S (0,0,0,kd,nd,o,s,v)/\m6 U (S+1) lQ/\qL w U/\S=w.heap.size/\F1 B ad U):=⟨aO,O0,O1,ah,hS,hE.later ah⟩
 have HU:Aside (U=(w.alloc (qOc 0 0 0 kd nd o s v)).alloc qZc):=hU;have hEw:=hE.size;clear hU aO O0 O1 ah hE hc hS;unfold mH;go_enter func261,ntmps261;go_upto_region 1 with fail;rw [<-HU.o,<-H0.o.2.2.2.2.1];go_wp2_with fail;refine bA.mono ?_;rintro e w1 ⟨rfl,hb1⟩;have hc1:=H0.o.1.same (hb1.block _ H0.o.1.lt);have bT:=Tk w1 br T (i:Int) hc1.c0 hc1.c1 hT hm;go_wp2_with fail;refine bT.mono ?_;rintro e w2 ⟨rfl,hb2⟩;obtain ⟨Q,hQ⟩:=za w2.heap.size;obtain ⟨V,hV⟩:=za (w2.alloc (.cells #[qI (T+1),qN i] 86))
 have ai:qL w2 V:=by rw [hV];exact zh w2 _
 have gz:=hb1.trans ((hb2.mono hb1.size).trans (ai.mono (uQ hb1.size hb2.size)))
 have hst:V.heap[Q]? =some (.cells #[qI (T+1),qN i] 86 (0,0)):=by rw [hV,hQ];exact heap_alloc_new w2 _
 have hSQ:S+1<Q:=by have:=H0.o.2.2.1.lt;have:=hb1.size;have:=hb2.size;omega
 have H1:Aside (n7 V br T (i:Int) (kvs ao cap R) bt bx bc/\m6 V S (0,0,0,kd,nd,o,s,v)/\m6 V (S+1) lQ/\qL U V/\F1 B ad V):=⟨H0.o.1.same (gz.block _ H0.o.1.lt),H0.o.2.1.later gz,H0.o.2.2.1.later gz,gz,H0.o.2.2.2.2.2.later gz⟩
 have HV:Aside (V=w2.alloc (.cells #[qI (T+1),qN i] 86)/\Q=w2.heap.size):=⟨hV,hQ⟩
 have s0:V.cell? (qB Q)=some (qI (T+1)):=by simp [World.cell?,hst]
 have s1:V.cell? (qA Q 1)=some (qN i):=by simp [World.cell?,hst]
 have kb:V.cell? (qA br (2+i))=some (.slice (ao i) (R i).length (cap i)):=H1.o.1.row hi;obtain ⟨y0,y1,y2,y3,y4,y5,y6,y7,f8⟩:=m6.ct H1.o.2.1;have wi:((i:Int)).toNat=i:=zj;have pi:(0:Int)<=(i:Int):=zj;have bi:(i:Int)<4:=zj;clear ai gz hst hb1 hb2 hV hQ;go_upto_region 6 with fail;rw [<-HV.o.1,<-HV.o.2];go_region;obtain ⟨w5,jj⟩:=za ((((V.setCell (qB S) (qI (T+1))).setCell (qA S 1) (qN i)).setCell (qA S 2) (qI (((R i).length:Int)+1))).drew)
 have cW:m7 (fun k=>k=S) V w5:=by rw [jj];exact (lZ S [qI (T+1),qN i,qI (((R i).length:Int)+1)] 0 V).drew
 have O5:m6 w5 S (T+1,(i:Int),((R i).length:Int)+1,kd,nd,o,s,v):=by
  have hh:=mD S [qI (T+1),qN i,qI (((R i).length:Int)+1)] 0 V _ _ H1.o.2.1;unfold m6;rw [jj];refine Eq.trans hh ?_;simp [Ly]
 have Z5:m6 w5 (S+1) lQ:=(cW.block (S+1) H1.o.2.2.1.lt zj).trans H1.o.2.2.1;have B5:=(zi H0.o.2.2.2.1 H1.o.2.2.2.1).trans (cW.m8 (uQ H0.o.2.2.2.1.size H1.o.2.2.2.1.size) (fun k e=>by have:=H0.o.2.2.2.2.1;omega))
 have OX:Aside (m6 w5 S (T+1,(i:Int),((R i).length:Int)+1,kd,nd,o,s,v)/\m6 w5 (S+1) lQ/\qL w w5):=⟨O5,Z5,B5⟩
 have EX:Aside (F1 B ad w5):=H1.o.2.2.2.2.mono (cW.m8 H1.o.2.2.2.2.size (fun k e=>by have:=H0.o.2.2.2.2.1;omega));rw [<-jj];clear jj cW O5 Z5 B5 s0 s1 kb y0 y1 y2 y3 y4 y5 y6 y7 f8;by_cases bU:nd=0
 ·have hid:=za3 (T+1,(i:Int),((R i).length:Int)+1,kd,nd,o,s,v) w5 zj zj zj zj;have eid:idO (T+1,(i:Int),((R i).length:Int)+1,kd,nd,o,s,v)=(T+1)*4+(i:Int):=rfl;rw [eid] at hid
  have hown:nR T i (R i).length kd nd o s v=(T+1,(i:Int),((R i).length:Int)+1,kd,(T+1)*4+(i:Int),o,s,v):=by unfold nR;rw [if_pos bU]
  have HOW:=Lib.hid hown;unfold mH at hid;obtain ⟨y0,y1,y2,y3,y4,y5,y6,y7,f8⟩:=m6.ct OX.o.1
  have dnd:(nd==0)=true:=by simp [bU]
  clear bU hown eid;go_wp2_with fail;refine hid.mono ?_;rintro e w5' ⟨rfl,hb5⟩;have O5:=OX.o.1.later hb5;have Z5:=OX.o.2.1.later hb5;obtain ⟨w6,gj⟩:=za (w5'.setCell (qA S 4) (qI ((T+1)*4+(i:Int))))
  have hk6:m7 (fun k=>k=S) w5' w6:=by rw [gj];exact lZ S [qI ((T+1)*4+(i:Int))] 4 w5'
  have fG:=H0.o.2.2.2.2.1
  have O6:m6 w6 S (T+1,(i:Int),((R i).length:Int)+1,kd,(T+1)*4+(i:Int),o,s,v):=by
   have hh:=mD S [qI ((T+1)*4+(i:Int))] 4 w5' _ _ O5;unfold m6;rw [gj];refine Eq.trans hh ?_;simp [Ly]
  have B5':=zi OX.o.2.2 hb5
  have jR:Aside (m6 w6 S (T+1,(i:Int),((R i).length:Int)+1,kd,(T+1)*4+(i:Int),o,s,v)/\m6 w6 (S+1) lQ/\qL w w6):=⟨O6,(hk6.block (S+1) Z5.lt zj).trans Z5,B5'.trans (hk6.m8 B5'.size (fun k e=>zj))⟩
  have EX6:Aside (F1 B ad w6):=(EX.o.later hb5).mono (hk6.m8 (EX.o.later hb5).size (fun k e=>zj));obtain ⟨y0,y1,y2,y3,y4,y5,y6,y7,f8⟩:=m6.ct O5;have HW6:=Lib.hid gj;clear gj hk6 fG O6 B5' O5 Z5 hb5;go_upto_region 9 with fail;rw [<-HW6.o];have hown:=HOW.o;have cr:=mn (T+1) (i:Int) (((R i).length:Int)+1) kd ((T+1)*4+(i:Int)) o s v w6 (EX6.o.Q1) aG aN;obtain ⟨y0,y1,y2,y3,y4,y5,y6,y7,f8⟩:=m6.ct jR.o.1;have hlz:=jR.o.2.1.lt
  cases aF:opE (T+1) (i:Int) (((R i).length:Int)+1) kd ((T+1)*4+(i:Int)) o s.data.toList v.data.toList with
  | zero=>
   rw [aF] at cr;have a8:eV ad 0= .nilIface:=rfl;rw [a8] at cr
   have HR:Aside (mz (nR T i (R i).length kd nd o s v)=0/\nR T i (R i).length kd nd o s v=(T+1,(i:Int),((R i).length:Int)+1,kd,(T+1)*4+(i:Int),o,s,v)):=⟨by rw [hown];exact aF,hown⟩
   go_wp2_with fail;refine cr.mono ?_;rintro e w7 ⟨rfl,hb7⟩;have O7:=jR.o.1.later hb7;have Z7:=jR.o.2.1.later hb7;have hz7:=Z7.lt;obtain ⟨y0,y1,y2,y3,y4,y5,y6,y7,f8⟩:=m6.ct O7;obtain ⟨z0,z1,z2,z3,z4,z5,z6,z7,zf⟩:=m6.ct Z7
   have B7:Aside (qL w w7/\S=w.heap.size):=⟨zi jR.o.2.2 hb7,H0.o.2.2.2.2.1⟩
   go_wp2;(try simp only [Exit.inBlock,Exit.then]);refine bodyPost_ret (v:=.tuple #[.agg #[qI (T+1),qN i,qI (((R i).length:Int)+1),.int .u8 (kd:Int),qI ((T+1)*4+(i:Int)),qI o,.string s,.string v],.nilIface]) ?_ rfl ⟨by rw [HR.o.1,if_pos rfl,HR.o.2];rfl,?_⟩
   ·exact kc3
   exact mV (b:=S+1) B7.o.1 xm 0 [qI (T+1),qN i,qI (((R i).length:Int)+1),.int .u8 (kd:Int),qI ((T+1)*4+(i:Int)),qI o,.string s,.string v]
  | succ cd=>
   rw [aF] at cr;have a8:eV ad (cd+1)= .iface 437 (.pointer (some (ad cd))):=rfl;rw [a8] at cr
   have HR:Aside (mz (nR T i (R i).length kd nd o s v)=cd+1):=by show mz _=_;rw [hown];exact aF
   go_wp2_with fail;refine cr.mono ?_;rintro e w7 ⟨rfl,hb7⟩;have Z7:=jR.o.2.1.later hb7;have hz7:=Z7.lt;obtain ⟨z0,z1,z2,z3,z4,z5,z6,z7,zf⟩:=m6.ct Z7
   have B7:Aside (qL w w7/\S=w.heap.size):=⟨zi jR.o.2.2 hb7,H0.o.2.2.2.2.1⟩
   go_wp2;(try simp only [Exit.inBlock,Exit.then]);refine bodyPost_ret (v:=.tuple #[mH lQ,.iface 437 (.pointer (some (ad cd)))]) ?_ rfl ⟨by rw [HR.o,if_neg zj];rfl,?_⟩
   ·exact kf0
   exact mV (b:=S+1) B7.o.1 xm 0 qZl
 have hown:nR T i (R i).length kd nd o s v=(T+1,(i:Int),((R i).length:Int)+1,kd,nd,o,s,v):=by unfold nR;rw [if_neg bU]
 have dnd:(nd==0)=false:=by simp [bU]
 have cr:=mn (T+1) (i:Int) (((R i).length:Int)+1) kd nd o s v w5 (EX.o.Q1) aG aN;obtain ⟨y0,y1,y2,y3,y4,y5,y6,y7,f8⟩:=m6.ct OX.o.1;have hlz:=OX.o.2.1.lt
 cases aF:opE (T+1) (i:Int) (((R i).length:Int)+1) kd nd o s.data.toList v.data.toList with
 | zero=>
  rw [aF] at cr;have a8:eV ad 0= .nilIface:=rfl;rw [a8] at cr
  have HR:Aside (mz (nR T i (R i).length kd nd o s v)=0/\nR T i (R i).length kd nd o s v=(T+1,(i:Int),((R i).length:Int)+1,kd,nd,o,s,v)):=⟨by rw [hown];exact aF,hown⟩
  go_wp2_with fail;refine cr.mono ?_;rintro e w7 ⟨rfl,hb7⟩;have O7:=OX.o.1.later hb7;have Z7:=OX.o.2.1.later hb7;have hz7:=Z7.lt;obtain ⟨y0,y1,y2,y3,y4,y5,y6,y7,f8⟩:=m6.ct O7;obtain ⟨z0,z1,z2,z3,z4,z5,z6,z7,zf⟩:=m6.ct Z7
  have B7:Aside (qL w w7/\S=w.heap.size):=⟨zi OX.o.2.2 hb7,H0.o.2.2.2.2.1⟩
  go_wp2;(try simp only [Exit.inBlock,Exit.then]);refine bodyPost_ret (v:=.tuple #[.agg #[qI (T+1),qN i,qI (((R i).length:Int)+1),.int .u8 (kd:Int),qI (nd),qI o,.string s,.string v],.nilIface]) ?_ rfl ⟨by rw [HR.o.1,if_pos rfl,HR.o.2];rfl,?_⟩
  ·exact kc3
  exact mV (b:=S+1) B7.o.1 xm 0 [qI (T+1),qN i,qI (((R i).length:Int)+1),.int .u8 (kd:Int),qI (nd),qI o,.string s,.string v]
 | succ cd=>
  rw [aF] at cr;have a8:eV ad (cd+1)= .iface 437 (.pointer (some (ad cd))):=rfl;rw [a8] at cr
  have HR:Aside (mz (nR T i (R i).length kd nd o s v)=cd+1):=by show mz _=_;rw [hown];exact aF
  go_wp2_with fail;refine cr.mono ?_;rintro e w7 ⟨rfl,hb7⟩;have Z7:=OX.o.2.1.later hb7;have hz7:=Z7.lt;obtain ⟨z0,z1,z2,z3,z4,z5,z6,z7,zf⟩:=m6.ct Z7
  have B7:Aside (qL w w7/\S=w.heap.size):=⟨zi OX.o.2.2 hb7,H0.o.2.2.2.2.1⟩
  go_wp2;(try simp only [Exit.inBlock,Exit.then]);refine bodyPost_ret (v:=.tuple #[mH lQ,.iface 437 (.pointer (some (ad cd)))]) ?_ rfl ⟨by rw [HR.o,if_neg zj];rfl,?_⟩
  ·exact kf0
  exact mV (b:=S+1) B7.o.1 xm 0 qZl
theorem NC(w)(pb)(T o8)(eb)(hg:w.cell? (qB 7)=some eb)(h0:w.cell? (qB pb)=some (qI T))(h1:w.cell? (qA pb 1)=some (qI o8))(hm:1073741824<=T):
  qC 322 #[qP pb] w (qR (.tuple #[.agg #[qI 0,qI 0],eb]) w):=by
 have hpl:pb<w.heap.size:=uP w (qB pb) h0;have ce:7<w.heap.size:=uP w (qB 7) hg;obtain ⟨S,hS⟩:=za w.heap.size;obtain ⟨U,hU⟩:=za ((w.alloc (.cells #[qI 0,qI 0] 86)).alloc (.cells #[qI T,qI o8] 128));have ah:qL w U:=zP
 have cw:U.heap[S+1]? =some (.cells #[qI T,qI o8] 128 (0,0)):=by
  rw [hU,hS];have:=heap_alloc_new (w.alloc (.cells #[qI 0,qI 0] 86)) (.cells #[qI T,qI o8] 128);exact kc7
 have b9:U.heap[S]? =some (.cells #[qI 0,qI 0] 86 (0,0)):=by
  exact kf5
 have hclk:Clk (S+1) T o8 U:=⟨xE,xE,by simp [World.frozen?,cw]⟩
 have ac:=QW (S+1) T o8 U eb ((ah.cell (p:=(qB 7)) ce).trans hg) hclk hm
 have HB:Aside (qL w U/\S=w.heap.size/\U.heap[S]? =some (.cells #[qI 0,qI 0] 86 (0,0))):=⟨ah,hS,b9⟩
 have HU:Aside (U=(w.alloc (.cells #[qI 0,qI 0] 86)).alloc (.cells #[qI T,qI o8] 128)):=hU;go_enter func322,ntmps322;go_wp2_with fail;rw [<-HU.o,<-HB.o.2.1];clear hS;refine ac.mono ?_;rintro e w1 ⟨rfl,hb1⟩;have hS1:=(hb1.block S (uN.1 HB.o.2.2).1).trans HB.o.2.2;have y0:w1.cell? (qB S)=some (qI 0):=xt;have y1:w1.cell? (qA S 1)=some (qI 0):=xt
 have yf:∀o,w1.frozen? (qA S o)=false:=fun o=>by simp [World.frozen?,hS1]
 have B1:Aside (qL w w1):=zi HB.o.1 hb1;go_wp2;(try simp only [Exit.inBlock,Exit.then]);refine bodyPost_ret (v:=.tuple #[.agg #[qI 0,qI 0],eb]) ?_ rfl ⟨rfl,?_⟩
 ·exact kc3
 exact mV (b:=S) B1.o vi 0 [qI 0,qI 0]
theorem Vi{B}{ad}(w)(br)(T)(i:Nat)(ao)(cap)(bt bx bc)(R)(kd)(nd o)(s v)(hc:n7 w br T (i:Int) (kvs ao cap R) bt bx bc)(hE:F1 B ad w)(hi:i<4)(hm:1073741824<=T)(hn:(lY R).length<=250):
  qC 261 #[qP br,mH (0,0,0,kd,nd,o,s,v)] w (qR (.tuple #[mH lQ,eV ad 8]) w):=by
 have dA:∀i,i<4->(R i).length<=1000:=fun i hi=>yE
 obtain ⟨S,hS⟩:=za w.heap.size;obtain ⟨U,hU⟩:=za ((w.alloc (qOc 0 0 0 kd nd o s v)).alloc qZc);have ah:qL w U:=zP
 have O1:m6 U (S+1) lQ:=by
  rw [hU,hS];have:=m6.GA (w.alloc (qOc 0 0 0 kd nd o s v)) lQ;exact kc7
 have aO:=hc.same (ah.block _ hc.lt);have bA:=DR U ao cap R dA;unfold kV at bA;have k2:U.cell? (qA br 2)=some (.slice (ao 0) (R 0).length (cap 0)):=aO.c2;have k3:U.cell? (qA br 3)=some (.slice (ao 1) (R 1).length (cap 1)):=aO.c3;have k4:U.cell? (qA br 4)=some (.slice (ao 2) (R 2).length (cap 2)):=aO.c4;have k5:U.cell? (qA br 5)=some (.slice (ao 3) (R 3).length (cap 3)):=aO.c5;have dn:decide ((400:Int)<=((lY R).length:Int))=false:=zl;have dn':decide (400<=(lY R).length)=false:=zl
 have H0:Aside (n7 U br T (i:Int) (kvs ao cap R) bt bx bc/\m6 U (S+1) lQ/\qL w U/\S=w.heap.size/\F1 B ad U):=⟨aO,O1,ah,hS,hE.later ah⟩
 have HU:Aside (U=(w.alloc (qOc 0 0 0 kd nd o s v)).alloc qZc):=hU;clear hU aO O1 ah hE hc hS;unfold mH;go_enter func261,ntmps261;go_upto_region 1 with fail;rw [<-HU.o,<-H0.o.2.2.2.1];go_wp2_with fail;refine bA.mono ?_;rintro e w1 ⟨rfl,hb1⟩;have hc1:=H0.o.1.same (hb1.block _ H0.o.1.lt);have bT:=NC w1 br T (i:Int) _ (H0.o.2.2.2.2.later hb1).c7 hc1.c0 hc1.c1 hm;go_wp2_with fail;refine bT.mono ?_;rintro e w2 ⟨rfl,hb2⟩;have hb12:=zi hb1 hb2;have Z7:=H0.o.2.1.later hb12
 have B7:Aside (qL w w2/\S=w.heap.size):=⟨zi H0.o.2.2.1 hb12,H0.o.2.2.2.1⟩
 obtain ⟨V,hV⟩:=ze (w2.alloc (.cells #[qI 0,qI 0] 86))
 have ai:qL w2 V:=by rw [hV.o];exact zh w2 _
 have ZV:=Z7.later ai;obtain ⟨z0,z1,z2,z3,z4,z5,z6,z7,zf⟩:=m6.ct ZV
 have BV:Aside (qL w V/\S=w.heap.size):=⟨zi B7.o.1 ai,B7.o.2⟩
 go_upto_region 5 with fail;rw [<-hV.o];go_wp2;(try simp only [Exit.inBlock,Exit.then]);refine bodyPost_ret (v:=.tuple #[mH lQ,.iface 437 (.pointer (some (ad 7)))]) ?_ rfl ⟨rfl,?_⟩
 ·exact kf0
 exact mV (b:=S+1) BV.o.1 (by have:=BV.o.2;omega) 0 qZl
theorem AD{B}{ad}(w)(br)(T)(i:Nat)(ao)(cap)(bt bx bc)(R)(kd)(nd o)(s v)(hc:n7 w br T (i:Int) (kvs ao cap R) bt bx bc)(hE:F1 B ad w)(hi:i<4)(hT:0<=T)(hm:T<=1073741824)(hn:(lY R).length<=250)(aG:s.size<=1000000)(aN:v.size<=1000000):
  qC 261 #[qP br,mH (0,0,0,kd,nd,o,s,v)] w (XT ad w (nR T i (R i).length kd nd o s v)):=by
 by_cases bJ:T<1073741824
 ·refine (aai w br T i ao cap bt bx bc R kd nd o s v hc hE hi hT bJ hn aG aN).mono ?_;rintro e w' ⟨he,hb⟩;exact ⟨by rw [TI bJ];exact he,hb⟩
 refine (Vi w br T i ao cap bt bx bc R kd nd o s v hc hE hi zj hn).mono ?_;rintro e w' ⟨he,hb⟩;have e8:pZ (nR T i (R i).length kd nd o s v)=8:=if_pos (by show 1073741824<T+1;omega);exact ⟨by rw [e8];exact he,hb⟩
end
section
open RowKit Lib Go.Sort Maps
def CJ(ad:qF)(w:qW)(ok:Prop)(x:OpX)(e:Ending)(w':qW):Prop:=(ok/\XT ad w x e w')\/(¬ok/\e=qT #[mH lQ,eV ad 6]/\qL w w')
theorem WX{B}{ad}(w)(c)(br)(T)(i:Nat)(ao)(cap)(bt bx bc)(R)(into)(name)(hc:n7 w br T (i:Int) (kvs ao cap R) bt bx bc)(aP:E6 w c (kvs ao cap R) R)(hR:t7 R)(hE:F1 B ad w)(hi:i<4)(hT:0<=T)(hm:T<=1073741824)(hn:(lY R).length<=250)(aG:name.size<=1000000)(h2: -9223372036854775808<=into)(h3:into<=9223372036854775807):
  qC 207 #[qP br,qI into,.string name] w (CJ ad w (into=0\/into=1\/m9 (lY R) into) (nR T i (R i).length 109 0 into name ⟨#[]⟩)):=by
 have dA:∀i,i<4->(R i).length<=1000:=fun i hi=>yE
 obtain ⟨S,hS⟩:=za w.heap.size;obtain ⟨U,hU⟩:=za (w.alloc qZc);have ah:qL w U:=zX;have Z0:m6 U S lQ:=yF;have aO:=hc.same (ah.block _ hc.lt)
 obtain ⟨zb,cQ⟩:∃zb:Bool,zb=true↔(into=0\/into=1\/m9 (lY R) into):=⟨@decide _ (Classical.propDecidable _),@decide_eq_true_iff _ (Classical.propDecidable _)⟩
 have aX:=tI U ao cap R into zb cQ ((hE.later ah).Q1) ((D7.r aP).later ah) hR.toN dA h2 h3;unfold kV at aX;have k2:U.cell? (qA br 2)=some (.slice (ao 0) (R 0).length (cap 0)):=aO.c2;have k3:U.cell? (qA br 3)=some (.slice (ao 1) (R 1).length (cap 1)):=aO.c3;have k4:U.cell? (qA br 4)=some (.slice (ao 2) (R 2).length (cap 2)):=aO.c4;have k5:U.cell? (qA br 5)=some (.slice (ao 3) (R 3).length (cap 3)):=aO.c5
 have H0:Aside (n7 U br T (i:Int) (kvs ao cap R) bt bx bc/\m6 U S lQ/\qL w U/\S=w.heap.size/\F1 B ad U/\B<=w.heap.size/\(zb=true↔(into=0\/into=1\/m9 (lY R) into))):=⟨aO,Z0,ah,hS,hE.later ah,hE.size,cQ⟩
 have HU:Aside (U=w.alloc qZc):=hU;clear hU aO Z0 ah hE hc hS cQ aP hR;go_enter func207,ntmps207;go_upto_region 1 with fail;rw [<-HU.o,<-H0.o.2.2.2.1];go_wp2_with fail;refine aX.mono ?_;clear aX k2 k3 k4 k5;rintro e w1 ⟨rfl,hb1⟩;have Z1:=H0.o.2.1.later hb1
 have H1:Aside (m6 w1 S lQ/\qL w w1/\F1 B ad w1/\n7 w1 br T (i:Int) (kvs ao cap R) bt bx bc):=⟨Z1,zi H0.o.2.2.1 hb1,H0.o.2.2.2.2.1.later hb1,H0.o.1.same (hb1.block _ H0.o.1.lt)⟩
 clear hb1 Z1
 cases zb with
 | false=>
  have hno:¬(into=0\/into=1\/m9 (lY R) into):=fun q=>uD
  obtain ⟨z0,z1,z2,z3,z4,z5,z6,z7,zf⟩:=m6.ct H1.o.1;have eg:=H1.o.2.2.1.c5;have bu:=H1.o.2.2.1.low;have ab:=H0.o.2.2.2.1;have bI:=H0.o.2.2.2.2.2.1;have n2:S≠5:=zj;have jU:=Lib.hid hno;clear bu ab bI hno;go_wp2_with fail;go_region
  all_goals
   go_wp2;(try simp only [Exit.inBlock,Exit.then]);refine bodyPost_ret (v:=.tuple #[mH lQ,eV ad 6]) ?_ rfl (.inr ⟨jU.o,rfl,?_⟩)
   ·exact kd1
   exact kg4
 | true=>
  have lg:Aside (into=0\/into=1\/m9 (lY R) into):=H0.o.2.2.2.2.2.2.1 rfl;have hown:=AD w1 br T i ao cap bt bx bc R 109 0 into name ⟨#[]⟩ H1.o.2.2.2 H1.o.2.2.1 hi hT hm hn aG zo;unfold mH at hown;go_wp2_with fail;refine hown.mono ?_;clear hown;rintro e w2 ⟨he,hb2⟩;obtain ⟨y,hy⟩:=za ((if pZ (nR T i (R i).length 109 0 into name ⟨#[]⟩)=0 then nR T i (R i).length 109 0 into name ⟨#[]⟩ else lQ));obtain ⟨er,aB⟩:=za (eV ad (pZ (nR T i (R i).length 109 0 into name ⟨#[]⟩)));rw [<-hy,<-aB] at he;subst he
  have HY:Aside (y=(if pZ (nR T i (R i).length 109 0 into name ⟨#[]⟩)=0 then nR T i (R i).length 109 0 into name ⟨#[]⟩ else lQ)/\er=eV ad (pZ (nR T i (R i).length 109 0 into name ⟨#[]⟩))):=⟨hy,aB⟩
  clear hy aB;obtain ⟨t,b,n,kd,nd,o,s,v⟩:=y;unfold mH;dsimp only;have Z2:=H1.o.1.later hb2;obtain ⟨z0,z1,z2,z3,z4,z5,z6,z7,zf⟩:=m6.ct Z2;have B2:Aside (qL w w2):=zi H1.o.2.1 hb2;clear hb2 Z2;go_wp2;(try simp only [Exit.inBlock,Exit.then]);refine bodyPost_ret (v:=.tuple #[.agg (qOa t b n kd nd o s v),er]) ?_ rfl (.inl ⟨lg.o,⟨by rw [<-HY.o.1,<-HY.o.2];rfl,?_⟩⟩)
  ·exact kc3
  exact mV (b:=S) B2.o yw 0 (qOl t b n kd nd o s v)
def zc0(A:qX)(nd:Int)(s:qY):Prop:=(¬m9 A nd/\s=⟨#[]⟩)\/(m9 A nd/\∃L,u9 A nd L/\s.data.toList=rA L)
theorem Tp(w)(c)(br)(T o8)(kv)(bt bx bc)(A)(nd)(hc:n7 w br T o8 kv bt bx bc)(ht:P0 w c bx A)(hlen:A.length<=1000)(h2: -2^63<=nd)(h3:nd<2^63):
  qC 132 #[qP br,qI nd] w fun e w'=>∃s,e= .returned (.string s)/\zc0 A nd s/\qL w w':=by
 obtain ⟨nx,tx,t1,t2,t3,t4,t5⟩:=ht;have k7:=hc.c7;have lk:=t2.A (Eg h2 h3)
 cases hp:tx nd with
 | none=>
  rw [hp] at lk;unfold AN at lk;simp only [Option.map_none,YB] at lk
  have HN:Aside (¬m9 A nd):=fun q=>vX
  go_enter func132,ntmps132;go_wp2;go_ret;exact ⟨_,rfl,.inl ⟨HN.o,rfl⟩,uO _ w⟩
 | some p=>
  rw [hp] at lk;unfold AN at lk;simp only [YD,YC] at lk;obtain ⟨v,L,l1,l2,l3,l4⟩:=t5 nd p hp;have ac:=TU w (p+1) p v L l1 (uQ l2.y9 hlen)
  have HK:Aside (m9 A nd/\u9 A nd L):=⟨(t4 nd).1 uf,l2⟩
  go_enter func132,ntmps132;go_wp2_with fail;refine ac.mono ?_;rintro e w' ⟨rfl,hb⟩;have HB:Aside (qL w w'):=hb;go_wp2;go_ret;exact ⟨_,rfl,.inr ⟨HK.o.1,L,HK.o.2,zq⟩,HB.o⟩
theorem Dz(w)(c)(br)(T o8)(kv)(bt bx bc)(A)(nd n)(hc:n7 w br T o8 kv bt bx bc)(ht:P0 w c bx A)(hlen:A.length<=1000)(h2: -2^63<=nd)(h3:nd<2^63)(hn: -9223372036854775808<=n/\n<=9223372036854775807):
  qC 263 #[qP br,qI nd,qI n] w fun e w'=>∃a:Int×Bool,e=qT #[qI a.1,.bool a.2]/\(¬m9 A nd->a=(0,false))/\(m9 A nd->∃L,u9 A nd L/\a=atL n L)/\qL w w':=by
 obtain ⟨nx,tx,t1,t2,t3,t4,t5⟩:=ht;have k7:=hc.c7;have lk:=t2.A (Eg h2 h3)
 cases hp:tx nd with
 | none=>
  rw [hp] at lk;unfold AN at lk;simp only [Option.map_none,YB] at lk
  have HN:Aside (¬m9 A nd):=fun q=>vX
  go_enter func263,ntmps263;go_wp2;go_ret2;exact ⟨(0,false),rfl,fun _=>rfl,fun q=>absurd q HN.o,uO _ w⟩
 | some p=>
  rw [hp] at lk;unfold AN at lk;simp only [YD,YC] at lk;obtain ⟨v,L,l1,l2,l3,l4⟩:=t5 nd p hp;have ac:=zcU w (p+1) p v L n l1 (uQ l2.y9 hlen) hn
  have HK:Aside (m9 A nd/\u9 A nd L):=⟨(t4 nd).1 uf,l2⟩
  go_enter func263,ntmps263;go_wp2_with fail;refine ac.mono ?_;rintro e w' ⟨rfl,hb⟩;have HB:Aside (qL w w'):=hb;go_wp2;go_ret2;exact ⟨atL n L,rfl,fun q=>absurd HK.o.1 q,fun _=>⟨L,HK.o.2,rfl⟩,HB.o⟩
def N9(A:qX)(nd n:Int)(a:Int×Bool):Prop:=(n=0/\a.1=0/\(a.2=true↔m9 A nd))\/(n≠0/\(¬m9 A nd->a=(0,false))/\(m9 A nd->∃L,u9 A nd L/\a=atL (n - 1) L))
theorem tD{A S}(h:A.Perm S)(nd):m9 A nd↔m9 S nd:=⟨fun q=>q.mono (fun x hx=>h.mem_iff.1 hx),fun q=>q.mono (fun x hx=>h.mem_iff.2 hx)⟩
theorem TB{mw n}{L}(h:mw=n - 1\/(mw=9223372036854775807/\n= -9223372036854775808))(hl:L.length<=1000):atL mw L=atL (n - 1) L:=by
 rcases h with h | ⟨h1,h2⟩
 ·rw [h]
 subst h1 h2;unfold atL;rw [if_pos zj,if_neg zj]
 grind [nX,Yi,List.getElem?_eq_none]
theorem LL(w:qW)(ch):(w.alloc (.cells #[.int .u8 (ch.toNat:Int)] 5)).ownsRow 0 5 1 (qG w.heap.size 1 1) 1 (tW [ch]):=
 ⟨rfl,.inr ⟨w.heap.size,1,#[.int .u8 (ch.toNat:Int)],rfl,uW _,heap_alloc_new w _,uM _,zB,rfl,rfl⟩⟩
theorem PT{B}{ad}(w)(c)(br)(T)(i:Nat)(ao)(cap)(bt bx bc)(R)(A)(nd n)(ch)(hc:n7 w br T (i:Int) (kvs ao cap R) bt bx bc)(aP:E6 w c (kvs ao cap R) R)(cT:P0 w c bx A)(hperm:A.Perm (lY R))(hR:t7 R)(hE:F1 B ad w)(hi:i<4)(hT:0<=T)(hm:T<=1073741824)(hn:(lY R).length<=250)(h2: -9223372036854775808<=nd)(h3:nd<=9223372036854775807)(kk: -9223372036854775808<=n)(hn2:n<=9223372036854775807):
  qC 209 #[qP br,qI nd,qI n,.int .u8 (ch.toNat:Int)] w fun e w'=>∃a,N9 A nd n a/\CJ ad w (a.2=true) (nR T i (R i).length 105 nd a.1 ⟨#[]⟩ ⟨#[ch]⟩) e w':=by
 have dA:∀i,i<4->(R i).length<=1000:=fun i hi=>yE
 have hAl:A.length<=250:=xZ;obtain ⟨S,hS⟩:=za w.heap.size;obtain ⟨U,hU⟩:=za (w.alloc qZc);have ah:qL w U:=zX;have Z0:m6 U S lQ:=yF;have aO:=hc.same (ah.block _ hc.lt)
 obtain ⟨zb,cQ⟩:∃zb:Bool,zb=true↔m9 (lY R) nd:=⟨@decide _ (Classical.propDecidable _),@decide_eq_true_iff _ (Classical.propDecidable _)⟩
 have eH:=rZ U ao cap R nd zb cQ ((hE.later ah).Q1) ((D7.r aP).later ah) hR.toN dA h2 h3;unfold kV at eH;have k2:U.cell? (qA br 2)=some (.slice (ao 0) (R 0).length (cap 0)):=aO.c2;have k3:U.cell? (qA br 3)=some (.slice (ao 1) (R 1).length (cap 1)):=aO.c3;have k4:U.cell? (qA br 4)=some (.slice (ao 2) (R 2).length (cap 2)):=aO.c4;have k5:U.cell? (qA br 5)=some (.slice (ao 3) (R 3).length (cap 3)):=aO.c5;have htU:=cT.kept ⟨fun k hk _=>ah.block k hk,fun _ _=>rfl⟩ (fun _ _=>⟨fun k hk _=>ah.block k hk,fun _ _=>rfl⟩)
 have H0:Aside (n7 U br T (i:Int) (kvs ao cap R) bt bx bc/\m6 U S lQ/\qL w U/\S=w.heap.size/\F1 B ad U/\B<=w.heap.size/\(zb=true↔m9 A nd)/\P0 U c bx A):=⟨aO,Z0,ah,hS,hE.later ah,hE.size,cQ.trans (tD hperm nd).symm,htU⟩
 have HU:Aside (U=w.alloc qZc):=hU;clear hU aO Z0 ah hE hc hS cQ aP hR cT htU;go_enter func209,ntmps209;go_upto_region 1 with fail;rw [<-HU.o,<-H0.o.2.2.2.1];go_wp2_with fail;refine eH.mono ?_;rintro e w1 ⟨rfl,hb1⟩;have Z1:=H0.o.2.1.later hb1
 have H1:Aside (m6 w1 S lQ/\qL w w1/\F1 B ad w1/\n7 w1 br T (i:Int) (kvs ao cap R) bt bx bc/\P0 w1 c bx A):=⟨Z1,zi H0.o.2.2.1 hb1,H0.o.2.2.2.2.1.later hb1,H0.o.1.same (hb1.block _ H0.o.1.lt),H0.o.2.2.2.2.2.2.2.kept ⟨fun k hk _=>hb1.block k hk,fun _ _=>rfl⟩ (fun _ _=>⟨fun k hk _=>hb1.block k hk,fun _ _=>rfl⟩)⟩
 obtain ⟨mw,hmw⟩:=za (IntKind.i64.wrap (n - 1))
 have jt: -9223372036854775808<=mw/\mw<=9223372036854775807/\(mw=n - 1\/(mw=9223372036854775807/\n= -9223372036854775808)):=by rw [hmw,IntKind.wrap_i64];omega
 have wrapn:=hmw.symm;have HMB:Aside (mw=n - 1\/(mw=9223372036854775807/\n= -9223372036854775808)):=jt.2.2;clear hmw;by_cases hn0:n=0
 ·subst hn0
  have HX:Aside (m6 w1 S lQ/\qL w w1/\F1 B ad w1/\n7 w1 br T (i:Int) (kvs ao cap R) bt bx bc):=⟨H1.o.1,H1.o.2.1,H1.o.2.2.1,H1.o.2.2.2.1⟩
  have HA:Aside (N9 A nd 0 (0,zb)):=.inl ⟨rfl,rfl,H0.o.2.2.2.2.2.2.1⟩
  cases zb with
  | false=>
   obtain ⟨z0,z1,z2,z3,z4,z5,z6,z7,zf⟩:=m6.ct HX.o.1;have eg:=HX.o.2.2.1.c5;have bu:=HX.o.2.2.1.low;have ab:=H0.o.2.2.2.1;have bI:=H0.o.2.2.2.2.2.1;have n1:5≠S:=zj;have n2:S≠5:=zj;clear bu ab bI;go_wp2_with fail;go_region
   all_goals
    go_wp2;(try simp only [Exit.inBlock,Exit.then]);refine bodyPost_ret (v:=.tuple #[mH lQ,eV ad 6]) ?_ rfl ⟨_,HA.o,.inr ⟨zq,rfl,?_⟩⟩
    ·exact kd1
    exact ko0
  | true=>
   have fi:qL w1 (w1.alloc (.cells #[.int .u8 (ch.toNat:Int)] 5)):=zh w1 _;have hconv:=EC (LL w1 ch) rfl;have hown:=AD (w1.alloc (.cells #[.int .u8 (ch.toNat:Int)] 5)) br T i ao cap bt bx bc R 105 nd 0 ⟨#[]⟩ ⟨#[ch]⟩ (HX.o.2.2.2.same (fi.block _ HX.o.2.2.2.lt)) (HX.o.2.2.1.later fi) hi hT hm hn zo (by show (1:Nat)<=1000000;omega)
   have HB:Aside (qL w (w1.alloc (.cells #[.int .u8 (ch.toNat:Int)] 5))/\m6 (w1.alloc (.cells #[.int .u8 (ch.toNat:Int)] 5)) S lQ):=⟨zi HX.o.2.1 fi,HX.o.1.later fi⟩
   unfold mH at hown;go_wp2_with fail;refine hown.mono ?_;rintro e w3 ⟨he,hb3⟩;obtain ⟨y,hy⟩:=za ((if pZ (nR T i (R i).length 105 nd 0 ⟨#[]⟩ ⟨#[ch]⟩)=0 then nR T i (R i).length 105 nd 0 ⟨#[]⟩ ⟨#[ch]⟩ else lQ));obtain ⟨er,aB⟩:=za (eV ad (pZ (nR T i (R i).length 105 nd 0 ⟨#[]⟩ ⟨#[ch]⟩)));rw [<-hy,<-aB] at he;subst he
   have HY:Aside (y=(if pZ (nR T i (R i).length 105 nd 0 ⟨#[]⟩ ⟨#[ch]⟩)=0 then nR T i (R i).length 105 nd 0 ⟨#[]⟩ ⟨#[ch]⟩ else lQ)/\er=eV ad (pZ (nR T i (R i).length 105 nd 0 ⟨#[]⟩ ⟨#[ch]⟩))):=⟨hy,aB⟩
   clear hy aB;obtain ⟨t,b,m,kd,nd',o,s,v⟩:=y;unfold mH;dsimp only;have Z2:=HB.o.2.later hb3;obtain ⟨z0,z1,z2,z3,z4,z5,z6,z7,zf⟩:=m6.ct Z2;have B2:Aside (qL w w3):=zi HB.o.1 hb3;go_wp2;(try simp only [Exit.inBlock,Exit.then]);refine bodyPost_ret (v:=.tuple #[.agg (qOa t b m kd nd' o s v),er]) ?_ rfl ⟨_,HA.o,.inl ⟨rfl,⟨by rw [<-HY.o.1,<-HY.o.2];rfl,?_⟩⟩⟩
   ·exact kc3
   exact ki0
 have dn0:(n !=0)=true:=by simp [hn0]
 have iq:=Dz w1 c br T (i:Int) (kvs ao cap R) bt bx bc A nd mw H1.o.2.2.2.1 H1.o.2.2.2.2 zj zj zj ⟨jt.1,jt.2.1⟩;have HN0:=Lib.hid hn0;go_wp2_with fail;refine iq.mono ?_;rintro e w2 ⟨⟨bh,zz⟩,rfl,ha1,ha2,hb2⟩
 have HX:Aside (m6 w2 S lQ/\qL w w2/\F1 B ad w2/\n7 w2 br T (i:Int) (kvs ao cap R) bt bx bc):=⟨H1.o.1.later hb2,zi H1.o.2.1 hb2,H1.o.2.2.1.later hb2,H1.o.2.2.2.1.same (hb2.block _ H1.o.2.2.2.1.lt)⟩
 have HA:Aside (N9 A nd n (bh,zz)):=.inr ⟨HN0.o,ha1,fun q=>by obtain ⟨L,hL,e⟩:=ha2 q;exact ⟨L,hL,e.trans (TB HMB.o (by have:=hL.y9;omega))⟩⟩;dsimp only
 cases zz with
 | false=>
  obtain ⟨z0,z1,z2,z3,z4,z5,z6,z7,zf⟩:=m6.ct HX.o.1;have eg:=HX.o.2.2.1.c5;have bu:=HX.o.2.2.1.low;have ab:=H0.o.2.2.2.1;have bI:=H0.o.2.2.2.2.2.1;have n1:5≠S:=zj;have n2:S≠5:=zj;clear bu ab bI;go_wp2_with fail;go_region
  all_goals
   go_wp2;(try simp only [Exit.inBlock,Exit.then]);refine bodyPost_ret (v:=.tuple #[mH lQ,eV ad 6]) ?_ rfl ⟨_,HA.o,.inr ⟨zq,rfl,?_⟩⟩
   ·exact kd1
   exact ko0
 | true=>
  have fi:qL w2 (w2.alloc (.cells #[.int .u8 (ch.toNat:Int)] 5)):=zh w2 _;have hconv:=EC (LL w2 ch) rfl;have hown:=AD (w2.alloc (.cells #[.int .u8 (ch.toNat:Int)] 5)) br T i ao cap bt bx bc R 105 nd bh ⟨#[]⟩ ⟨#[ch]⟩ (HX.o.2.2.2.same (fi.block _ HX.o.2.2.2.lt)) (HX.o.2.2.1.later fi) hi hT hm hn zo (by show (1:Nat)<=1000000;omega)
  have HB:Aside (qL w (w2.alloc (.cells #[.int .u8 (ch.toNat:Int)] 5))/\m6 (w2.alloc (.cells #[.int .u8 (ch.toNat:Int)] 5)) S lQ):=⟨zi HX.o.2.1 fi,HX.o.1.later fi⟩
  unfold mH at hown;go_wp2_with fail;refine hown.mono ?_;rintro e w3 ⟨he,hb3⟩;obtain ⟨y,hy⟩:=za ((if pZ (nR T i (R i).length 105 nd bh ⟨#[]⟩ ⟨#[ch]⟩)=0 then nR T i (R i).length 105 nd bh ⟨#[]⟩ ⟨#[ch]⟩ else lQ));obtain ⟨er,aB⟩:=za (eV ad (pZ (nR T i (R i).length 105 nd bh ⟨#[]⟩ ⟨#[ch]⟩)));rw [<-hy,<-aB] at he;subst he
  have HY:Aside (y=(if pZ (nR T i (R i).length 105 nd bh ⟨#[]⟩ ⟨#[ch]⟩)=0 then nR T i (R i).length 105 nd bh ⟨#[]⟩ ⟨#[ch]⟩ else lQ)/\er=eV ad (pZ (nR T i (R i).length 105 nd bh ⟨#[]⟩ ⟨#[ch]⟩))):=⟨hy,aB⟩
  clear hy aB;obtain ⟨t,b,m,kd,nd',o,s,v⟩:=y;unfold mH;dsimp only;have Z2:=HB.o.2.later hb3;obtain ⟨z0,z1,z2,z3,z4,z5,z6,z7,zf⟩:=m6.ct Z2;have B2:Aside (qL w w3):=zi HB.o.1 hb3;go_wp2;(try simp only [Exit.inBlock,Exit.then]);refine bodyPost_ret (v:=.tuple #[.agg (qOa t b m kd nd' o s v),er]) ?_ rfl ⟨_,HA.o,.inl ⟨rfl,⟨by rw [<-HY.o.1,<-HY.o.2];rfl,?_⟩⟩⟩
  ·exact kc3
  exact ki0
end
section
open RowKit Lib Go.Sort Maps
open scoped Classical
structure J5 (w:qW) (S:Nat) (W1:qW) (v0:Value) (ls:List qU) (v:Value) (wr:qW):Prop where
 st:P6 S ls v wr
 m8:Below S w wr
 L5:m7 (fun k=>k=S\/v0.ownBlock=some k) W1 wr
 L4:∀k,v.ownBlock=some k->v0.ownBlock=some k\/W1.heap.size<=k
theorem J5.start{w W}{S}{ls}{v}(h:P6 S ls v W)(hb:Below S w W):J5 w S W v ls v W:=⟨h,hb,m7.refl _ _,fun k hk=>.inl hk⟩
theorem J5.later{w W1 wr w'}{S}{ls}{v0 v}(h:J5 w S W1 v0 ls v wr)(hb:qL wr w'):J5 w S W1 v0 ls v w':=
 ⟨h.st.later hb,h.m8.trans (hb.mono (Yz h.st.lt)),h.L5.trans ((lW hb).mono (fun k hk e=>absurd hk zj)),h.L4⟩
theorem J5.acn{w W1 wr w'}{S}{ls}{v0 v}{C9}{e}(h:J5 w S W1 v0 ls v wr)(ht:JL S C9 ls v wr e w'):∃v',e=qT #[]/\J5 w S W1 v0 (ls++ [C9]) v' w':=by
 obtain ⟨v',rfl,h1,h2,h3⟩:=ht;have hs:=h.L5.size;refine ⟨v',rfl,h1,?_,h.L5.then h2 (fun i hi q=>q.imp id (fun q=> ?_)),fun k hk=> ?_⟩
 ·refine h.m8.trans (h2.m8 (Yz h.st.lt) (fun k q=> ?_))
  rcases q with rfl | q
  ·exact uM _
  have:=(h.st.row.lt k q).1;omega
 ·rcases h.L4 i q with q | q
  ·exact q
  omega
 rcases h3 k hk with q | q
 ·exact h.L4 k q
 omega
theorem J5.kept{w W1 wr}{S}{ls}{v0 v}(h:J5 w S W1 v0 ls v wr){g}(hg:g<W1.heap.size)(h1:g≠S)(h2:v0.ownBlock≠some g):wr.heap[g]? =W1.heap[g]? :=h.L5.block g hg (fun e=>e.elim h1 h2)
theorem J5.abM{α}{enc}{w W1 wr}{S}{ls}{v0 v}(h:J5 w S W1 v0 ls v wr){ao}{zs:List α}(hz:N7 enc W1 ao zs)(hk:∀g o,ao=some (qA g o)->g<W1.heap.size/\g≠S/\v0.ownBlock≠some g):N7 enc wr ao zs:=
 hz.kept (fun g o e=>h.kept (hk g o e).1 (hk g o e).2.1 (hk g o e).2.2)
theorem WK{α}{enc}{k}(hlen:∀x,(enc x).length=k)(hk:0<k){w}{ao}{zs:List α}(h:N7 enc w ao zs)(hz:zs≠ []){g o}(e:ao=some (qA g o)):g<w.heap.size:=by
 cases zs with
 | nil=>exact absurd rfl hz
 | cons x t=>
  obtain ⟨b,o',e',hc⟩:=h.e hlen (i:=0) (x:=x) rfl;rw [e] at e'
  cases e'
  cases hx:enc x with
  | nil=>grind
  | cons u r=>exact uP w (qA g _) (hc 0 u (by rw [hx];rfl))
theorem zcg{w}{v}{qs}(h:M9 w v qs):∃ao cap,v= .slice ao qs.length cap/\N7 mW w ao qs/\∀g o,ao=some (qA g o)->v.ownBlock=some g/\g<w.heap.size:=by
 rcases h with ⟨rfl,rfl⟩ | ⟨g,cap,rfl,hl,hc⟩
 ·exact ⟨none,0,rfl,.inl rfl,fun g o e=>yN⟩
 exact ⟨some (qB g),cap,rfl,.inr ⟨g,0,rfl,fun j u hj=>zM⟩,fun g' o e=>by cases e;exact ⟨rfl,hl⟩⟩
theorem Eo(n)(h0:0<=n)(h1:n<2^62):(Lib.itoa n).length<=100:=by
 grind [Lib.itoa_length_le]
theorem JQ(M):∀ls:List qU,(∀l∈ls,l.length<=M)->(Lib.join ls [10]).length<=ls.length*(M+1)
 | [],_=>by simp [Lib.join_nil]
 | x::r,h=>by
  rw [Lib.join_length]
  have:∀r:List qU,(∀l∈r,l.length<=M)->Lib.lens r<=r.length*M:=fun r=>by
   induction r with
   | nil=>intro _;simp [Lib.lens]
   | cons y r ih=>
    intro h;have h1:=h y zq;have h2:=ih (fun l hl=>h l (by simp [hl]))
    simp only [Lib.lens,ZR,List.sum_cons,Zd] at h2 |-
    rw [YG];omega
  grind
theorem Iz{A}{mm}(h:P8 (rj A) mm){m}(hm:m∈mm):0<=m.1/\m.1<2^40/\m.2.1.size<=12/\m.2.2.size<=12:=by
 obtain ⟨-,s,hs⟩:=(h.U7 m).1 hm;have hb:=AQ (rQ A) (Aa m);unfold rj at hs;rw [hs] at hb;have hmem:(Aa m,(m.2.2,s))∈rQ A:=hb.1;obtain ⟨x,hx,e⟩:=Yr.1 hmem
 have hx0:mz x=0:=by
  unfold Lz at e;split at e
  ·rename_i q;exact q.1
  cases e
 have ek:=AM e;have q:=mP hx0;have e1:m.1=x.2.2.2.2.1:=congrArg (fun z=>z.1.1) ek;have e2:m.2.1=x.2.2.2.2.2.2.1:=congrArg (fun z=>z.1.2) ek;have e3:m.2.2=x.2.2.2.2.2.2.2:=congrArg (fun z=>z.2.1) ek;have l1:x.2.2.2.2.2.2.1.data.toList.length=x.2.2.2.2.2.2.1.size:=zq;have l2:x.2.2.2.2.2.2.2.data.toList.length=x.2.2.2.2.2.2.2.size:=zq
 grind
theorem Br{α β:Type}(f:α->β)(l:List α){k}{x}(h:l[k]? =some x):(l.take (k+1)).map f=(l.take k).map f++ [f x]:=by
 rw [ZF,h,Zz];rfl
theorem UV(A):∃tf:Int->qU,Aside (∀nd L,u9 A nd L->tf nd=rA L):=by
 refine ⟨fun nd=>if h:∃L,u9 A nd L then rA h.choose else [],fun nd L hL=> ?_⟩
 have h:∃L,u9 A nd L:=⟨L,hL⟩
 simp only [dif_pos h];rw [h.choose_spec.q hL]
def Vp(k:Int):List Value:=[qI k]
theorem Hv(k):(Vp k).length=1:=rfl
theorem Fo:∀ks:List Int,mN Vp ks=Em ks
 | []=>rfl
 | k::r=>by rw [sS,Fo r];rfl
theorem EB(nd)(ws)(h0:0<=nd)(h1:nd<2^62)(hj:(Lib.join ws [32]).length<=5000):(AO nd ws).length<=10000:=by
 grind [Eo,AO,uS,Zd,Zt]
theorem IP{p}(h:P1 p):(Lib.join [[105,110],Lib.itoa p.2.1,p.2.2.data.toList] [32]).length<=200000:=by
 have h1:=Eo p.2.1 h.lo' h.hi';have h2:=h.sz;have h3:p.2.2.data.toList.length=p.2.2.size:=zq;exact kd5
theorem GF{p}(h:P1 p):(oT p).length<=10000:=by
 refine EB _ _ h.lo h.hi ?_;have h1:=Eo p.2.1 h.lo' h.hi';have h2:=h.sz;have h3:p.2.2.data.toList.length=p.2.2.size:=zq;exact kd5
theorem LR{t}(h:t.2.length<=1000)(h0:0<=t.1)(h1:t.1<2^40):(BJ t).length<=10000:=by
 refine EB _ _ h0 zj ?_;exact kd5
theorem Kg{m}(h:0<=m.1/\m.1<2^40/\m.2.1.size<=12/\m.2.2.size<=12):(Hp m).length<=10000:=by
 refine EB _ _ h.1 zj ?_;have h3:m.2.1.data.toList.length=m.2.1.size:=zq;have h4:m.2.2.data.toList.length=m.2.2.size:=zq;exact kd5
theorem Rs(w)(S)(ls)(v)(h:P6 S ls v w)(hl:ls.length<=1000000)(hm:∀l∈ls,l.length<=10000):
  qC 104 #[v,.string ⟨#[10]⟩] w (qR (.string ⟨(Lib.join ls [10]).toArray⟩) w):=by
 have hlen:=JQ 10000 ls hm;have hr:=h.row
 rcases h.row.2 with ⟨rfl,h0⟩ | ⟨g,cap,cur,rfl,hbg,hgb,r1,r2,r3,r4⟩
 ·have:=Zi.1 h0;subst this
  exact (Tryz.strings_Join_none none 0 ⟨#[10]⟩ w).mono fun e w' ⟨h1,h2⟩=>⟨h1,by rw [h2];exact uO _ _⟩
 have e1:(ls.map fun l=>(⟨l.toArray⟩:qY)).map (·.data.toList)=ls:=by
  rw [YQ];exact (Yp (fun l _=>rfl)).trans (List.map_id ls)
 have e2:(ls.map fun l=>(⟨l.toArray⟩:qY)).length=ls.length:=Zj _
 have:=Tryz.strings_Join g 0 cap (ls.map fun l=>(⟨l.toArray⟩:qY)) ⟨#[10]⟩ w (fun j x hj=>by
  rw [Ze]
  obtain ⟨l,eK,rfl⟩:∃l,ls[j]? =some l/\(⟨l.toArray⟩:qY)=x:=by
   rw [ZQ] at hj
   cases hq:ls[j]? with
   | none=>rw [hq] at hj;cases hj
   | some l=>rw [hq] at hj;cases hj;exact ⟨l,rfl,rfl⟩
  have d9:=(uK.1 eK).1
  rw [hr.cellAt j zj]
  grind [MT]) (uN.1 hgb).1 (by rw [e2];omega) (by rw [e2];exact r1) zN
 rw [e1,e2] at this;exact this
end
section
open RowKit Lib Go.Sort Maps
theorem JC(n:Nat)(w)(hn:n<=1000):Calls prog 286 #[.slice none 0 0,.int .i64 (n:Int)] w fun e w'=>∃v,e= .returned v/\w'.ownsRow w.heap.size 88 8 v 0 []/\Below w.heap.size w w':=by
 by_cases h0:n=0
 ·subst h0;go_enter func286,ntmps286;go_wp2;go_ret;exact ⟨_,rfl,Zk _ _ _ _,uO _ w⟩
 have d0:decide ((n:Int)<0)=false:=zq;have d1':decide (0<n)=true:=zl;have e1:((n:Int) - 0)=(n:Int):=zj;obtain ⟨i0,hi,aD,aw,aJ⟩:=info_parts rD
 have ae:=fun ty=>Lib.run_append_nil_zeros (P:=prog) w 136 3 ty 88 i0 _ .i64 .i64 underlying136 underlying3 hi aD n zj zj zj (by rw [aJ];omega)
 obtain ⟨cp,hcp⟩:=za (grownCap w n 0 88);rw [<-hcp] at ae
 have hge:n<=cp:=by rw [hcp];exact grownCap_ge w n 0 _
 have hle:cp<=maxLen:=by rw [hcp];exact grownCap_le_maxLen w n 0 _ zB
 have HC:Aside (cp=grownCap w n 0 88/\n<=cp/\cp<=maxLen):=⟨hcp,hge,hle⟩
 clear hcp hge hle;go_enter func286,ntmps286;go_wp2_with (at_builtin;refine Lib.wpList_append_run _ rfl _ _ _ _ rfl _ _ rfl rfl _ _ (ae _) ?_);go_ret;refine ⟨_,rfl,⟨rfl,.inr ⟨w.heap.size,cp,_,rfl,uM _,heap_alloc_new w _,uW _,HC.o.2.2,?_,?_⟩⟩,(zh w _).drew⟩
 ·have:=HC.o.2.1;simp [size_zeroCells];omega
 simp
theorem KW{w}{ao}{xs}(h:F2 w ao xs):N7 nD w ao xs:=h
theorem Lq(w:World)(Bk:Nat)(ao:Nat->Option Addr)(cap:Nat->Nat)(R:Rws)(hk:I5 w Bk ao cap R)(hK:D7 w ao R)(hnil:∀i,i<4->ao i=none->cap i=0)(hn:(lY R).length<=1000):
  Calls prog 232 #[.slice (some ⟨Bk,0,none⟩) 4 4] w fun e w'=>∃v,e= .returned v/\w'.ownsRow w.heap.size 88 8 v (lY R).length (cellsOf (lY R))/\Below w.heap.size w w':=by
 have hl3:=Ad R (i:=3) zj;have c0:=hk.at (i:=0) zj;have c1:=hk.at (i:=1) zj;have c2:=hk.at (i:=2) zj;have c3:=hk.at (i:=3) zj
 have jk:(lY R).length=(R 0).length+(R 1).length+(R 2).length+(R 3).length:=by unfold lY;simp;omega
 have fh:=JC ((R 0).length+(R 1).length+(R 2).length+(R 3).length) w zj
 have HK:Aside (D7 w ao R/\∀i,i<4->ao i=none->cap i=0):=⟨hK,hnil⟩
 have HS:Aside ((lY R).length=(R 0).length+(R 1).length+(R 2).length+(R 3).length):=jk;have g0:(((R 0).length+(R 1).length+(R 2).length+(R 3).length:Nat):Int)=(R 0).length+(R 1).length+(R 2).length+(R 3).length:=zj;rw [g0] at fh;have hT:(R 0).length+(R 1).length+(R 2).length+(R 3).length<=1000:=zj;have n1:decide (((R 0).length:Int)<0)=false:=zq;have n2:decide (((R 0).length:Int)+(R 1).length<0)=false:=zl;have n3:decide (((R 0).length:Int)+(R 1).length+(R 2).length<0)=false:=zl;have n4:decide (((R 0).length:Int)+(R 1).length+(R 2).length+(R 3).length<0)=false:=zl;go_enter func232,ntmps232;go_wp2;refine wp_loop_rounds 5 ?_
 iterate 4
  rw [rounds_succ];go_wp2
 rw [rounds_succ];go_wp2_with fail;refine fh.mono ?_;rintro e w0 ⟨v0,rfl,bF,hb0⟩;have cL:Aside (Below w.heap.size w w0):=hb0;have bF:w0.ownsRow w.heap.size 88 8 v0 0 []:=bF;obtain ⟨x0,y0,rfl⟩:=mC bF;go_wp2;refine wp_loop_rounds 5 ?_;rw [rounds_succ];obtain ⟨v1,w1,ae,aQ,ag⟩:=oR (enc:=nD) (k:=8) (S:=136) (T:=88) underlying136 rD zj zj rfl nL oY bF zj cL.o.size (ao 0) (cap 0) (R 0) zj (KW (HK.o.1.later cL.o 0 zj)) (HK.o.2 0 zj) 136;have HB1:Aside (Below w.heap.size w w1):=cL.o.grown ag cL.o.size (fun g hg=>(bF.lt g hg).1);have f0:=cell_later cL.o c0;have f1:=cell_later cL.o c1;have f2:=cell_later cL.o c2;have f3:=cell_later cL.o c3;rw [Ze] at aQ;obtain ⟨x1,y1,rfl⟩:=mC aQ;go_wp2_with (at_builtin;refine Lib.wpList_append_run _ rfl _ _ _ _ rfl _ _ rfl rfl _ _ ae ?_);rw [rounds_succ];obtain ⟨v2,w2,ae,dH,ag⟩:=oR (enc:=nD) (k:=8) (S:=136) (T:=88) underlying136 rD zj zj rfl nL oY aQ zj HB1.o.size (ao 1) (cap 1) (R 1) zj (KW (HK.o.1.later HB1.o 1 zj)) (HK.o.2 1 zj) 136;have cP:Aside (Below w.heap.size w w2):=HB1.o.grown ag HB1.o.size (fun g hg=>(aQ.lt g hg).1);have f0:=cell_later HB1.o c0;have f1:=cell_later HB1.o c1;have f2:=cell_later HB1.o c2;have f3:=cell_later HB1.o c3;obtain ⟨x2,y2,rfl⟩:=mC dH;go_wp2_with (at_builtin;refine Lib.wpList_append_run _ rfl _ _ _ _ rfl _ _ rfl rfl _ _ ae ?_);rw [rounds_succ];obtain ⟨v3,w3,ae,aZ,ag⟩:=oR (enc:=nD) (k:=8) (S:=136) (T:=88) underlying136 rD zj zj rfl nL oY dH zj cP.o.size (ao 2) (cap 2) (R 2) zj (KW (HK.o.1.later cP.o 2 zj)) (HK.o.2 2 zj) 136;have fb:Aside (Below w.heap.size w w3):=cP.o.grown ag cP.o.size (fun g hg=>(dH.lt g hg).1);have f0:=cell_later cP.o c0;have f1:=cell_later cP.o c1;have f2:=cell_later cP.o c2;have f3:=cell_later cP.o c3;obtain ⟨x3,y3,rfl⟩:=mC aZ;go_wp2_with (at_builtin;refine Lib.wpList_append_run _ rfl _ _ _ _ rfl _ _ rfl rfl _ _ ae ?_);rw [rounds_succ]
 obtain ⟨v4,w4,ae,fU,ag⟩:=oR (enc:=nD) (k:=8) (S:=136) (T:=88) underlying136 rD zj zj rfl nL oY aZ zj fb.o.size (ao 3) (cap 3) (R 3) zj (KW (HK.o.1.later fb.o 3 zj)) (HK.o.2 3 zj) 136;have HB4:Aside (Below w.heap.size w w4):=fb.o.grown ag fb.o.size (fun g hg=>(aZ.lt g hg).1);have f0:=cell_later fb.o c0;have f1:=cell_later fb.o c1;have f2:=cell_later fb.o c2;have f3:=cell_later fb.o c3;obtain ⟨x4,y4,rfl⟩:=mC fU;go_wp2_with (at_builtin;refine Lib.wpList_append_run _ rfl _ _ _ _ rfl _ _ rfl rfl _ _ ae ?_);rw [rounds_succ];go_wp2;go_ret;refine ⟨_,rfl,?_,HB4.o⟩;rw [HS.o];rw [show cellsOf (lY R)= []++cellsOf (R 0)++cellsOf (R 1)++cellsOf (R 2)++cellsOf (R 3) by unfold lY;simp [oL]];exact fU
theorem To{w}{c}{ao}{cap}{R}(h:E6 w c (kvs ao cap R) R):∀i,i<4->ao i=none->cap i=0:=fun i hi e=>by
 obtain ⟨-,h2⟩:=(h i hi).1
 grind [kvs,Value.slice.injEq]
theorem tQ(w)(c)(br)(o8)(R)(h:L0 w c br o8 R)(hn:(lY R).length<=1000):
  qC 66 #[qP br] w (qR (.agg #[qI ((R 0).length:Int),qI ((R 1).length:Int),qI ((R 2).length:Int),qI ((R 3).length:Int)]) w):=by
 obtain ⟨T,kv,bt,bx,bc,A,hm,hp,hK,hb⟩:=h;obtain ⟨ao,cap,hM⟩:=hm.aaY;obtain ⟨U,hU⟩:=za (w.alloc (.cells #[qI 0,qI 0,qI 0,qI 0] 103 (0,0)));have ah:qL w U:=zX;have hc:=hM.cell.same (ah.block _ hM.cell.lt)
 have hv:U.heap[w.heap.size]? =some (.cells #[qI 0,qI 0,qI 0,qI 0] 103 (0,0)):=by rw [hU];exact heap_alloc_new w _
 have hall:=IR U ao cap R (fun i hi=>uQ (Ad R hi) hn);unfold kV at hall;have k2:U.cell? (qA br 2)=some (.slice (ao 0) (R 0).length (cap 0)):=hc.c2;have k3:U.cell? (qA br 3)=some (.slice (ao 1) (R 1).length (cap 1)):=hc.c3;have k4:U.cell? (qA br 4)=some (.slice (ao 2) (R 2).length (cap 2)):=hc.c4;have k5:U.cell? (qA br 5)=some (.slice (ao 3) (R 3).length (cap 3)):=hc.c5
 have HU:Aside (U=w.alloc (.cells #[qI 0,qI 0,qI 0,qI 0] 103 (0,0))/\qL w U/\U.heap[w.heap.size]? =some (.cells #[qI 0,qI 0,qI 0,qI 0] 103 (0,0))):=⟨hU,ah,hv⟩
 clear hm hM hp hK hb hn hc hU ah hv;go_enter func66,ntmps66;go_upto_region 1 with fail;rw [<-HU.o.1];go_wp2_with fail;refine hall.mono ?_;clear hall;rintro e w2 ⟨rfl,h2⟩;have dh:=(h2.block w.heap.size (uN.1 HU.o.2.2).1).trans HU.o.2.2;have s0:w2.cell? (qB w.heap.size)=some (qI 0):=yU;have s1:w2.cell? (qA w.heap.size 1)=some (qI 0):=yU;have s2:w2.cell? (qA w.heap.size 2)=some (qI 0):=yU;have s3:w2.cell? (qA w.heap.size 3)=some (qI 0):=yU
 have z:∀o,w2.frozen? (qA w.heap.size o)=false:=fun o=>by simp [World.frozen?,dh]
 have H2:Aside (qL w w2):=zi HU.o.2.1 h2;clear h2 dh HU k2 k3 k4 k5;go_wp2;(try simp only [Exit.inBlock,Exit.then]);refine bodyPost_ret (v:=.agg #[qI ((R 0).length:Int),qI ((R 1).length:Int),qI ((R 2).length:Int),qI ((R 3).length:Int)]) ?_ rfl ⟨rfl,?_⟩
 ·rw [Hw rfl];go_simp
 exact (((H2.o.setCell zg _).setCell zg _).setCell zg _).setCell zg _

end