import Derived.Test.YtehighgebbdenaaGreatDoorRa14
set_option linter.unusedVariables false
namespace Go.Proofs.YtehighgebbdenaaGreatDoor
variable {T T' by_:Int} {A:List OpX} {B bc br bt bx i k nx p:Nat} {c':Nat→Nat} {kv:Nat→Value} {o:OpX} {R:Rws} {tx:kO} {w w' w1:World}
section
open Go.RowKit Go.Maps
open scoped Classical
structure RepPart (w:World) (c:Nat->Nat) (br:Nat) (T by_:Int) (kv:Nat->Value) (bt bx bc:Nat) (R:Rws) (A:List OpX):Prop where
 cell:RepCell w br T by_ kv bt bx bc
 hue:c br=1
 rows:RowsAt w c kv R
 tree:TreeC w c bt A
 text:TextC w c bx A
 marks:CellC w c bc A
theorem RepMid.part {c:Nat->Nat} (h:RepMid w c br T by_ kv bt bx bc R A):RepPart w c br T by_ kv bt bx bc R A:=⟨h.cell,h.hue,h.rows,h.tree,h.text,h.marks⟩
theorem RepPart.kept {w w':World} {c c':Nat->Nat} {br:Nat} {T by_:Int} {kv:Nat->Value} {bt bx bc:Nat} {R:Rws} {A:List OpX} (h:RepPart w c br T by_ kv bt bx bc R A) (hk:∀i,i≠0->mt c i w c' w'):RepPart w' c' br T by_ kv bt bx bc R A:=by
 have k1:=hk 1 zo;exact ⟨h.cell.same (k1.block _ h.cell.lt h.hue),(k1.hue _ h.cell.lt).trans h.hue,h.rows.kept (fun i _=>hk _ zo),h.tree.kept (hk 2 zo),h.text.kept (hk 3 zo) (fun nd _=>hk _ yw),h.marks.kept (hk 4 zo)⟩
theorem RepPart.later {c:Nat->Nat} (h:RepPart w c br T by_ kv bt bx bc R A) (hb:Below w.heap.size w w'):RepPart w' c br T by_ kv bt bx bc R A:=
 h.kept (fun i _=>⟨fun k hk _=>hb.block k hk,fun k _=>rfl⟩)
theorem RepPart.heard {W:World} {c:Nat->Nat} {t:Int} (h:RepPart w c br T by_ kv bt bx bc R A) (hb:Below w.heap.size w W) (hh:Eo br T t W w'):RepPart w' c br (if T<t then t else T) by_ kv bt bx bc R A/\Keeps (fun k=>k=br) w w':=by
 have hW:=h.later hb;have hKW:Keeps (fun k=>k=br) w W:=(aW hb).mono (fun k hk e=>zo)
 rcases hh with ⟨hlt,W',hb',hheap,hk⟩ | ⟨hlt,hb'⟩
 ·have hW':=hW.later hb'
  have hk3:Keeps (fun k=>k=br) w w':=(hKW.then (aW hb') (fun k hk e=>by have:=hKW.size;omega)).then hk (fun _ _ e=>e)
  rw [if_pos hlt]
  have hkept:∀i,i≠1->mt c i W' c w':=fun i hi=>⟨fun k hkl e=>hk.block k hkl (fun e'=>by rw [e',hW'.hue] at e;omega),fun _ _=>rfl⟩
  refine ⟨⟨?_,hW'.hue,hW'.rows.kept (fun i _=>hkept _ zo),hW'.tree.kept (hkept 2 zo),hW'.text.kept (hkept 3 zo) (fun nd _=>hkept _ yw),hW'.marks.kept (hkept 4 zo)⟩,hk3⟩;have:=heap_setCell_same W' br 0 _ _ (.int .i64 t) hW'.cell;unfold RepCell;rw [hheap,this];simp
 rw [if_neg hlt];exact ⟨hW.later hb',hKW.then (aW hb') (fun k hk e=>by have:=hKW.size;omega)⟩
def dH (c:Nat->Nat) (w w':World) (i:Nat):Nat->Nat:=fun k=>if k<w.heap.size then c k else if k<w'.heap.size then i else 0
theorem ah {c:Nat->Nat} (h:k<w.heap.size):dH c w w' i k=c k:=if_pos h
theorem gN {c:Nat->Nat} (h:w.heap.size<=k) (h':k<w'.heap.size):dH c w w' i k=i:=by unfold dH;rw [if_neg zo,if_pos h']
theorem gT {c:Nat->Nat} {Sx:Nat->Prop} {j m:Nat} (hk:Keeps Sx w w') (hS:∀k,k<w.heap.size->Sx k->c k=i) (hij:j≠i):mt c j w (dH c w w' m) w':=
 ⟨fun k hkl e=>hk.block k hkl (fun s=>hij (by rw [<-hS k hkl s,e])),fun k hkl=>ah hkl⟩
def AppOk (B:Nat) (w:World) (c:Nat->Nat) (br:Nat) (by_:Int) (kv:Nat->Value) (bt bx bc:Nat) (R:Rws) (A:List OpX) (T':Int) (w':World):Prop:=∃c',RepPart w' c' br T' by_ kv bt bx bc R A/\Acts w c w' c'/\(∀k,c' k≠0->B<=k)/\∀k,w'.heap.size<=k->c' k=0
theorem AppOk.of {c c1:Nat->Nat} {Sx:Nat->Prop} (hc:c'=dH c1 w1 w' i) (hp:RepPart w' c' br T' by_ kv bt bx bc R A) (h1:Acts w c w1 c1) (hk:Keeps Sx w1 w') (hS:∀k,k<w1.heap.size->Sx k->c1 k≠0) (hB:∀k,c1 k≠0->B<=k) (hBw:B<=w.heap.size):AppOk B w c br by_ kv bt bx bc R A T' w':=by
 subst hc;refine ⟨_,hp,h1.trans ⟨hk.mono hS,fun k hkl=>ah hkl⟩,fun k e=> ?_,fun k hkl=> ?_⟩
 ·by_cases hkl:k<w1.heap.size
  ·rw [ah hkl] at e;exact hB k e
  have:=h1.keeps.size;omega
 have:=hk.size;unfold dH;rw [if_neg zo,if_neg zo]
theorem rP {c:Nat->Nat} {A':List OpX} {cm:Nat} (h:RepPart w1 c br T' by_ kv bt bx bc R A) (hkd:kdO o=115) (hA':A'.Perm A) (hcm:c bc=4/\c cm=4) (hset:Fy w1 bc cm A.length (dh A') o w') (h1:Acts w c w1 c) (hB:∀k,c k≠0->B<=k) (hBw:B<=w.heap.size):AppOk B w c br by_ kv bt bx bc R (o::A) T' w':=by
 have hS4:∀k,k<w1.heap.size->(k=cm)->c k=4:=fun k _ e=>by rw [e];exact hcm.2
 have kp:∀j,j≠4->mt c j w1 (dH c w1 w' 4) w':=fun j hj=>gT hset.2 hS4 hj
 have hk115:kdO o≠109:=by rw [hkd];decide
 have hbcl:=hset.1.lt;refine AppOk.of (i:=4) rfl ⟨?_,?_,?_,?_,?_,?_⟩ h1 hset.2 (fun k hk e=>by rw [hS4 k hk e];decide) hB hBw
 ·exact h.cell.same ((kp 1 zo).block _ h.cell.lt h.hue)
 ·rw [ah h.cell.lt];exact h.hue
 ·exact h.rows.kept (fun i _=>kp _ zo)
 ·exact (h.tree.kept (kp 2 zo)).skip hk115
 ·exact (h.text.kept (kp 3 zo) (fun nd _=>kp _ yw)).skip ⟨by rw [hkd];decide,by rw [hkd];decide⟩ (fun q=>hk115 q.1)
 refine CellC.set (A':=A') (cm:=cm) hA' ?_ hset;obtain ⟨cm0,A0,q1,_⟩:=h.marks;have hbl:bc<w1.heap.size:=q1.lt.1;have hcl:cm<w'.heap.size:=hbcl.2;refine ⟨by rw [ah hbl];exact hcm.1,?_⟩;by_cases e:cm<w1.heap.size
 ·rw [ah e];exact hcm.2
 rw [gN zo hcl]
theorem iU {B:Nat} {w w1 w':World} {c:Nat->Nat} {br:Nat} {by_:Int} {kv:Nat->Value} {bt bx bc:Nat} {R:Rws} {A:List OpX} {T':Int} {o:OpX} {nx:Nat} {tx:kO} {p:Nat} {v:Value} {L M:List Ltr} (h:RepPart w1 c br T' by_ kv bt bx bc R A) (hA:∀x∈A,an x=0) (hkd:kdO o=105\/kdO o=100)
  (t1:nx<=A.length) (t2:TMapAt w1 bx nx tx) (t3:c bx=3) (t4:∀nd,(tx nd).isSome=true↔KnownN A nd) (t5:∀nd p,tx nd=some p->LineC w1 c p nd A) (hp:tx (aL o)=some p)
  (hL:LineAt (p+1) w1 p v L) (hue:c p=cR (aL o)/\∀g,v.ownBlock=some g->c g=cR (aL o)) (hact:ActOk (p+1) w1 p v M w') (hM:LineIs (o::A) (aL o) M) (h1:Acts w c w1 c) (hB:∀k,c k≠0->B<=k) (hBw:B<=w.heap.size):AppOk B w c br by_ kv bt bx bc R (o::A) T' w':=by
 obtain ⟨v',q1,q2,q3⟩:=hact
 have hS:∀k,k<w1.heap.size->(k=p\/some k=v.ownBlock)->c k=cR (aL o):=fun k _ e=>e.elim (fun e=>by rw [e];exact hue.1) (fun e=>hue.2 k e.symm)
 have kp:∀j,j≠cR (aL o)->mt c j w1 (dH c w1 w' (cR (aL o))) w':=fun j hj=>gT q2 hS hj
 have n20:∀i,i<20->i≠cR (aL o):=fun i hi=>yw
 have hk109:kdO o≠109:=fun e=>xx
 have hk115:kdO o≠115:=fun e=>xx
 have hnd:KnownN A (aL o):=(t4 _).1 xN;have hnd4:=ep hA hnd;refine AppOk.of (i:=cR (aL o)) rfl ⟨?_,?_,?_,?_,?_,?_⟩ h1 q2 (fun k hk e=>by rw [hS k hk e];unfold cR;omega) hB hBw
 ·exact h.cell.same ((kp 1 (n20 1 zo)).block _ h.cell.lt h.hue)
 ·rw [ah h.cell.lt];exact h.hue
 ·exact h.rows.kept (fun i hi=>kp _ (n20 _ zo))
 ·exact (h.tree.kept (kp 2 (n20 2 zo))).skip hk109
 ·have k3:=kp 3 (n20 3 zo);refine ⟨nx,tx,zr,t2.same (k3.block _ t2.lt t3),(k3.hue _ t2.lt).trans t3,fun nd=>(t4 nd).trans ?_,fun nd p' hp'=> ?_⟩
  ·rw [gJ];exact ⟨.inl,fun q=>q.elim id (fun q=>absurd q.1 hk109)⟩
  by_cases e:nd=aL o
  ·subst e;rw [hp] at hp'
   cases hp'
   refine ⟨v',M,q1,hM,by rw [ah hL.lt];exact hue.1,fun g hg=> ?_⟩;have hgl:=q1.kin hg;by_cases e:g<w1.heap.size
   ·rw [ah e]
    rcases q3 with e3 | e3
    ·rw [e3] at hg;exact hue.2 g hg
    have:=e3 g hg;omega
   rw [gN zo hgl]
  have hnk:=(t4 nd).1 (by rw [hp'];rfl);have hn4:=ep hA hnk;obtain ⟨v2,L2,k1,k2,k4⟩:=(t5 nd p' hp').kept (kp (cR nd) (fun q=>e (Ip zo zo q)));exact ⟨v2,L2,k1,k2.skip (fun q=>e q.1.symm),k4⟩
 exact (h.marks.kept (kp 4 (n20 4 zo))).skip hk115
theorem iD {B:Nat} {w w1 w':World} {c c1:Nat->Nat} {br:Nat} {by_:Int} {kv:Nat->Value} {bt bx bc:Nat} {R:Rws} {A:List OpX} {T':Int} {o:OpX} {bm:Nat} {v v':Value} {ms ms':List Mov} (hcell:RepCell w1 br T' by_ kv bt bx bc) (hhue:c1 br=1) (hrows:RowsAt w1 c1 kv R) (htext:TextC w1 c1 bx (o::A)) (hmarks:CellC w1 c1 bc A) (hkd:kdO o=109)
  (hT:TreeAt 0 w1 bt bm v ms) (hms:ms.Perm (ai A)) (hue:c1 bt=2/\c1 bm=2/\∀g,v.ownBlock=some g->c1 g=2) (q1:TreeAt 0 w' bt bm v' ms') (q2:ms'.Perm (((o.1,o.2.1),(aL o,aJ o,o.2.2.2.2.2.2.1))::ms)) (q3:Keeps (fun k=>k=bt\/k=bm\/some k=v.ownBlock) w1 w') (q4:v'.ownBlock=v.ownBlock\/∀g,v'.ownBlock=some g->w1.heap.size<=g) (h1:Acts w c w1 c1) (hB:∀k,c1 k≠0->B<=k) (hBw:B<=w.heap.size):AppOk B w c br by_ kv bt bx bc R (o::A) T' w':=by
 have hS:∀k,k<w1.heap.size->(k=bt\/k=bm\/some k=v.ownBlock)->c1 k=2:=fun k _ e=>by
  rcases e with e | e | e
  ·rw [e];exact hue.1
  ·rw [e];exact hue.2.1
  exact hue.2.2 k e.symm
 have kp:∀j,j≠2->mt c1 j w1 (dH c1 w1 w' 2) w':=fun j hj=>gT q3 hS hj
 obtain ⟨l1,l2,l3⟩:=hT.lt;refine AppOk.of (i:=2) rfl ⟨?_,?_,?_,?_,?_,?_⟩ h1 q3 (fun k hk e=>by rw [hS k hk e];decide) hB hBw
 ·exact hcell.same ((kp 1 zo).block _ hcell.lt hhue)
 ·rw [ah hcell.lt];exact hhue
 ·exact hrows.kept (fun i _=>kp _ zo)
 ·refine ⟨bm,v',ms',q1,by rw [Ea hkd];exact q2.trans (hms.cons _),by rw [ah l1];exact hue.1,by rw [ah l2];exact hue.2.1,fun g hg=> ?_⟩;have hgl:=q1.lt.2.2 g hg;by_cases e:g<w1.heap.size
  ·rw [ah e]
   rcases q4 with e4 | e4
   ·rw [e4] at hg;exact hue.2.2 g hg
   have:=e4 g hg;omega
  rw [gN zo hgl]
 ·exact htext.kept (kp 3 zo) (fun nd _=>kp _ yw)
 exact (hmarks.kept (kp 4 zo)).skip (by rw [hkd];decide)
theorem pW {w2:World} {c:Nat->Nat} (h:RepPart w1 c br T' by_ kv bt bx bc R A) (hs:StepOk A o) (hkd:kdO o=109) (hid:aL o=idO o)
  (t1:nx<=A.length) (t2:TMapAt w2 bx (nx+1) (fun x=>if x=aL o then some p else tx x)) (t3:c bx=3) (t4:∀nd,(tx nd).isSome=true↔KnownN A nd) (t5:∀nd p,tx nd=some p->LineC w1 c p nd A) (hbx:bx<w1.heap.size)
  (hline:w2.heap[p]? =some (.cells #[.slice none 0 0] 248 (0,0))) (hpn:w1.heap.size<=p) (hk:Keeps (fun k=>k=bx) w1 w2):
  RepCell w2 br T' by_ kv bt bx bc/\dH c w1 w2 (cR (aL o)) br=1/\RowsAt w2 (dH c w1 w2 (cR (aL o))) kv R/\TreeC w2 (dH c w1 w2 (cR (aL o))) bt A/\TextC w2 (dH c w1 w2 (cR (aL o))) bx (o::A)/\CellC w2 (dH c w1 w2 (cR (aL o))) bc A:=by
 have hS:∀k,k<w1.heap.size->k=bx->c k=3:=fun k _ e=>by rw [e];exact t3
 have kp:∀j,j≠3->mt c j w1 (dH c w1 w2 (cR (aL o))) w2:=fun j hj=>gT hk hS hj
 have hA:∀x∈A,an x=0:=fun x hx=>(hs.all x hx).1
 obtain ⟨hnk,hno⟩:=hs.fresh hid;have hpl:p<w2.heap.size:=(vO.1 hline).1;refine ⟨h.cell.same ((kp 1 zo).block _ h.cell.lt h.hue),by rw [ah h.cell.lt];exact h.hue,h.rows.kept (fun i _=>kp _ zo),h.tree.kept (kp 2 zo),?_,h.marks.kept (kp 4 zo)⟩;refine ⟨nx+1,_,zr,t2,by rw [ah hbx];exact t3,fun nd=> ?_,fun nd p' hp'=> ?_⟩
 ·rw [gJ];by_cases e:nd=aL o
  ·subst e;rw [if_pos rfl];exact ⟨fun _=>.inr ⟨hkd,rfl,hid.symm⟩,fun _=>rfl⟩
  rw [if_neg e,t4 nd];exact ⟨.inl,fun q=>q.elim id (fun q=>absurd q.2.1.symm e)⟩
 by_cases e:nd=aL o
 ·subst e;rw [if_pos rfl] at hp'
  cases hp'
  refine ⟨.slice none 0 0,[],⟨hline,un _ _ _ _,zo,zv,fun l hl=>jL,fun l hl=>jL⟩,?_,by rw [gN hpn hpl],fun g hg=>by cases hg⟩
  exact LineIs.new (fun x hx q=>by
   rcases vT.1 hx with rfl | hx
   ·rw [hkd];decide
   ·exact absurd q (hno x hx))
 rw [if_neg e] at hp';have hnk':=(t4 nd).1 (by rw [hp'];rfl);have hn4:=ep hA hnk';have hno4:=Ca hs.ok;obtain ⟨v2,L2,k1,k2,k4⟩:=(t5 nd p' hp').kept (kp (cR nd) yw);exact ⟨v2,L2,k1,k2.skip (fun q=>e q.1.symm),k4⟩
