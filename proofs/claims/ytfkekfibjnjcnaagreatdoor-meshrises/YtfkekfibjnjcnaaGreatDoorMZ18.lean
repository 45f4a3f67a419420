import Derived.Test.YtfkekfibjnjcnaaGreatDoorMZ13
import Derived.Test.YtfkekfibjnjcnaaGreatDoorMZ14
set_option linter.unusedSimpArgs false
set_option linter.unusedVariables false
set_option maxRecDepth 100000
set_option maxHeartbeats 64000000
namespace Go.Proofs.YtfkekfibjnjcnaaGreatDoor
open Go.Proofs.Tryz
variable {T T' by_:Int} {M:List Ltr} {ms:List Mov} {A A':List OpX} {B bc br bt bx cm i k nx p:Nat} {c':Nat→Nat} {kv:Nat→Value} {o:OpX} {R:Rws} {tx:TSta} {v:Value} {W w w' w1:World}
section
open Go.RowKit
open scoped Classical
theorem movs_skip (h:kdO o≠109):movsO (o::A)=movsO A:=by
 unfold movsO
 exact List.filterMap_cons_none (if_neg h)
theorem movs_cons (h:kdO o=109):movsO (o::A)=((o.1,o.2.1),(nodeO o,otherO o,o.2.2.2.2.2.2.1))::movsO A:=by
 unfold movsO
 exact List.filterMap_cons_some (if_pos h)
theorem TreeC.skip {c:Nat->Nat} (h:TreeC w c bt A) (ho:kdO o≠109):TreeC w c bt (o::A):=by
 obtain ⟨bm,v,ms,h1,h2,h3⟩:=h
 exact ⟨bm,v,ms,h1,by rw [movs_skip ho];exact h2,h3⟩
theorem movs_new (h:StepOk A o) (hp:ms.Perm (movsO A)):∀m∈ms,m.1≠(o.1,o.2.1):=fun m hm e=>by
 obtain ⟨x,hx,q⟩:=Zi.1 (hp.mem_iff.1 hm)
 unfold movO at q
 split at q
 ·cases q
  exact h.new x hx e
 cases q
theorem CellC.skip {c:Nat->Nat} (h:CellC w c bc A) (ho:kdO o≠115):CellC w c bc (o::A):=by
 obtain ⟨cm,A',h1,h2,h3⟩:=h
 refine ⟨cm,A'++ [o],?_,(uG).trans (h2.cons o),h3⟩
 rw [madeO_snoc]
 unfold stepO
 rw [if_neg (fun q=>ho q.2)]
 exact h1.mono zm
theorem CellC.set {c:Nat->Nat} (h2:A'.Perm A) (h3:c bc=4/\c cm=4) (h:SetOk w bc cm A.length (madeO A') o w'):CellC w' c bc (o::A):=
 ⟨cm,A'++ [o],by rw [madeO_snoc];exact h.1,(uG).trans (h2.cons o),h3⟩
theorem TextC.skip {w:World} {c:Nat->Nat} {bx:Nat} {A:List OpX} (h:TextC w c bx A) {o:OpX} (ho:kdO o≠105/\kdO o≠100) (hn:¬(kdO o=109/\nodeO o=idO o)):TextC w c bx (o::A):=by
 obtain ⟨n,tx,h1,h2,h3,h4,h5⟩:=h
 refine ⟨n,tx,zl,h2,h3,fun nd=>(h4 nd).trans ?_,fun nd p hp=> ?_⟩
 ·rw [known_cons]
  exact ⟨.inl,fun q=>q.elim id (fun q=>absurd ⟨q.1,q.2.1.trans q.2.2.symm⟩ hn)⟩
 obtain ⟨v,L,k1,k2,k3⟩:=h5 nd p hp
 exact ⟨v,L,k1,k2.skip (fun q=>q.2.elim ho.1 ho.2),k3⟩
theorem known_pos (hA:∀x∈A,errO x=0) {nd:Int} (h:KnownN A nd):4<=nd:=by
 obtain ⟨x,hx,_,_,e⟩:=h
 have:=id_pos (hA x hx)
 omega
theorem hue_inj {a b:Int} (ha:0<=a) (hb:0<=b) (h:hueOf a=hueOf b):a=b:=by unfold hueOf at h;omega
theorem TextC.line {w w':World} {c c':Nat->Nat} {bx:Nat} {A:List OpX} (hA:∀x∈A,errO x=0) (h:TextC w c bx A) {o:OpX} (ho:kdO o=105\/kdO o=100) (hn:KnownN A (nodeO o)) (hk:Kept c 3 w c' w') (hl:∀nd,nd≠nodeO o->0<=nd->Kept c (hueOf nd) w c' w')
  (hline:∀p,LineC w c p (nodeO o) A->LineC w' c' p (nodeO o) (o::A)):TextC w' c' bx (o::A):=by
 obtain ⟨n,tx,h1,h2,h3,h4,h5⟩:=h
 refine ⟨n,tx,zl,h2.same (hk.block _ h2.lt h3),(hk.hue _ h2.lt).trans h3,fun nd=>(h4 nd).trans ?_,fun nd p hp=> ?_⟩
 ·rw [known_cons]
  exact ⟨.inl,fun q=>q.elim id (fun q=>by rw [q.1] at ho;rcases ho with k | k<;>exact absurd k zt)⟩
 by_cases e:nd=nodeO o
 ·subst e
  exact hline p (h5 _ p hp)
 obtain ⟨v,L,k1,k2,k3⟩:=(h5 nd p hp).kept (hl nd e (by have:=known_pos hA ((h4 nd).1 xz);omega))
 exact ⟨v,L,k1,k2.skip (fun q=>e q.1.symm),k3⟩
end
section
open Go.RowKit Go.Maps
open scoped Classical
theorem opid_is (x:OpX) (w:World) (h:errO x=0):Calls prog 131 #[encO x] w fun e w'=>e= .returned (.int .i64 (idO x))/\Below w.heap.size w w':=by
 have h0:=err_by h
 obtain ⟨t,b,n,k,nd,o,s,v⟩:=x
 unfold encO idO
 dsimp only
 have h1:1<=t:=h0.1
 have h2:t<=1073741824:=h0.2.1
 have h3:0<=b:=h0.2.2.1
 have h4:b<4:=h0.2.2.2
 go_enter func131,ntmps131
 go_wp2_with (go_at_call 174;refine (id_ok t b _ h1 h2 h3 h4).mono ?_;rintro e w1 ⟨rfl,hb⟩;have B1:Aside (Below w.heap.size w w1):=(zh w _).trans (hb.mono zm);clear hb)
 go_ret
 exact ⟨rfl,B1.o⟩
end
section
open Go.RowKit Go.Maps
open scoped Classical
structure RepPart (w:World) (c:Nat->Nat) (br:Nat) (T by_:Int) (kv:Nat->Value) (bt bx bc:Nat) (R:Rws) (A:List OpX):Prop where
 cell:RepCell w br T by_ kv bt bx bc
 hue:c br=1
 rows:RowsAt w c kv R
 tree:TreeC w c bt A
 text:TextC w c bx A
 marks:CellC w c bc A
theorem RepPart.kept {w w':World} {c c':Nat->Nat} {br:Nat} {T by_:Int} {kv:Nat->Value} {bt bx bc:Nat} {R:Rws} {A:List OpX} (h:RepPart w c br T by_ kv bt bx bc R A) (hk:∀i,i≠0->Kept c i w c' w'):RepPart w' c' br T by_ kv bt bx bc R A:=by
 have k1:=hk 1 zj
 exact ⟨h.cell.same (k1.block _ h.cell.lt h.hue),(k1.hue _ h.cell.lt).trans h.hue,h.rows.kept (fun i _=>hk _ zj),h.tree.kept (hk 2 zj),h.text.kept (hk 3 zj) (fun nd _=>hk _ yk),h.marks.kept (hk 4 zj)⟩
theorem RepPart.later {c:Nat->Nat} (h:RepPart w c br T by_ kv bt bx bc R A) (hb:Below w.heap.size w w'):RepPart w' c br T by_ kv bt bx bc R A:=
 h.kept (fun i _=>⟨fun k hk _=>hb.block k hk,fun k _=>rfl⟩)
theorem RepPart.heard {c:Nat->Nat} {t:Int} (h:RepPart w c br T by_ kv bt bx bc R A) (hb:Below w.heap.size w W) (hh:Heard br T t W w'):RepPart w' c br (if T<t then t else T) by_ kv bt bx bc R A/\Keeps (fun k=>k=br) w w':=by
 have hW:=h.later hb
 have hKW:Keeps (fun k=>k=br) w W:=(keeps_of_below hb).mono (fun k hk e=>zj)
 rcases hh with ⟨hlt,W',hb',hheap,hk⟩ | ⟨hlt,hb'⟩
 ·have hW':=hW.later hb'
  have hk3:Keeps (fun k=>k=br) w w':=(hKW.then (keeps_of_below hb') (fun k hk e=>by have:=hKW.size;omega)).then hk (fun _ _ e=>e)
  rw [if_pos hlt]
  have hkept:∀i,i≠1->Kept c i W' c w':=fun i hi=>⟨fun k hkl e=>hk.block k hkl (fun e'=>by rw [e',hW'.hue] at e;omega),fun _ _=>rfl⟩
  refine ⟨⟨?_,hW'.hue,hW'.rows.kept (fun i _=>hkept _ zj),hW'.tree.kept (hkept 2 zj),hW'.text.kept (hkept 3 zj) (fun nd _=>hkept _ yk),hW'.marks.kept (hkept 4 zj)⟩,hk3⟩
  have:=heap_setCell_same W' br 0 _ _ (.int .i64 t) hW'.cell
  unfold RepCell
  rw [hheap,this]
  simp
 rw [if_neg hlt]
 exact ⟨hW.later hb',hKW.then (keeps_of_below hb') (fun k hk e=>by have:=hKW.size;omega)⟩
def paint2 (c:Nat->Nat) (w w':World) (i:Nat):Nat->Nat:=fun k=>if k<w.heap.size then c k else if k<w'.heap.size then i else 0
theorem paint2_old {c:Nat->Nat} (h:k<w.heap.size):paint2 c w w' i k=c k:=if_pos h
theorem paint2_new {c:Nat->Nat} (h:w.heap.size<=k) (h':k<w'.heap.size):paint2 c w w' i k=i:=by unfold paint2;rw [if_neg zj,if_pos h']
theorem kept_paint {c:Nat->Nat} {Sx:Nat->Prop} {j m:Nat} (hk:Keeps Sx w w') (hS:∀k,k<w.heap.size->Sx k->c k=i) (hij:j≠i):Kept c j w (paint2 c w w' m) w':=
 ⟨fun k hkl e=>hk.block k hkl (fun s=>hij (by rw [<-hS k hkl s,e])),fun k hkl=>paint2_old hkl⟩
def AppOk (B:Nat) (w:World) (c:Nat->Nat) (br:Nat) (by_:Int) (kv:Nat->Value) (bt bx bc:Nat) (R:Rws) (A:List OpX) (T':Int) (w':World):Prop:=∃c',RepPart w' c' br T' by_ kv bt bx bc R A/\Acts w c w' c'/\(∀k,c' k≠0->B<=k)/\∀k,w'.heap.size<=k->c' k=0
theorem AppOk.of {c c1:Nat->Nat} {Sx:Nat->Prop} (hc:c'=paint2 c1 w1 w' i) (hp:RepPart w' c' br T' by_ kv bt bx bc R A) (h1:Acts w c w1 c1) (hk:Keeps Sx w1 w') (hS:∀k,k<w1.heap.size->Sx k->c1 k≠0) (hB:∀k,c1 k≠0->B<=k) (hBw:B<=w.heap.size):AppOk B w c br by_ kv bt bx bc R A T' w':=by
 subst hc
 refine ⟨_,hp,h1.trans ⟨hk.mono hS,fun k hkl=>paint2_old hkl⟩,fun k e=> ?_,fun k hkl=> ?_⟩
 ·by_cases hkl:k<w1.heap.size
  ·rw [paint2_old hkl] at e;exact hB k e
  have:=h1.keeps.size;omega
 have:=hk.size
 unfold paint2
 rw [if_neg zj,if_neg zj]
theorem apply_set_go {c:Nat->Nat} (h:RepPart w1 c br T' by_ kv bt bx bc R A) (hkd:kdO o=115) (hA':A'.Perm A) (hcm:c bc=4/\c cm=4) (hset:SetOk w1 bc cm A.length (madeO A') o w') (h1:Acts w c w1 c) (hB:∀k,c k≠0->B<=k) (hBw:B<=w.heap.size):AppOk B w c br by_ kv bt bx bc R (o::A) T' w':=by
 have hS4:∀k,k<w1.heap.size->(k=cm)->c k=4:=fun k _ e=>by rw [e];exact hcm.2
 have kp:∀j,j≠4->Kept c j w1 (paint2 c w1 w' 4) w':=fun j hj=>kept_paint hset.2 hS4 hj
 have hk115:kdO o≠109:=by rw [hkd];decide
 have hbcl:=hset.1.lt
 refine AppOk.of (i:=4) rfl ⟨?_,?_,?_,?_,?_,?_⟩ h1 hset.2 (fun k hk e=>by rw [hS4 k hk e];decide) hB hBw
 ·exact h.cell.same ((kp 1 zj).block _ h.cell.lt h.hue)
 ·rw [paint2_old h.cell.lt];exact h.hue
 ·exact h.rows.kept (fun i _=>kp _ zj)
 ·exact (h.tree.kept (kp 2 zj)).skip hk115
 ·exact (h.text.kept (kp 3 zj) (fun nd _=>kp _ yk)).skip ⟨by rw [hkd];decide,by rw [hkd];decide⟩ (fun q=>hk115 q.1)
 refine CellC.set (A':=A') (cm:=cm) hA' ?_ hset
 obtain ⟨cm0,A0,q1,_⟩:=h.marks
 have hbl:bc<w1.heap.size:=q1.lt.1
 have hcl:cm<w'.heap.size:=hbcl.2
 refine ⟨by rw [paint2_old hbl];exact hcm.1,?_⟩
 by_cases e:cm<w1.heap.size
 ·rw [paint2_old e];exact hcm.2
 rw [paint2_new zj hcl]
theorem apply_line_go {B:Nat} {w w1 w':World} {c:Nat->Nat} {br:Nat} {by_:Int} {kv:Nat->Value} {bt bx bc:Nat} {R:Rws} {A:List OpX} {T':Int} {o:OpX} {nx:Nat} {tx:TSta} {p:Nat} {v:Value} {L M:List Ltr} (h:RepPart w1 c br T' by_ kv bt bx bc R A) (hA:∀x∈A,errO x=0) (hkd:kdO o=105\/kdO o=100)
  (t1:nx<=A.length) (t2:TMapAt w1 bx nx tx) (t3:c bx=3) (t4:∀nd,(tx nd).isSome=true↔KnownN A nd) (t5:∀nd p,tx nd=some p->LineC w1 c p nd A) (hp:tx (nodeO o)=some p)
  (hL:LineAt (p+1) w1 p v L) (hue:c p=hueOf (nodeO o)/\∀g,v.ownBlock=some g->c g=hueOf (nodeO o)) (hact:ActOk (p+1) w1 p v M w') (hM:LineIs (o::A) (nodeO o) M) (h1:Acts w c w1 c) (hB:∀k,c k≠0->B<=k) (hBw:B<=w.heap.size):AppOk B w c br by_ kv bt bx bc R (o::A) T' w':=by
 obtain ⟨v',q1,q2,q3⟩:=hact
 have hS:∀k,k<w1.heap.size->(k=p\/some k=v.ownBlock)->c k=hueOf (nodeO o):=fun k _ e=>e.elim (fun e=>by rw [e];exact hue.1) (fun e=>hue.2 k e.symm)
 have kp:∀j,j≠hueOf (nodeO o)->Kept c j w1 (paint2 c w1 w' (hueOf (nodeO o))) w':=fun j hj=>kept_paint q2 hS hj
 have n20:∀i,i<20->i≠hueOf (nodeO o):=fun i hi=>yk
 have hk109:kdO o≠109:=fun e=>xf
 have hk115:kdO o≠115:=fun e=>xf
 have hnd:KnownN A (nodeO o):=(t4 _).1 xz
 have hnd4:=known_pos hA hnd
 refine AppOk.of (i:=hueOf (nodeO o)) rfl ⟨?_,?_,?_,?_,?_,?_⟩ h1 q2 (fun k hk e=>by rw [hS k hk e];unfold hueOf;omega) hB hBw
 ·exact h.cell.same ((kp 1 (n20 1 zj)).block _ h.cell.lt h.hue)
 ·rw [paint2_old h.cell.lt];exact h.hue
 ·exact h.rows.kept (fun i hi=>kp _ (n20 _ zj))
 ·exact (h.tree.kept (kp 2 (n20 2 zj))).skip hk109
 ·have k3:=kp 3 (n20 3 zj)
  refine ⟨nx,tx,zl,t2.same (k3.block _ t2.lt t3),(k3.hue _ t2.lt).trans t3,fun nd=>(t4 nd).trans ?_,fun nd p' hp'=> ?_⟩
  ·rw [known_cons]
   exact ⟨.inl,fun q=>q.elim id (fun q=>absurd q.1 hk109)⟩
  by_cases e:nd=nodeO o
  ·subst e
   rw [hp] at hp'
   cases hp'
   refine ⟨v',M,q1,hM,by rw [paint2_old hL.lt];exact hue.1,fun g hg=> ?_⟩
   have hgl:=q1.kin hg
   by_cases e:g<w1.heap.size
   ·rw [paint2_old e]
    rcases q3 with e3 | e3
    ·rw [e3] at hg;exact hue.2 g hg
    have:=e3 g hg;omega
   rw [paint2_new zj hgl]
  have hnk:=(t4 nd).1 (by rw [hp'];rfl)
  have hn4:=known_pos hA hnk
  obtain ⟨v2,L2,k1,k2,k4⟩:=(t5 nd p' hp').kept (kp (hueOf nd) (fun q=>e (hue_inj zj zj q)))
  exact ⟨v2,L2,k1,k2.skip (fun q=>e q.1.symm),k4⟩
 exact (h.marks.kept (kp 4 (n20 4 zj))).skip hk115
theorem apply_move_go {B:Nat} {w w1 w':World} {c c1:Nat->Nat} {br:Nat} {by_:Int} {kv:Nat->Value} {bt bx bc:Nat} {R:Rws} {A:List OpX} {T':Int} {o:OpX} {bm:Nat} {v v':Value} {ms ms':List Mov} (hcell:RepCell w1 br T' by_ kv bt bx bc) (hhue:c1 br=1) (hrows:RowsAt w1 c1 kv R) (htext:TextC w1 c1 bx (o::A)) (hmarks:CellC w1 c1 bc A) (hkd:kdO o=109)
  (hT:TreeAt 0 w1 bt bm v ms) (hms:ms.Perm (movsO A)) (hue:c1 bt=2/\c1 bm=2/\∀g,v.ownBlock=some g->c1 g=2) (q1:TreeAt 0 w' bt bm v' ms') (q2:ms'.Perm (((o.1,o.2.1),(nodeO o,otherO o,o.2.2.2.2.2.2.1))::ms)) (q3:Keeps (fun k=>k=bt\/k=bm\/some k=v.ownBlock) w1 w') (q4:v'.ownBlock=v.ownBlock\/∀g,v'.ownBlock=some g->w1.heap.size<=g) (h1:Acts w c w1 c1) (hB:∀k,c1 k≠0->B<=k) (hBw:B<=w.heap.size):AppOk B w c br by_ kv bt bx bc R (o::A) T' w':=by
 have hS:∀k,k<w1.heap.size->(k=bt\/k=bm\/some k=v.ownBlock)->c1 k=2:=fun k _ e=>by
  rcases e with e | e | e
  ·rw [e];exact hue.1
  ·rw [e];exact hue.2.1
  exact hue.2.2 k e.symm
 have kp:∀j,j≠2->Kept c1 j w1 (paint2 c1 w1 w' 2) w':=fun j hj=>kept_paint q3 hS hj
 obtain ⟨l1,l2,l3⟩:=hT.lt
 refine AppOk.of (i:=2) rfl ⟨?_,?_,?_,?_,?_,?_⟩ h1 q3 (fun k hk e=>by rw [hS k hk e];decide) hB hBw
 ·exact hcell.same ((kp 1 zj).block _ hcell.lt hhue)
 ·rw [paint2_old hcell.lt];exact hhue
 ·exact hrows.kept (fun i _=>kp _ zj)
 ·refine ⟨bm,v',ms',q1,by rw [movs_cons hkd];exact q2.trans (hms.cons _),by rw [paint2_old l1];exact hue.1,by rw [paint2_old l2];exact hue.2.1,fun g hg=> ?_⟩
  have hgl:=q1.lt.2.2 g hg
  by_cases e:g<w1.heap.size
  ·rw [paint2_old e]
   rcases q4 with e4 | e4
   ·rw [e4] at hg;exact hue.2.2 g hg
   have:=e4 g hg;omega
  rw [paint2_new zj hgl]
 ·exact htext.kept (kp 3 zj) (fun nd _=>kp _ yk)
 exact (hmarks.kept (kp 4 zj)).skip (by rw [hkd];decide)
theorem apply_new_go {w2:World} {c:Nat->Nat} (h:RepPart w1 c br T' by_ kv bt bx bc R A) (hs:StepOk A o) (hkd:kdO o=109) (hid:nodeO o=idO o)
  (t1:nx<=A.length) (t2:TMapAt w2 bx (nx+1) (fun x=>if x=nodeO o then some p else tx x)) (t3:c bx=3) (t4:∀nd,(tx nd).isSome=true↔KnownN A nd) (t5:∀nd p,tx nd=some p->LineC w1 c p nd A) (hbx:bx<w1.heap.size)
  (hline:w2.heap[p]? =some (.cells #[.slice none 0 0] 192 (0,0))) (hpn:w1.heap.size<=p) (hk:Keeps (fun k=>k=bx) w1 w2):
  RepCell w2 br T' by_ kv bt bx bc/\paint2 c w1 w2 (hueOf (nodeO o)) br=1/\RowsAt w2 (paint2 c w1 w2 (hueOf (nodeO o))) kv R/\TreeC w2 (paint2 c w1 w2 (hueOf (nodeO o))) bt A/\TextC w2 (paint2 c w1 w2 (hueOf (nodeO o))) bx (o::A)/\CellC w2 (paint2 c w1 w2 (hueOf (nodeO o))) bc A:=by
 have hS:∀k,k<w1.heap.size->k=bx->c k=3:=fun k _ e=>by rw [e];exact t3
 have kp:∀j,j≠3->Kept c j w1 (paint2 c w1 w2 (hueOf (nodeO o))) w2:=fun j hj=>kept_paint hk hS hj
 have hA:∀x∈A,errO x=0:=fun x hx=>(hs.all x hx).1
 obtain ⟨hnk,hno⟩:=hs.fresh hid
 have hpl:p<w2.heap.size:=(vn.1 hline).1
 refine ⟨h.cell.same ((kp 1 zj).block _ h.cell.lt h.hue),by rw [paint2_old h.cell.lt];exact h.hue,h.rows.kept (fun i _=>kp _ zj),h.tree.kept (kp 2 zj),?_,h.marks.kept (kp 4 zj)⟩
 refine ⟨nx+1,_,zl,t2,by rw [paint2_old hbx];exact t3,fun nd=> ?_,fun nd p' hp'=> ?_⟩
 ·rw [known_cons]
  by_cases e:nd=nodeO o
  ·subst e
   rw [if_pos rfl]
   exact ⟨fun _=>.inr ⟨hkd,rfl,hid.symm⟩,fun _=>rfl⟩
  rw [if_neg e,t4 nd]
  exact ⟨.inl,fun q=>q.elim id (fun q=>absurd q.2.1.symm e)⟩
 by_cases e:nd=nodeO o
 ·subst e
  rw [if_pos rfl] at hp'
  cases hp'
  refine ⟨.slice none 0 0,[],⟨hline,ud _ _ _ _,zj,zm,fun l hl=>by simp at hl,fun l hl=>by simp at hl⟩,?_,by rw [paint2_new hpn hpl],fun g hg=>qr⟩
  exact LineIs.new (fun x hx q=>by
   rcases vz.1 hx with rfl | hx
   ·rw [hkd];decide
   ·exact absurd q (hno x hx))
 rw [if_neg e] at hp'
 have hnk':=(t4 nd).1 (by rw [hp'];rfl)
 have hn4:=known_pos hA hnk'
 have hno4:=id_pos hs.ok
 obtain ⟨v2,L2,k1,k2,k4⟩:=(t5 nd p' hp').kept (kp (hueOf nd) yk)
 exact ⟨v2,L2,k1,k2.skip (fun q=>e q.1.symm),k4⟩
end
section
open Go.RowKit Go.Maps
open scoped Classical
theorem keeps_undrew {Sx:Nat->Prop} (h:Keeps Sx w.drew w'):Keeps Sx w w':=⟨h.os,h.tape,h.output,h.size,h.block⟩
theorem below_undrew (h:Below w.drew.heap.size w.drew w'):Below w.heap.size w w':=⟨h.os,h.tape,h.output,h.size,h.block⟩
theorem actOk_undrew {base:Nat} (hb:Below w.heap.size w W) (h:ActOk base W p v M w'):ActOk base w p v M w':=by
 obtain ⟨v',q1,q2,q3⟩:=h
 exact ⟨v',q1,((keeps_of_below hb).mono (fun k hk e=>absurd hk zj)).then q2 (fun _ _ e=>e),q3.imp id (fun q g hg=>vr hb.size (q g hg))⟩
theorem ins_value {x:OpX} (h:errO x=0) (hk:kdO x=105):∃ch:UInt8,x.2.2.2.2.2.2.2=⟨#[ch]⟩:=by
 have h0:=opE_zero h
 unfold errO opE at h
 rw [if_pos ⟨h0.1,h0.2.1,h0.2.2.1,h0.2.2.2.1,h0.2.2.2.2.1,h0.2.2.2.2.2.1⟩] at h
 unfold kindE at h
 have hk':x.2.2.2.1=105:=hk
 rw [hk',if_neg zt,if_pos rfl] at h
 unfold insE at h
 split at h
 ·cases h
 split at h
 ·cases h
 split at h
 ·cases h
 rename_i hv
 have hl:x.2.2.2.2.2.2.2.data.toList.length=1:=by
  rcases Nat.decEq x.2.2.2.2.2.2.2.data.toList.length 1 with q | q
  ·exact absurd (.inl q) hv
  exact q
 match hd:x.2.2.2.2.2.2.2 with
 | ⟨⟨l⟩⟩=>
  rw [hd] at hl
  match l,hl with
  | [ch],_=>exact ⟨ch,rfl⟩
theorem apply_any {ad:Nat->Addr} (w:World) (c:Nat->Nat) (br:Nat) (T by_:Int) (kv:Nat->Value) (bt bx bc:Nat) (R:Rws) (A:List OpX) (x:OpX) (h:RepPart w c br T by_ kv bt bx bc R A) (hs:StepOk A x) (hE:EnvE B ad w) (hB:∀k,c k≠0->B<=k) (hcw:∀k,w.heap.size<=k->c k=0) (hlen:A.length<=140):
  Calls prog 93 #[.pointer (some ⟨br,0,none⟩),encO x] w fun e w'=>(∃u,e= .returned u)/\AppOk B w c br by_ kv bt bx bc R (x::A) (if T<x.1 then x.1 else T) w':=by
 have hsx:=opE_zero hs.ok
 have hby:=err_by hs.ok
 have hrf:=err_refs hs.ok
 have hir:=id_range hs.ok
 obtain ⟨t,b,n,kd,nd,o,s,v⟩:=x
 obtain ⟨P,hP⟩:=za w.heap.size
 obtain ⟨U,hU⟩:=za (w.alloc (.cells #[.int .i64 t,.int .i64 b,.int .i64 n,.int .u8 (kd:Int),.int .i64 nd,.int .i64 o,.string s,.string v] 41))
 have hbU:Below w.heap.size w U:=zP
 have O1:OpBlk U P (t,b,n,kd,nd,o,s,v):=by rw [hU,hP];exact OpBlk.new w (t,b,n,kd,nd,o,s,v)
 have hUp:=h.later hbU
 have hbr:br<P:=by rw [hP];exact h.cell.lt
 have hck:=chear_any br T by_ t b U.drew ⟨hUp.cell.c0,hUp.cell.c1,hUp.cell.fz 0⟩ hby.1 hby.2.1 hby.2.2.1 hby.2.2.2
 obtain ⟨T',hT'⟩:=za ((if T<t then t else T))
 have HT:Aside (T'=(if T<t then t else T)):=hT'
 have H0:Aside (RepPart U c br T by_ kv bt bx bc R A/\OpBlk U P (t,b,n,kd,nd,o,s,v)/\Below w.heap.size w U/\P=w.heap.size/\EnvE B ad w/\(∀k,c k≠0->B<=k)/\StepOk A (t,b,n,kd,nd,o,s,v)/\br<P/\c P=0):=⟨hUp,O1,hbU,hP,hE,hB,hs,hbr,hcw P zj⟩
 have HX:Aside (s.size<=1000000/\v.size<=1000000/\(-2^63<=nd/\nd<2^63)/\(kd=109\/kd=105\/kd=100\/kd=115)):=by
  have a1:s.data.toList.length<=12:=hsx.2.2.2.2.2.2.2.2.2.2.2.2.1
  have a2:v.data.toList.length<=12:=hsx.2.2.2.2.2.2.2.2.2.2.2.2.2
  rw [listLen] at a1 a2
  have a3:0<=nd:=hrf.2.2.1
  have a4:nd<=idO (t,b,n,kd,nd,o,s,v):=hrf.1.elim (fun q=>q.2) (fun q=>Zk q)
  exact ⟨zj,zj,⟨zj,zj⟩,hsx.2.2.2.2.2.2.1⟩
 have e1:(if T<(t,b,n,kd,nd,o,s,v).1 then (t,b,n,kd,nd,o,s,v).1 else T)=T':=hT'.symm
 rw [e1]
 clear e1 hT' hUp O1 hbU hs hE hB h hsx hby hrf hir hbr hcw
 unfold encO
 dsimp only
 go_enter func93,ntmps93
 go_wp2_with fail
 rw [<-hU,<-hP]
 clear hU hP
 refine wp_region_H (S:=(fun w'=>OpBlk w' P (t,b,n,kd,nd,o,s,v))) zk H0.o.2.1 (fun hHeld=> ?_)
 refine tk 0 hHeld ?_ (hy:=Or.inl ⟨zu,zF⟩)
 refine tk 1 hHeld ?_ (hy:=Or.inl ⟨zu,zF⟩)
 refine tk 2 hHeld ?_ (hy:=Or.inl ⟨zu,zF⟩)
 refine tk 3 hHeld ?_ (hy:=Or.inl ⟨zu,zF⟩)
 refine tk 4 hHeld ?_ (hy:=Or.inl ⟨zu,zF⟩)
 refine wpAnyH_one (i:=5) zk rfl (fun K hK=> ?_)
 go_simp
 refine hck.mono ?_
 clear hck
 rintro e w1 ⟨⟨u,rfl⟩,W,hbW,hh⟩
 have H1:Aside (RepPart w1 c br T' by_ kv bt bx bc R A/\OpBlk w1 P (t,b,n,kd,nd,o,s,v)/\Acts w c w1 c/\P<w1.heap.size/\w.heap.size<=w1.heap.size):=by
  obtain ⟨a1,a2⟩:=(H0.o.1.later (vu _ _).drew).heard hbW hh
  have hPU:P<U.heap.size:=H0.o.2.1.lt
  have a3:OpBlk w1 P (t,b,n,kd,nd,o,s,v):=(a2.block P hPU (fun e=>by have:=H0.o.2.2.2.2.2.2.2.1;omega)).trans H0.o.2.1
  refine ⟨by rw [HT.o];exact a1,a3,⟨((keeps_of_below H0.o.2.2.1).mono (fun k hk e=>absurd hk zj)).then (keeps_undrew a2) (fun k hk e=>by have e':k=br:=e;rw [e',H0.o.1.hue];decide),fun _ _=>rfl⟩,a3.lt,vr H0.o.2.2.1.size a2.size⟩
 refine hK _ _ H1.o.2.1 ?_
 clear hK K hh hbW
 refine qn ?_
 refine wpAnyH_done zk ?_ _
 have hP1:=H1.o.2.2.2.1
 have EV:Aside (EnvE B ad w1):=H0.o.2.2.2.2.1.mono (H1.o.2.2.1.keeps.below H0.o.2.2.2.2.1.size (fun k e=>H0.o.2.2.2.2.2.1 k e))
 obtain ⟨y0,y1,y2,y3,y4,y5,y6,y7,f8⟩:=H1.o.2.1.cells
 dsimp only at y0 y1 y2 y3 y4 y5 y6 y7
 have hkinds:=HX.o.2.2.2
 rcases hkinds with rfl | rfl | rfl | rfl
 ·have hstep:=H0.o.2.2.2.2.2.2.1
  have hcall:=opid_is (t,b,n,109,nd,o,s,v) w1.drew hstep.ok
  unfold encO at hcall
  dsimp only at hcall
  obtain ⟨dq,hdq⟩:=za ((nd==idO (t,b,n,109,nd,o,s,v)))
  have HDQ:Aside (dq=(nd==idO (t,b,n,109,nd,o,s,v))):=hdq
  obtain ⟨idx,hidx⟩:=za (idO (t,b,n,109,nd,o,s,v))
  rw [<-hidx] at hcall hdq
  have hdq':(nd==idx)=dq:=hdq.symm
  clear hdq hidx
  go_wp2_with fail
  refine wp_region_H (S:=(fun w'=>OpBlk w' P (t,b,n,109,nd,o,s,v)/\RepCell w' br T' by_ kv bt bx bc/\w'.heap[bx]? =w1.heap[bx]?)) zk ⟨H1.o.2.1,H1.o.1.cell,rfl⟩ (fun hHeld=> ?_)
  refine tk 0 hHeld ?_
  refine tk 1 hHeld ?_ (hy:=Or.inl ⟨zu,zX⟩)
  refine tk 2 hHeld ?_ (hy:=Or.inl ⟨zu,zD⟩)
  refine wpAnyH_one (i:=3) zk rfl (fun K hK=> ?_)
  go_simp
  refine hcall.mono ?_
  clear hcall
  rintro e w2 ⟨rfl,hb2⟩
  have hbX:Below w1.heap.size w1 w2:=below_undrew hb2
  have hbl:bx<w1.heap.size:=by
   obtain ⟨nx,tx,_,q2,_⟩:=H1.o.1.text
   exact q2.lt
  have hS2:OpBlk w2 P (t,b,n,109,nd,o,s,v)/\RepCell w2 br T' by_ kv bt bx bc/\w2.heap[bx]? =w1.heap[bx]? :=⟨H1.o.2.1.later hbX,H1.o.1.cell.same (hbX.block _ H1.o.1.cell.lt),hbX.block _ hbl⟩
  refine hK _ _ hS2 ?_
  clear hK K
  refine qn ?_
  refine wpAnyH_one (i:=4) zk rfl (fun K hK=> ?_)
  go_simp
  refine hK _ _ hS2 ?_
  clear hK K
  refine qn ?_
  refine wpAnyH_done zk ?_ _
  have H2:Aside (RepPart w2 c br T' by_ kv bt bx bc R A/\OpBlk w2 P (t,b,n,109,nd,o,s,v)/\Acts w c w2 c/\EnvE B ad w2):=⟨H1.o.1.later hbX,hS2.1,H1.o.2.2.1.trans (Acts.of_below c hbX),EV.o.later hbX⟩
  have hP2:=H2.o.2.1.lt
  clear y0 y1 y2 y3 y4 y5 y6 y7 f8 hHeld hS2 hbl hb2
  cases dq with
  | false=>
   have hnid:nd≠idO (t,b,n,109,nd,o,s,v):=fun e=>by
    have:=HDQ.o
    rw [<-e] at this
    simp at this
   have GX:Aside (RepCell w2 br T' by_ kv bt bx bc/\OpBlk w2 P (t,b,n,109,nd,o,s,v)/\c br=1/\RowsAt w2 (c) kv R/\TextC w2 (c) bx ((t,b,n,109,nd,o,s,v)::A)/\CellC w2 (c) bc A/\Acts w c w2 (c)/\(∀k,c k≠0->B<=k)/\c P=0):=⟨H2.o.1.cell,H2.o.2.1,H2.o.1.hue,H2.o.1.rows,H2.o.1.text.skip ⟨by show (109:Nat)≠105;decide,by show (109:Nat)≠100;decide⟩ (fun q=>hnid q.2),H2.o.1.marks,H2.o.2.2.1,H0.o.2.2.2.2.2.1,H0.o.2.2.2.2.2.2.2.2⟩
   have EX:Aside (EnvE B ad w2):=H2.o.2.2.2
   obtain ⟨bm,vt,ms,tr1,tr2,tr3,tr4,tr5⟩:=H2.o.1.tree
   have hcall:=apply_core undo_ok w2.drew 0 bt bm vt ms t b n nd o s v (EX.o.later (vu _ w2).drew).op4 (tr1.later (vu _ w2).drew) (vD _) qk HX.o.1 HX.o.2.1 hstep.ok (movs_new hstep tr2)
   go_wp2_with fail
   refine wp_region_H (S:=(fun w'=>OpBlk w' P (t,b,n,109,nd,o,s,v)/\RepCell w' br T' by_ kv bt bx bc)) zk ⟨GX.o.2.1,GX.o.1⟩ (fun hHeld=> ?_)
   refine tk 0 hHeld ?_
   refine tk 1 hHeld ?_
   refine tk 2 hHeld ?_
   refine tk 3 hHeld ?_ (hy:=Or.inl ⟨zu,qL⟩)
   refine tk 4 hHeld ?_ (hy:=Or.inl ⟨zu,zD⟩)
   refine wpAnyH_one (i:=5) zk rfl (fun K hK=> ?_)
   go_simp
   refine hcall.mono ?_
   clear hcall
   rintro e w4 ⟨rfl,vt',ms',q1,q2,q3,q4⟩
   have HS:Aside (AppOk B w c br by_ kv bt bx bc R ((t,b,n,109,nd,o,s,v)::A) T' w4):=apply_move_go (c1:=c) GX.o.1 GX.o.2.2.1 GX.o.2.2.2.1 GX.o.2.2.2.2.1 GX.o.2.2.2.2.2.1 rfl tr1 tr2 ⟨tr3,tr4,tr5⟩ q1 q2 (keeps_undrew q3) q4 GX.o.2.2.2.2.2.2.1 GX.o.2.2.2.2.2.2.2.1 H0.o.2.2.2.2.1.size
   have hne:∀k,c k=0\/c k=1->¬(k=bt\/k=bm\/some k=vt.ownBlock):=fun k e e'=>by
    have:c k=2:=by
     rcases e' with q | q | q
     ·rw [q];exact tr3
     ·rw [q];exact tr4
     exact tr5 k q.symm
    omega
   refine hK _ _ ⟨(q3.block P GX.o.2.1.lt (hne P (.inl GX.o.2.2.2.2.2.2.2.2))).trans GX.o.2.1,GX.o.1.same (q3.block br GX.o.1.lt (hne br (.inr GX.o.2.2.1)))⟩ ?_
   clear hK K
   refine qn ?_
   refine wpAnyH_done zk ?_ _
   go_wp2
   go_end0
   exact ⟨⟨_,rfl⟩,HS.o⟩
  | true=>
   have hnid:nd=idO (t,b,n,109,nd,o,s,v):=by
    have:=HDQ.o
    simpa using this.symm
   obtain ⟨nx,tx,t1,t2,t3,t4,t5⟩:=H2.o.1.text
   have hwf:Wf nd:=wf_of HX.o.2.2.1.1 HX.o.2.2.1.2
   have hbA:Below w2.heap.size w2 (w2.alloc (.cells #[.slice none 0 0] 192)).drew:=(zh w2 _).drew
   obtain ⟨w3,hrun,hM3,hT3⟩:=(t2.same (hbA.block bx t2.lt)).store zw hwf w2.heap.size
   have K3:=keeps_of_grown hT3.grown
   have hk23:Keeps (fun k=>k=bx) w2 w3:=((keeps_of_below hbA).mono (fun k hk e=>absurd hk zj)).then K3 (fun k hk e=>yr)
   have hline:w3.heap[w2.heap.size]? =some (.cells #[.slice none 0 0] 192 (0,0)):=by
    rw [K3.block _ (by show w2.heap.size<(w2.alloc _).heap.size;rw [vQ];exact Nat.lt_succ_self _) (fun e=>by have:=t2.lt;simp at e;omega)]
    exact heap_alloc_new w2 _
   have hnew:=apply_new_go (w2:=w3) (p:=w2.heap.size) (nx:=nx) (tx:=tx) H2.o.1 hstep rfl hnid t1 hM3 t3 t4 t5 t2.lt hline zg hk23
   obtain ⟨c2,hc2⟩:=za (paint2 c w2 w3 (hueOf (nodeO (t,b,n,109,nd,o,s,v))))
   rw [<-hc2] at hnew
   have hP3:OpBlk w3 P (t,b,n,109,nd,o,s,v):=(hk23.block P hP2 (fun e=>by have:=H0.o.2.2.2.2.2.2.2.2;rw [e,t3] at this;omega)).trans H2.o.2.1
   have GX:Aside (RepCell w3 br T' by_ kv bt bx bc/\OpBlk w3 P (t,b,n,109,nd,o,s,v)/\c2 br=1/\RowsAt w3 (c2) kv R/\TextC w3 (c2) bx ((t,b,n,109,nd,o,s,v)::A)/\CellC w3 (c2) bc A/\Acts w c w3 (c2)/\(∀k,c2 k≠0->B<=k)/\c2 P=0):=by
    refine ⟨hnew.1,hP3,hnew.2.1,hnew.2.2.1,hnew.2.2.2.2.1,hnew.2.2.2.2.2,H2.o.2.2.1.trans ⟨hk23.mono (fun k hk e=>by rw [e,t3];decide),fun k hk=>by rw [hc2];exact paint2_old hk⟩,fun k e=> ?_,by rw [hc2,paint2_old hP2];exact H0.o.2.2.2.2.2.2.2.2⟩
    by_cases hkl:k<w2.heap.size
    ·rw [hc2,paint2_old hkl] at e;exact H0.o.2.2.2.2.2.1 k e
    have:=H2.o.2.2.2.size;omega
   have EX:Aside (EnvE B ad w3):=H2.o.2.2.2.mono (hk23.below H2.o.2.2.2.size (fun k e=>H0.o.2.2.2.2.2.1 k (by rw [e,t3];decide)))
   obtain ⟨bm,vt,ms,tr1,tr2,tr3,tr4,tr5⟩:=hnew.2.2.2.1
   unfold encT_ at hrun
   simp only [uX] at hrun
   have hSA:OpBlk (w2.alloc (.cells #[.slice none 0 0] 192)).drew P (t,b,n,109,nd,o,s,v)/\RepCell (w2.alloc (.cells #[.slice none 0 0] 192)).drew br T' by_ kv bt bx bc:=⟨H2.o.2.1.later hbA,H2.o.1.cell.same (hbA.block _ H2.o.1.cell.lt)⟩
   clear hnew hM3 hT3 K3 hline hP3 hc2 hk23 t1 t2 t3 t4 t5 hbA hnid
   go_wp2_with fail
   refine wp_region_Z (S:=(fun w'=>OpBlk w' P (t,b,n,109,nd,o,s,v)/\RepCell w' br T' by_ kv bt bx bc)) (z:=7) zk ⟨H2.o.2.1,H2.o.1.cell⟩ (fun hHeld=> ?_)
   refine wpAnyZ_free (i:=0) (v:= ?val0) zt rfl zk zk zk (fun _ _ _ h=>h) (Or.inl ⟨zu,?hyl0⟩) hHeld ?restl0
   case hyl0=>(intro w' _;go_simp;try with_reducible rfl)
   refine qn ?_
   refine wpAnyZ_free (i:=1) (v:= ?val1) zt rfl zk zk zk (fun _ _ _ h=>h) (Or.inl ⟨zu,?hyl1⟩) hHeld ?restl1
   case hyl1=>(intro w' _;go_simp;try with_reducible rfl)
   refine qn ?_
   refine wpAnyZ_free (i:=2) (v:= ?val2) zt rfl zk zk zk (fun _ _ _ h=>h) (Or.inl ⟨zu,?hyl2⟩) hHeld ?restl2
   case hyl2=>(intro w' _;go_simp;try with_reducible rfl)
   refine qn ?_
   refine wpAnyZ_take (i:=3) (v:= ?val3) zt zk rfl zk zk zk zk (fun _ _ _ h=>h) (Or.inl ⟨zu,?hyl3⟩) hHeld ?restl3
   case hyl3=>(intro w' hSw;have r7:=hSw.2.c7;clear hSw;go_simp;try with_reducible rfl)
   refine qn ?_
   refine wpAnyZ_free (i:=4) (v:= ?val4) zt rfl zk zk zk (fun _ _ _ h=>h) (Or.inl ⟨zu,?hyl4⟩) hHeld ?restl4
   case hyl4=>(intro w' _;go_simp;try with_reducible rfl)
   refine qn ?_
   refine wpAnyZ_take (i:=5) (v:= ?val5) zt zk rfl zk zk zk zk (fun _ _ _ h=>h) (Or.inl ⟨zu,?hyl5⟩) hHeld ?restl5
   case hyl5=>(intro w' hSw;have j4:=(OpBlk.cells hSw.1).2.2.2.2.1;dsimp only at j4;clear hSw;go_simp;try with_reducible rfl)
   refine qn ?_
   refine wpAnyZ_one (i:=6) zk rfl (fun K hK=> ?_)
   go_simp
   refine (lineNew _).mono ?_
   rintro e w' ⟨rfl,rfl⟩
   refine hK _ _ (.inl hSA) ?_
   clear hK K
   refine qn ?_
   refine wpAnyZ_one (i:=7) zk rfl (fun K hK=> ?_)
   go_simp
   refine hK _ _ (.inr ⟨rfl,zt⟩) ?_
   clear hK K hrun
   refine wpAnyZ_done zk ?_ _
   have hcall:=apply_core undo_ok w3.drew 0 bt bm vt ms t b n nd o s v (EX.o.later (vu _ w3).drew).op4 (tr1.later (vu _ w3).drew) (vD _) qk HX.o.1 HX.o.2.1 hstep.ok (movs_new hstep tr2)
   go_wp2_with fail
   refine wp_region_H (S:=(fun w'=>OpBlk w' P (t,b,n,109,nd,o,s,v)/\RepCell w' br T' by_ kv bt bx bc)) zk ⟨GX.o.2.1,GX.o.1⟩ (fun hHeld=> ?_)
   refine tk 0 hHeld ?_
   refine tk 1 hHeld ?_
   refine tk 2 hHeld ?_
   refine tk 3 hHeld ?_ (hy:=Or.inl ⟨zu,qL⟩)
   refine tk 4 hHeld ?_ (hy:=Or.inl ⟨zu,zD⟩)
   refine wpAnyH_one (i:=5) zk rfl (fun K hK=> ?_)
   go_simp
   refine hcall.mono ?_
   clear hcall
   rintro e w4 ⟨rfl,vt',ms',q1,q2,q3,q4⟩
   have HS:Aside (AppOk B w c br by_ kv bt bx bc R ((t,b,n,109,nd,o,s,v)::A) T' w4):=apply_move_go (c1:=c2) GX.o.1 GX.o.2.2.1 GX.o.2.2.2.1 GX.o.2.2.2.2.1 GX.o.2.2.2.2.2.1 rfl tr1 tr2 ⟨tr3,tr4,tr5⟩ q1 q2 (keeps_undrew q3) q4 GX.o.2.2.2.2.2.2.1 GX.o.2.2.2.2.2.2.2.1 H0.o.2.2.2.2.1.size
   have hne:∀k,c2 k=0\/c2 k=1->¬(k=bt\/k=bm\/some k=vt.ownBlock):=fun k e e'=>by
    have:c2 k=2:=by
     rcases e' with q | q | q
     ·rw [q];exact tr3
     ·rw [q];exact tr4
     exact tr5 k q.symm
    omega
   refine hK _ _ ⟨(q3.block P GX.o.2.1.lt (hne P (.inl GX.o.2.2.2.2.2.2.2.2))).trans GX.o.2.1,GX.o.1.same (q3.block br GX.o.1.lt (hne br (.inr GX.o.2.2.1)))⟩ ?_
   clear hK K
   refine qn ?_
   refine wpAnyH_done zk ?_ _
   go_wp2
   go_end0
   exact ⟨⟨_,rfl⟩,HS.o⟩
 ·obtain ⟨nx,tx,t1,t2,t3,t4,t5⟩:=H1.o.1.text
  have hA:∀x∈A,errO x=0:=fun x hx=>(H0.o.2.2.2.2.2.2.1.all x hx).1
  have hstep:=H0.o.2.2.2.2.2.2.1
  have hkn:KnownN A nd:=hstep.node (hstep.line (.inl rfl))
  obtain ⟨p,hp⟩:∃p,tx nd=some p:=Zf.1 ((t4 nd).2 hkn)
  obtain ⟨vl,L,l1,l2,l3,l4⟩:=t5 nd p hp
  have hwf:Wf nd:=wf_of HX.o.2.2.1.1 HX.o.2.2.1.2
  have hLl:L.length<=140:=vr l2.len hlen
  have hln:=(⟨EV.o.op4.c1,EV.o.op4.c2,EV.o.c5,EV.o.c6⟩:Ln4 ad w1)
  have HL:Aside ((∀nd,(tx nd).isSome=true↔KnownN A nd)/\(∀nd p,tx nd=some p->LineC w1 c p nd A)/\LineIs A nd L/\(c p=hueOf nd/\∀g,vl.ownBlock=some g->c g=hueOf nd)/\(∀x∈A,errO x=0)/\StepOk A (t,b,n,105,nd,o,s,v)/\nx<=A.length/\c bx=3/\LineAt (p+1) w1 p vl L/\0<=nd):=⟨t4,t5,l2,⟨l3,l4⟩,hA,hstep,t1,t3,l1,by have:=known_pos hA hkn;omega⟩
  have hpl:=l1.lt
  have hbl:=t2.lt
  clear t1 t3 t4 t5 l2 l3 l4 hkn hA hstep
  obtain ⟨ch,hch⟩:=ins_value HL.o.2.2.2.2.2.1.ok rfl
  have hch:v=⟨#[ch]⟩:=hch
  subst hch
  have hidx:∀w,(Instr.index 9 (.string ⟨#[ch]⟩) (.int .i64 0)).run prog w= .ok (.int .u8 (ch.toNat:Int)) w:=fun _=>zk
  go_wp2_with fail
  refine wp_region_H (S:=(fun w'=>OpBlk w' P (t,b,n,105,nd,o,s,⟨#[ch]⟩)/\RepCell w' br T' by_ kv bt bx bc/\w'.heap[bx]? =w1.heap[bx]?)) zk ⟨H1.o.2.1,H1.o.1.cell,rfl⟩ (fun hHeld=> ?_)
  refine tk 0 hHeld ?_
  refine tk 1 hHeld ?_
  refine tk 2 hHeld ?_
  refine tk 3 hHeld ?_ (hy:=Or.inl ⟨zu,qz⟩)
  refine tk 4 hHeld ?_
  refine tk 5 hHeld ?_ (hy:=Or.inl ⟨zu,zX⟩)
  refine tk 6 hHeld ?_ (hy:=Or.inl ⟨zu,yy⟩)
  refine tk 7 hHeld ?_ (hy:=Or.inl ⟨zu,zD⟩)
  refine tk 9 hHeld ?_
  refine tk 10 hHeld ?_ (hy:=Or.inl ⟨zu,yN⟩)
  refine tk 11 hHeld ?_
  refine tk 12 hHeld ?_ (hy:=Or.inl ⟨zu,by intro w' hSw;have j7:=(OpBlk.cells hSw.1).2.2.2.2.2.2.2.1;dsimp only at j7;clear hSw;go_simp;try with_reducible rfl⟩)
  refine tk 13 hHeld ?_
  refine wpAnyH_one (i:=8) zk rfl (fun K hK=> ?_)
  go_simp
  have hcall:=opid_is (t,b,n,105,nd,o,s,⟨#[ch]⟩) w1.drew HL.o.2.2.2.2.2.1.ok
  unfold encO at hcall
  dsimp only at hcall
  refine hcall.mono ?_
  clear hcall
  rintro e w2 ⟨rfl,hb2⟩
  have hbX:Below w1.heap.size w1 w2:=below_undrew hb2
  refine hK _ _ ⟨H1.o.2.1.later hbX,H1.o.1.cell.same (hbX.block _ H1.o.1.cell.lt),hbX.block _ hbl⟩ ?_
  clear hK K
  refine qn ?_
  refine wpAnyH_one (i:=14) zk rfl (fun K hK=> ?_)
  go_simp
  have hst:=HL.o.2.2.2.2.2.1
  have hidr:=id_range hst.ok
  have hrf:=err_refs hst.ok
  have hnew:idO (t,b,n,105,nd,o,s,⟨#[ch]⟩)∉L.map (·.1):=fun q=>by
   obtain ⟨x,hx,_,_,q⟩:=HL.o.2.2.1.mem.1 q
   exact hst.idnew x hx q
  have ho0:0<=o:=hrf.2.2.2.1
  have hol:o<idO (t,b,n,105,nd,o,s,⟨#[ch]⟩):=hrf.2.1
  have hoth:o=0\/o∈L.map (·.1):=by
   by_cases e:o=0
   ·exact .inl e
   exact .inr (HL.o.2.2.1.mem.2 (hst.letter (.inl ⟨rfl,by show 0<o;omega⟩)))
  have hcall:=insert_all w2 (p+1) p vl L (idO (t,b,n,105,nd,o,s,⟨#[ch]⟩)) o ch.toNat (hln.later hbX) (l1.later hbX) (by have:=hbX.size;omega) zj zj (UInt8.toNat_lt ch)
  have hz0:lnInsE (idO (t,b,n,105,nd,o,s,⟨#[ch]⟩)) o L=0:=by
   unfold lnInsE
   rw [if_pos ⟨hidr.1,hidr.2,ho0,hol⟩,if_neg hnew,if_pos hoth]
  have hz1:insL (idO (t,b,n,105,nd,o,s,⟨#[ch]⟩)) o ch.toNat L=put o (idO (t,b,n,105,nd,o,s,⟨#[ch]⟩),ch.toNat,false) L:=if_pos hz0
  rw [hz1] at hcall
  refine hcall.mono ?_
  clear hcall
  rintro e w3 ⟨rfl,hact⟩
  have hM:LineIs ((t,b,n,105,nd,o,s,⟨#[ch]⟩)::A) nd (put o (idO (t,b,n,105,nd,o,s,⟨#[ch]⟩),ch.toNat,false) L):=by
   have:=HL.o.2.2.1.ins (x:=(t,b,n,105,nd,o,s,⟨#[ch]⟩)) rfl rfl hnew (by have:=hidr.1;omega) hoth (hst.ungone nd)
   exact this
  have HS:Aside (AppOk B w c br by_ kv bt bx bc R ((t,b,n,105,nd,o,s,⟨#[ch]⟩)::A) T' w3):=apply_line_go H1.o.1 HL.o.2.2.2.2.1 (.inl rfl) HL.o.2.2.2.2.2.2.1 t2 HL.o.2.2.2.2.2.2.2.1 HL.o.1 HL.o.2.1 hp HL.o.2.2.2.2.2.2.2.2.1 HL.o.2.2.2.1 (actOk_undrew hbX hact) hM H1.o.2.2.1 H0.o.2.2.2.2.2.1 H0.o.2.2.2.2.1.size
  have hne:∀k,c k=0\/c k=1\/c k=3->¬(k=p\/some k=vl.ownBlock):=fun k e e'=>by
   have:c k=hueOf nd:=e'.elim (fun q=>by rw [q];exact HL.o.2.2.2.1.1) (fun q=>HL.o.2.2.2.1.2 k q.symm)
   unfold hueOf at this
   omega
  obtain ⟨v3,q1,q2,q3⟩:=actOk_undrew hbX hact
  refine hK _ _ ⟨(q2.block P hP1 (hne P (.inl H0.o.2.2.2.2.2.2.2.2))).trans H1.o.2.1,H1.o.1.cell.same (q2.block br H1.o.1.cell.lt (hne br (.inr (.inl H1.o.1.hue)))),q2.block bx hbl (hne bx (.inr (.inr HL.o.2.2.2.2.2.2.2.1)))⟩ ?_
  clear hK K
  refine qn ?_
  refine wpAnyH_done zk ?_ _
  go_wp2
  go_end0
  exact ⟨⟨_,rfl⟩,HS.o⟩
 ·obtain ⟨nx,tx,t1,t2,t3,t4,t5⟩:=H1.o.1.text
  have hA:∀x∈A,errO x=0:=fun x hx=>(H0.o.2.2.2.2.2.2.1.all x hx).1
  have hstep:=H0.o.2.2.2.2.2.2.1
  have hkn:KnownN A nd:=hstep.node (hstep.line (.inr (.inl rfl)))
  obtain ⟨p,hp⟩:∃p,tx nd=some p:=Zf.1 ((t4 nd).2 hkn)
  obtain ⟨vl,L,l1,l2,l3,l4⟩:=t5 nd p hp
  have hwf:Wf nd:=wf_of HX.o.2.2.1.1 HX.o.2.2.1.2
  have hLl:L.length<=140:=vr l2.len hlen
  have hln:=(⟨EV.o.op4.c1,EV.o.op4.c2,EV.o.c5,EV.o.c6⟩:Ln4 ad w1)
  have HL:Aside ((∀nd,(tx nd).isSome=true↔KnownN A nd)/\(∀nd p,tx nd=some p->LineC w1 c p nd A)/\LineIs A nd L/\(c p=hueOf nd/\∀g,vl.ownBlock=some g->c g=hueOf nd)/\(∀x∈A,errO x=0)/\StepOk A (t,b,n,100,nd,o,s,v)/\nx<=A.length/\c bx=3/\LineAt (p+1) w1 p vl L/\0<=nd):=⟨t4,t5,l2,⟨l3,l4⟩,hA,hstep,t1,t3,l1,by have:=known_pos hA hkn;omega⟩
  have hpl:=l1.lt
  have hbl:=t2.lt
  clear t1 t3 t4 t5 l2 l3 l4 hkn hA hstep
  have hlnd:Ln4 ad w1.drew:=⟨hln.1,hln.2,hln.3,hln.4⟩
  go_wp2_with fail
  refine wp_region_H (S:=(fun w'=>OpBlk w' P (t,b,n,100,nd,o,s,v)/\RepCell w' br T' by_ kv bt bx bc/\w'.heap[bx]? =w1.heap[bx]?)) zk ⟨H1.o.2.1,H1.o.1.cell,rfl⟩ (fun hHeld=> ?_)
  refine tk 0 hHeld ?_
  refine tk 1 hHeld ?_
  refine tk 2 hHeld ?_
  refine tk 3 hHeld ?_ (hy:=Or.inl ⟨zu,qz⟩)
  refine tk 4 hHeld ?_
  refine tk 5 hHeld ?_ (hy:=Or.inl ⟨zu,zX⟩)
  refine tk 6 hHeld ?_ (hy:=Or.inl ⟨zu,yy⟩)
  refine tk 7 hHeld ?_
  refine tk 8 hHeld ?_ (hy:=Or.inl ⟨zu,yN⟩)
  refine wpAnyH_one (i:=9) zk rfl (fun K hK=> ?_)
  go_simp
  have hcall:=delete_all w1.drew (p+1) p vl L o hlnd (l1.later (vu _ w1).drew) zj
  refine hcall.mono ?_
  clear hcall
  rintro e w3 ⟨rfl,hact⟩
  have hbX:Below w1.heap.size w1 w1.drew:=(vu _ w1).drew
  have hM:LineIs ((t,b,n,100,nd,o,s,v)::A) nd (delL o L):=by
   have hlet:o∈L.map (·.1):=HL.o.2.2.1.mem.2 (HL.o.2.2.2.2.2.1.letter (.inr rfl))
   obtain ⟨i,hi⟩:=findL_isSome hlet
   unfold delL
   rw [hi]
   exact HL.o.2.2.1.del (x:=(t,b,n,100,nd,o,s,v)) rfl rfl hi
  have HS:Aside (AppOk B w c br by_ kv bt bx bc R ((t,b,n,100,nd,o,s,v)::A) T' w3):=apply_line_go H1.o.1 HL.o.2.2.2.2.1 (.inr rfl) HL.o.2.2.2.2.2.2.1 t2 HL.o.2.2.2.2.2.2.2.1 HL.o.1 HL.o.2.1 hp HL.o.2.2.2.2.2.2.2.2.1 HL.o.2.2.2.1 (actOk_undrew hbX hact) hM H1.o.2.2.1 H0.o.2.2.2.2.2.1 H0.o.2.2.2.2.1.size
  have hne:∀k,c k=0\/c k=1\/c k=3->¬(k=p\/some k=vl.ownBlock):=fun k e e'=>by
   have:c k=hueOf nd:=e'.elim (fun q=>by rw [q];exact HL.o.2.2.2.1.1) (fun q=>HL.o.2.2.2.1.2 k q.symm)
   unfold hueOf at this
   omega
  obtain ⟨v3,q1,q2,q3⟩:=actOk_undrew hbX hact
  refine hK _ _ ⟨(q2.block P hP1 (hne P (.inl H0.o.2.2.2.2.2.2.2.2))).trans H1.o.2.1,H1.o.1.cell.same (q2.block br H1.o.1.cell.lt (hne br (.inr (.inl H1.o.1.hue)))),q2.block bx hbl (hne bx (.inr (.inr HL.o.2.2.2.2.2.2.2.1)))⟩ ?_
  clear hK K
  refine qn ?_
  refine wpAnyH_done zk ?_ _
  go_wp2
  go_end0
  exact ⟨⟨_,rfl⟩,HS.o⟩
 go_wp2_with fail
 refine wp_region_H (S:=(fun w'=>OpBlk w' P (t,b,n,115,nd,o,s,v)/\RepCell w' br T' by_ kv bt bx bc/\w'.heap[bx]? =w1.heap[bx]?)) zk ⟨H1.o.2.1,H1.o.1.cell,rfl⟩ (fun hHeld=> ?_)
 refine tk 0 hHeld ?_
 refine tk 1 hHeld ?_
 refine tk 2 hHeld ?_
 refine tk 3 hHeld ?_ (hy:=Or.inl ⟨zu,by intro w' hSw;have r8:=hSw.2.1.c8;clear hSw;go_simp;try with_reducible rfl⟩)
 refine tk 4 hHeld ?_ (hy:=Or.inl ⟨zu,zD⟩)
 refine wpAnyH_one (i:=5) zk rfl (fun K hK=> ?_)
 go_simp
 obtain ⟨cm,A',m1,m2,m3,m4⟩:=H1.o.1.marks
 have hcall:=cset_all w1.drew bc cm A.length (madeO A') t b n 115 nd o s v (EV.o.later (vu _ w1).drew).op4 (m1.later (vu _ w1).drew) zj HX.o.1 HX.o.2.1
 refine hcall.mono ?_
 clear hcall
 rintro e w2 ⟨rfl,hset⟩
 have HS:Aside (AppOk B w c br by_ kv bt bx bc R ((t,b,n,115,nd,o,s,v)::A) T' w2):=apply_set_go H1.o.1 rfl m2 ⟨m3,m4⟩ ⟨hset.1,keeps_undrew hset.2⟩ H1.o.2.2.1 H0.o.2.2.2.2.2.1 H0.o.2.2.2.2.1.size
 have hcm:∀k,c k=0\/c k=1\/c k=3->k≠cm:=fun k e e'=>by rw [e',m4] at e;omega
 have hbx3:c bx=3/\bx<w1.heap.size:=by
  obtain ⟨nx,tx,_,q2,q3,_⟩:=H1.o.1.text
  exact ⟨q3,q2.lt⟩
 refine hK _ _ ⟨?_,?_,?_⟩ ?_
 ·exact (hset.2.block P hP1 (hcm P (.inl H0.o.2.2.2.2.2.2.2.2))).trans H1.o.2.1
 ·exact H1.o.1.cell.same (hset.2.block br H1.o.1.cell.lt (hcm br (.inr (.inl H1.o.1.hue))))
 ·exact hset.2.block bx hbx3.2 (hcm bx (.inr (.inr hbx3.1)))
 clear hK K
 refine qn ?_
 refine wpAnyH_done zk ?_ _
 go_wp2
 go_end0
 exact ⟨⟨_,rfl⟩,HS.o⟩
