import Derived.Test.YtpdbnnimdkfajaaGreatDoorVS17
import Derived.Test.YtpdbnnimdkfajaaGreatDoorVS18
set_option linter.unusedSimpArgs false
set_option linter.unusedVariables false
set_option maxHeartbeats 64000000
namespace Go.Proofs.YtpdbnnimdkfajaaGreatDoor
open Go.Proofs.Tryz
variable {T T' by_:Int} {ls:List (List UInt8)} {A:List OpX} {B bc br bt bx i k m nx p:Nat} {c c':Nat→Nat} {kv:Nat→Value} {o:OpX} {R:Rws} {tx:TSta} {v:Value} {w w' w1:World}
section
open Go.RowKit Go.Shelf Go.Maps
theorem append_in {P:Program} (w:World) (base:Nat) (t ty e:TypeId) (i:TypeInfo) (z:Value) (size bytes:Nat) (ht:P.underlying t=some (.slice e)) (hi:P.info? e=some i) (hz:i.zero=some z)
  (hsize:i.size=size) (hby:i.bytes=bytes) (hzs:z.cells.size=size) (hsz:0<size)
  (v:Value) (n:Nat) (xs:List Value) (hown:w.ownsRow base e size v n xs)
  (a:Addr) (m c:Nat) (hm0:0<m) (news:List Value) (hl:news.length=m*size) (hnews:∀j u,news[j]? =some u->w.cell? (a.add j)=some u) (h1:∀u∈news,u.oneCell'=true)
  (h63:n+m<=maxLen) (hbytes:(n+m)*bytes<=140737488355328) (hbase:base<=w.heap.size):
  ∃v' w',(Builtin.append_ #[t,t] ty #[v,.slice (some a) m c]).run P w= .ok v' w'/\w'.ownsRow base e size v' (n+m) (xs++news)/\w.grownBy w' v.ownBlock/\
   ((∃g cap,v= .slice (some ⟨g,0,none⟩) n cap/\v'= .slice (some ⟨g,0,none⟩) (n+m) cap)\/(v'.ownBlock=some w.heap.size/\w.grownBy w' none)):=by
 obtain ⟨v',w',hrun,h',hg',-⟩:=run_append_own (P:=P) w base t ty e i z size bytes ht hi hz hsize hby hzs hsz v n xs hown a m c news hl hnews h1 h63 hbytes hbase
 refine ⟨v',w',hrun,h',hg',?_⟩
 subst hsize
 subst hby
 have hsmall:n+m<=9223372036854775807:=by simp only [maxLen] at h63;omega
 rcases hown.2 with ⟨rfl,rfl⟩ | ⟨g,cap,cur,rfl,hbg,hg,hnc,hcm,hcs,htake⟩
 ·have hr:=run_append_nil (P:=P) w t ty e i z ht hi hz a m c news hl hnews zi zi qW
  rw [hr] at hrun
  simp only [Result.ok.injEq] at hrun
  right
  rw [<-hrun.1,<-hrun.2]
  exact ⟨rfl,rfl,rfl,rfl,zm,fun k hk _=>jp w.drew _ k hk⟩
 by_cases hroom:n+m<=cap
 ·have hfit:n*i.size+news.length<=cur.size:=by rw [hl,hcs,<-ur];exact vm _ hroom
  have hr:=run_append_room (P:=P) w t ty e i ht hi g n cap cur hg a m c news hl hnews h1 hroom hfit
  rw [hr] at hrun
  simp only [Result.ok.injEq] at hrun
  exact .inl ⟨g,cap,rfl,hrun.1.symm⟩
 have holds:∀j u,xs[j]? =some u->w.cell? ((⟨g,0,none⟩:Addr).add j)=some u:=hown.cells (g:=g) rfl
 have hr:=run_append_grow (P:=P) w t ty e i z ht hi hz ⟨g,0,none⟩ n cap xs hown.1 holds a m c news hl hnews zi zi (growslice_fits zi hbytes)
 rw [hr] at hrun
 simp only [Result.ok.injEq] at hrun
 right
 rw [<-hrun.1,<-hrun.2]
 exact ⟨rfl,rfl,rfl,rfl,zm,fun k hk _=>jp w.drew _ k hk⟩
theorem owns_prefix {base g cap n:Nat} {xs ys:List OpX} (h:w.ownsRow base 38 8 (.slice (some ⟨g,0,none⟩) m cap) m (cellsOf (xs++ys))) (hn:n=xs.length) (hm:m=n+ys.length):w.ownsRow base 38 8 (.slice (some ⟨g,0,none⟩) n cap) n (cellsOf xs):=by
 refine ⟨by rw [cellsOf_len,hn],.inr ?_⟩
 rcases h.2 with ⟨h1,_⟩ | ⟨g',cap',cur,e,h1,h2,h3,h4,h5,h6⟩
 ·cases h1
 cases e
 refine ⟨g,cap,cur,rfl,h1,h2,zi,h4,h5,?_⟩
 have:=congrArg (List.take (n*8)) h6
 rw [List.take_take,Nat.min_eq_left zi,cellsOf_app,vu xp] at this
 rw [this,jJ xp]
theorem sortedNum_any (w:World) (Bs g off cap:Nat) (ao:Option Addr) (L:List OpX) (hlen:L.length<=1000) (hao:L= []\/ao=some ⟨g,off,none⟩) (hBs:Bs<w.heap.size) (hg:g<w.heap.size) (hc:w.cell? ⟨Bs,0,none⟩=some (.slice ao L.length cap)) (hI:OpsRow w g off L):
  Calls prog 112 #[.func (.func 183) #[] #[.pointer (some ⟨Bs,0,none⟩)],.func (.func 114) #[] #[]] w fun e w'=>∃fa fc qs,e= .returned (.slice fa L.length fc)/\qs.Perm L/\qs.Pairwise (fun a b=>numO a<=numO b)/\OpsIn w' fa qs/\(∀a,fa=some a->w.heap.size<=a.block)/\Below w.heap.size w w':=by
 have hcl:=collectOps_any w Bs g off cap ao L hlen hao hBs hg hc hI
 go_enter func112,ntmps112
 go_wp2_with fail
 refine hcl.mono ?_
 clear hcl
 rintro e w1 ⟨v,rfl,hown,hb⟩
 rcases hown.2 with ⟨rfl,h0⟩ | ⟨g',cap',cur,rfl,hbg,-⟩
 ·have hps:L= []:=jC.1 h0
  have HB:Aside (Below w.heap.size w w1/\L= []):=⟨hb,hps⟩
  clear hown hb hps h0
  go_wp2_with (go_at_call 182;refine (sortNm_none none 0 _ _).mono ?_;rintro e w' ⟨rfl,rfl⟩)
  go_ret
  exact ⟨none,0,[],by rw [HB.o.2];rfl,by rw [HB.o.2],List.Pairwise.nil,.inl rfl,fun a e=>absurd e zm,HB.o.1⟩
 have hs:=sortNm w1 w.heap.size g' cap' L hown zi
 have hgl:=(hown.lt g' rfl).2
 have HH:Aside (Below w.heap.size w w1/\w.heap.size<=g'/\g'<w1.heap.size):=⟨hb,hbg,hgl⟩
 clear hown hb hbg hgl
 go_wp2_with fail
 refine hs.mono ?_
 clear hs
 rintro e w2 ⟨rfl,qs,hp,hpw,hcells,hk⟩
 have H2:Aside (qs.Perm L/\qs.Pairwise (fun a b=>numO a<=numO b)/\OpsIn w2 (some ⟨g',0,none⟩) qs/\Below w.heap.size w w2):=⟨hp,hpw,.inr ⟨g',0,rfl,fun j u hj=>by rw [jt];exact hcells j u hj⟩,HH.o.1.trans (hk.below HH.o.1.size (fun k e=>by have:=HH.o.2.1;omega))⟩
 clear hp hpw hcells hk
 go_wp2
 go_ret
 exact ⟨_,_,qs,rfl,H2.o.1,H2.o.2.1,H2.o.2.2.1,fun a e=>by cases e;exact HH.o.2.1,H2.o.2.2.2⟩
theorem FreshK.perm {S F G:List OpX} (h:FreshK S F) (e:G.Perm F):FreshK S G:=
 ⟨fun x hx=>h.ok x (e.mem_iff.1 hx),fun x hx=>h.off x (e.mem_iff.1 hx),(e.pairwise_iff (fun {a b} h q=>h ⟨q.1.symm,q.2.symm⟩)).2 h.one⟩
end
section
open Go.RowKit Go.Shelf Go.Maps
section
variable {P:Program} {ops:Array Oper} {Q:Exit→Act→World→Prop} {md:Region.Mode} {S:World→Prop} {z:Nat}
end
theorem infoStr:(prog.info? 9).map (fun i=>(i.zero,i.size,i.bytes))=some (some (.string ⟨#[]⟩),1,16):=zj
def strsV (ls:List (List UInt8)):List Value:=ls.map fun l=>.string ⟨l.toArray⟩
structure TellSt (b:Nat) (ls:List (List UInt8)) (v:Value) (w:World):Prop where
 box:Boxed w b 141 v
 row:w.ownsRow (b+1) 9 1 v ls.length (strsV ls)
theorem TellSt.lt {b:Nat} (h:TellSt b ls v w):b<w.heap.size:=(jk.1 h.box).1
theorem TellSt.later {b:Nat} (h:TellSt b ls v w) (hb:Below w.heap.size w w'):TellSt b ls v w':=
 ⟨(hb.block b h.lt).trans h.box,ownsHeld h.row (fun g hg=>hb.block g (h.row.lt g hg).2)⟩
end
section
open Go.RowKit Go.Maps
open scoped Classical
theorem opid_is (x:OpX) (w:World) (h:errO x=0):Calls prog 123 #[encO x] w fun e w'=>e= .returned (.int .i64 (idO x))/\Below w.heap.size w w':=by
 have h0:=err_by h
 obtain ⟨t,b,n,k,nd,o,s,v⟩:=x
 unfold encO idO
 dsimp only
 have h1:1<=t:=h0.1
 have h2:t<=1073741824:=h0.2.1
 have h3:0<=b:=h0.2.2.1
 have h4:b<4:=h0.2.2.2
 go_enter func123,ntmps123
 go_wp2_with (go_at_call 176;refine (id_ok t b _ h1 h2 h3 h4).mono ?_;rintro e w1 ⟨rfl,hb⟩;have B1:Aside (Below w.heap.size w w1):=(zg w _).trans (hb.mono zm);clear hb)
 go_ret
 exact ⟨rfl,B1.o⟩
end
section
open Go.RowKit Go.Maps
open scoped Classical
structure RepPart (w:World) (c:Nat->Nat) (br:Nat) (T by_:Int) (kv:Nat->Value) (bt bx bc:Nat) (R:Rws) (A:List OpX):Prop where
 cell:RepCell w br T by_ kv bt bx bc
 hue:c br=1
 rows:RowsAt w c kv R
 tree:TreeC w c bt A
 text:TextC w c bx A
 marks:CellC w c bc A
theorem RepPart.kept {w w':World} {c c':Nat->Nat} {br:Nat} {T by_:Int} {kv:Nat->Value} {bt bx bc:Nat} {R:Rws} {A:List OpX} (h:RepPart w c br T by_ kv bt bx bc R A) (hk:∀i,i≠0->Kept c i w c' w'):RepPart w' c' br T by_ kv bt bx bc R A:=by
 have k1:=hk 1 zi
 exact ⟨h.cell.same (k1.block _ h.cell.lt h.hue),(k1.hue _ h.cell.lt).trans h.hue,h.rows.kept (fun i _=>hk _ zi),h.tree.kept (hk 2 zi),h.text.kept (hk 3 zi) (fun nd _=>hk _ zX),h.marks.kept (hk 4 zi)⟩
theorem RepPart.later (h:RepPart w c br T by_ kv bt bx bc R A) (hb:Below w.heap.size w w'):RepPart w' c br T by_ kv bt bx bc R A:=
 h.kept (fun i _=>⟨fun k hk _=>hb.block k hk,fun k _=>rfl⟩)
theorem RepPart.heard {W:World} {t:Int} (h:RepPart w c br T by_ kv bt bx bc R A) (hb:Below w.heap.size w W) (hh:Heard br T t W w'):RepPart w' c br (if T<t then t else T) by_ kv bt bx bc R A/\Keeps (fun k=>k=br) w w':=by
 have hW:=h.later hb
 have hKW:Keeps (fun k=>k=br) w W:=(keeps_of_below hb).mono (fun k hk e=>zi)
 rcases hh with ⟨hlt,W',hb',hheap,hk⟩ | ⟨hlt,hb'⟩
 ·have hW':=hW.later hb'
  have hk3:Keeps (fun k=>k=br) w w':=(hKW.then (keeps_of_below hb') (fun k hk e=>by have:=hKW.size;omega)).then hk (fun _ _ e=>e)
  rw [if_pos hlt]
  have hkept:∀i,i≠1->Kept c i W' c w':=fun i hi=>⟨fun k hkl e=>hk.block k hkl (fun e'=>by rw [e',hW'.hue] at e;omega),fun _ _=>rfl⟩
  refine ⟨⟨?_,hW'.hue,hW'.rows.kept (fun i _=>hkept _ zi),hW'.tree.kept (hkept 2 zi),hW'.text.kept (hkept 3 zi) (fun nd _=>hkept _ zX),hW'.marks.kept (hkept 4 zi)⟩,hk3⟩
  have:=heap_setCell_same W' br 0 _ _ (.int .i64 t) hW'.cell
  unfold RepCell
  rw [hheap,this]
  simp
 rw [if_neg hlt]
 exact ⟨hW.later hb',hKW.then (keeps_of_below hb') (fun k hk e=>by have:=hKW.size;omega)⟩
def paint2 (c:Nat->Nat) (w w':World) (i:Nat):Nat->Nat:=fun k=>if k<w.heap.size then c k else if k<w'.heap.size then i else 0
theorem paint2_old (h:k<w.heap.size):paint2 c w w' i k=c k:=if_pos h
theorem paint2_new (h:w.heap.size<=k) (h':k<w'.heap.size):paint2 c w w' i k=i:=by unfold paint2;rw [if_neg zi,if_pos h']
theorem kept_paint {Sx:Nat->Prop} {j:Nat} (hk:Keeps Sx w w') (hS:∀k,k<w.heap.size->Sx k->c k=i) (hij:j≠i):Kept c j w (paint2 c w w' m) w':=
 ⟨fun k hkl e=>hk.block k hkl (fun s=>hij (by rw [<-hS k hkl s,e])),fun k hkl=>paint2_old hkl⟩
def AppOk (B:Nat) (w:World) (c:Nat->Nat) (br:Nat) (by_:Int) (kv:Nat->Value) (bt bx bc:Nat) (R:Rws) (A:List OpX) (T':Int) (w':World):Prop:=∃c',RepPart w' c' br T' by_ kv bt bx bc R A/\Acts w c w' c'/\(∀k,c' k≠0->B<=k)/\∀k,w'.heap.size<=k->c' k=0
theorem AppOk.of {c1:Nat->Nat} {Sx:Nat->Prop} (hc:c'=paint2 c1 w1 w' i) (hp:RepPart w' c' br T' by_ kv bt bx bc R A) (h1:Acts w c w1 c1) (hk:Keeps Sx w1 w') (hS:∀k,k<w1.heap.size->Sx k->c1 k≠0) (hB:∀k,c1 k≠0->B<=k) (hBw:B<=w.heap.size):AppOk B w c br by_ kv bt bx bc R A T' w':=by
 subst hc
 refine ⟨_,hp,h1.trans ⟨hk.mono hS,fun k hkl=>paint2_old hkl⟩,fun k e=> ?_,fun k hkl=> ?_⟩
 ·by_cases hkl:k<w1.heap.size
  ·rw [paint2_old hkl] at e;exact hB k e
  have:=h1.keeps.size;omega
 have:=hk.size
 unfold paint2
 rw [if_neg zi,if_neg zi]
theorem apply_set_go {A':List OpX} {cm:Nat} (h:RepPart w1 c br T' by_ kv bt bx bc R A) (hkd:kdO o=115) (hA':A'.Perm A) (hcm:c bc=4/\c cm=4) (hset:SetOk w1 bc cm A.length (madeO A') o w') (h1:Acts w c w1 c) (hB:∀k,c k≠0->B<=k) (hBw:B<=w.heap.size):AppOk B w c br by_ kv bt bx bc R (o::A) T' w':=by
 have hS4:∀k,k<w1.heap.size->(k=cm)->c k=4:=fun k _ e=>by rw [e];exact hcm.2
 have kp:∀j,j≠4->Kept c j w1 (paint2 c w1 w' 4) w':=fun j hj=>kept_paint hset.2 hS4 hj
 have hk115:kdO o≠109:=by rw [hkd];decide
 have hbcl:=hset.1.lt
 refine AppOk.of (i:=4) rfl ⟨?_,?_,?_,?_,?_,?_⟩ h1 hset.2 (fun k hk e=>by rw [hS4 k hk e];decide) hB hBw
 ·exact h.cell.same ((kp 1 zi).block _ h.cell.lt h.hue)
 ·rw [paint2_old h.cell.lt];exact h.hue
 ·exact h.rows.kept (fun i _=>kp _ zi)
 ·exact (h.tree.kept (kp 2 zi)).skip hk115
 ·exact (h.text.kept (kp 3 zi) (fun nd _=>kp _ zX)).skip ⟨by rw [hkd];decide,by rw [hkd];decide⟩ (fun q=>hk115 q.1)
 refine CellC.set (A':=A') (cm:=cm) hA' ?_ hset
 obtain ⟨cm0,A0,q1,_⟩:=h.marks
 have hbl:bc<w1.heap.size:=q1.lt.1
 have hcl:cm<w'.heap.size:=hbcl.2
 refine ⟨by rw [paint2_old hbl];exact hcm.1,?_⟩
 by_cases e:cm<w1.heap.size
 ·rw [paint2_old e];exact hcm.2
 rw [paint2_new zi hcl]
theorem apply_line_go {B:Nat} {w w1 w':World} {c:Nat->Nat} {br:Nat} {by_:Int} {kv:Nat->Value} {bt bx bc:Nat} {R:Rws} {A:List OpX} {T':Int} {o:OpX} {nx:Nat} {tx:TSta} {p:Nat} {v:Value} {L M:List Ltr} (h:RepPart w1 c br T' by_ kv bt bx bc R A) (hA:∀x∈A,errO x=0) (hkd:kdO o=105\/kdO o=100)
  (t1:nx<=A.length) (t2:TMapAt w1 bx nx tx) (t3:c bx=3) (t4:∀nd,(tx nd).isSome=true↔KnownN A nd) (t5:∀nd p,tx nd=some p->LineC w1 c p nd A) (hp:tx (nodeO o)=some p)
  (hL:LineAt (p+1) w1 p v L) (hue:c p=hueOf (nodeO o)/\∀g,v.ownBlock=some g->c g=hueOf (nodeO o)) (hact:ActOk (p+1) w1 p v M w') (hM:LineIs (o::A) (nodeO o) M) (h1:Acts w c w1 c) (hB:∀k,c k≠0->B<=k) (hBw:B<=w.heap.size):AppOk B w c br by_ kv bt bx bc R (o::A) T' w':=by
 obtain ⟨v',q1,q2,q3⟩:=hact
 have hS:∀k,k<w1.heap.size->(k=p\/some k=v.ownBlock)->c k=hueOf (nodeO o):=fun k _ e=>e.elim (fun e=>by rw [e];exact hue.1) (fun e=>hue.2 k e.symm)
 have kp:∀j,j≠hueOf (nodeO o)->Kept c j w1 (paint2 c w1 w' (hueOf (nodeO o))) w':=fun j hj=>kept_paint q2 hS hj
 have n20:∀i,i<20->i≠hueOf (nodeO o):=fun i hi=>zX
 have hk109:kdO o≠109:=fun e=>qG
 have hk115:kdO o≠115:=fun e=>qG
 have hnd:KnownN A (nodeO o):=(t4 _).1 xJ
 have hnd4:=known_pos hA hnd
 refine AppOk.of (i:=hueOf (nodeO o)) rfl ⟨?_,?_,?_,?_,?_,?_⟩ h1 q2 (fun k hk e=>by rw [hS k hk e];unfold hueOf;omega) hB hBw
 ·exact h.cell.same ((kp 1 (n20 1 zi)).block _ h.cell.lt h.hue)
 ·rw [paint2_old h.cell.lt];exact h.hue
 ·exact h.rows.kept (fun i hi=>kp _ (n20 _ zi))
 ·exact (h.tree.kept (kp 2 (n20 2 zi))).skip hk109
 ·have k3:=kp 3 (n20 3 zi)
  refine ⟨nx,tx,zk,t2.same (k3.block _ t2.lt t3),(k3.hue _ t2.lt).trans t3,fun nd=>(t4 nd).trans ?_,fun nd p' hp'=> ?_⟩
  ·rw [known_cons]
   exact ⟨.inl,fun q=>q.elim id (fun q=>absurd q.1 hk109)⟩
  by_cases e:nd=nodeO o
  ·subst e
   rw [hp] at hp'
   cases hp'
   refine ⟨v',M,q1,hM,by rw [paint2_old hL.lt];exact hue.1,fun g hg=> ?_⟩
   have hgl:=q1.kin hg
   by_cases e:g<w1.heap.size
   ·rw [paint2_old e]
    rcases q3 with e3 | e3
    ·rw [e3] at hg;exact hue.2 g hg
    have:=e3 g hg;omega
   rw [paint2_new zi hgl]
  have hnk:=(t4 nd).1 (by rw [hp'];rfl)
  have hn4:=known_pos hA hnk
  obtain ⟨v2,L2,k1,k2,k4⟩:=(t5 nd p' hp').kept (kp (hueOf nd) (fun q=>e (hue_inj zi zi q)))
  exact ⟨v2,L2,k1,k2.skip (fun q=>e q.1.symm),k4⟩
 exact (h.marks.kept (kp 4 (n20 4 zi))).skip hk115
theorem apply_move_go {B:Nat} {w w1 w':World} {c c1:Nat->Nat} {br:Nat} {by_:Int} {kv:Nat->Value} {bt bx bc:Nat} {R:Rws} {A:List OpX} {T':Int} {o:OpX} {bm:Nat} {v v':Value} {ms ms':List Mov} (hcell:RepCell w1 br T' by_ kv bt bx bc) (hhue:c1 br=1) (hrows:RowsAt w1 c1 kv R) (htext:TextC w1 c1 bx (o::A)) (hmarks:CellC w1 c1 bc A) (hkd:kdO o=109)
  (hT:TreeAt 0 w1 bt bm v ms) (hms:ms.Perm (movsO A)) (hue:c1 bt=2/\c1 bm=2/\∀g,v.ownBlock=some g->c1 g=2) (q1:TreeAt 0 w' bt bm v' ms') (q2:ms'.Perm (((o.1,o.2.1),(nodeO o,otherO o,o.2.2.2.2.2.2.1))::ms)) (q3:Keeps (fun k=>k=bt\/k=bm\/some k=v.ownBlock) w1 w') (q4:v'.ownBlock=v.ownBlock\/∀g,v'.ownBlock=some g->w1.heap.size<=g) (h1:Acts w c w1 c1) (hB:∀k,c1 k≠0->B<=k) (hBw:B<=w.heap.size):AppOk B w c br by_ kv bt bx bc R (o::A) T' w':=by
 have hS:∀k,k<w1.heap.size->(k=bt\/k=bm\/some k=v.ownBlock)->c1 k=2:=fun k _ e=>by
  rcases e with e | e | e
  ·rw [e];exact hue.1
  ·rw [e];exact hue.2.1
  exact hue.2.2 k e.symm
 have kp:∀j,j≠2->Kept c1 j w1 (paint2 c1 w1 w' 2) w':=fun j hj=>kept_paint q3 hS hj
 obtain ⟨l1,l2,l3⟩:=hT.lt
 refine AppOk.of (i:=2) rfl ⟨?_,?_,?_,?_,?_,?_⟩ h1 q3 (fun k hk e=>by rw [hS k hk e];decide) hB hBw
 ·exact hcell.same ((kp 1 zi).block _ hcell.lt hhue)
 ·rw [paint2_old hcell.lt];exact hhue
 ·exact hrows.kept (fun i _=>kp _ zi)
 ·refine ⟨bm,v',ms',q1,by rw [movs_cons hkd];exact q2.trans (hms.cons _),by rw [paint2_old l1];exact hue.1,by rw [paint2_old l2];exact hue.2.1,fun g hg=> ?_⟩
  have hgl:=q1.lt.2.2 g hg
  by_cases e:g<w1.heap.size
  ·rw [paint2_old e]
   rcases q4 with e4 | e4
   ·rw [e4] at hg;exact hue.2.2 g hg
   have:=e4 g hg;omega
  rw [paint2_new zi hgl]
 ·exact htext.kept (kp 3 zi) (fun nd _=>kp _ zX)
 exact (hmarks.kept (kp 4 zi)).skip (by rw [hkd];decide)
theorem apply_new_go {w2:World} (h:RepPart w1 c br T' by_ kv bt bx bc R A) (hs:StepOk A o) (hkd:kdO o=109) (hid:nodeO o=idO o)
  (t1:nx<=A.length) (t2:TMapAt w2 bx (nx+1) (fun x=>if x=nodeO o then some p else tx x)) (t3:c bx=3) (t4:∀nd,(tx nd).isSome=true↔KnownN A nd) (t5:∀nd p,tx nd=some p->LineC w1 c p nd A) (hbx:bx<w1.heap.size)
  (hline:w2.heap[p]? =some (.cells #[.slice none 0 0] 248 (0,0))) (hpn:w1.heap.size<=p) (hk:Keeps (fun k=>k=bx) w1 w2):
  RepCell w2 br T' by_ kv bt bx bc/\paint2 c w1 w2 (hueOf (nodeO o)) br=1/\RowsAt w2 (paint2 c w1 w2 (hueOf (nodeO o))) kv R/\TreeC w2 (paint2 c w1 w2 (hueOf (nodeO o))) bt A/\TextC w2 (paint2 c w1 w2 (hueOf (nodeO o))) bx (o::A)/\CellC w2 (paint2 c w1 w2 (hueOf (nodeO o))) bc A:=by
 have hS:∀k,k<w1.heap.size->k=bx->c k=3:=fun k _ e=>by rw [e];exact t3
 have kp:∀j,j≠3->Kept c j w1 (paint2 c w1 w2 (hueOf (nodeO o))) w2:=fun j hj=>kept_paint hk hS hj
 have hA:∀x∈A,errO x=0:=fun x hx=>(hs.all x hx).1
 obtain ⟨hnk,hno⟩:=hs.fresh hid
 have hpl:p<w2.heap.size:=(jk.1 hline).1
 refine ⟨h.cell.same ((kp 1 zi).block _ h.cell.lt h.hue),by rw [paint2_old h.cell.lt];exact h.hue,h.rows.kept (fun i _=>kp _ zi),h.tree.kept (kp 2 zi),?_,h.marks.kept (kp 4 zi)⟩
 refine ⟨nx+1,_,zk,t2,by rw [paint2_old hbx];exact t3,fun nd=> ?_,fun nd p' hp'=> ?_⟩
 ·rw [known_cons]
  by_cases e:nd=nodeO o
  ·subst e
   rw [if_pos rfl]
   exact ⟨fun _=>.inr ⟨hkd,rfl,hid.symm⟩,fun _=>rfl⟩
  rw [if_neg e,t4 nd]
  exact ⟨.inl,fun q=>q.elim id (fun q=>absurd q.2.1.symm e)⟩
 by_cases e:nd=nodeO o
 ·subst e
  rw [if_pos rfl] at hp'
  cases hp'
  refine ⟨.slice none 0 0,[],⟨hline,jQ _ _ _ _,zi,zm,fun l hl=>by simp at hl,fun l hl=>by simp at hl⟩,?_,by rw [paint2_new hpn hpl],fun g hg=>by cases hg⟩
  exact LineIs.new (fun x hx q=>by
   rcases jn.1 hx with rfl | hx
   ·rw [hkd];decide
   ·exact absurd q (hno x hx))
 rw [if_neg e] at hp'
 have hnk':=(t4 nd).1 (by rw [hp'];rfl)
 have hn4:=known_pos hA hnk'
 have hno4:=id_pos hs.ok
 obtain ⟨v2,L2,k1,k2,k4⟩:=(t5 nd p' hp').kept (kp (hueOf nd) zX)
 exact ⟨v2,L2,k1,k2.skip (fun q=>e q.1.symm),k4⟩
