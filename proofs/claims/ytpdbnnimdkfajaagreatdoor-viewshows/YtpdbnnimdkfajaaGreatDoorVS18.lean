import Derived.Test.YtpdbnnimdkfajaaGreatDoorVS13
import Derived.Test.YtpdbnnimdkfajaaGreatDoorVS14
import Derived.Shelf.Strings.OnBuilder
import Derived.Shelf.Strconv.Itoa3
import Derived.Lib.ItoaLen
set_option linter.unusedSimpArgs false
set_option linter.unusedVariables false
set_option maxRecDepth 100000
set_option maxHeartbeats 64000000
section
namespace Go.Proofs.YtpdbnnimdkfajaaGreatDoor
open Go.RowKit
open scoped Classical
variable {T by_:Int} {A B:List OpX} {bc br bt bx i p:Nat} {c c':Nat→Nat} {kv:Nat→Value} {R:Rws} {w w':World}
structure Kept (c:Nat->Nat) (i:Nat) (w:World) (c':Nat->Nat) (w':World):Prop where
 block:∀k,k<w.heap.size->c k=i->w'.heap[k]? =w.heap[k]?
 hue:∀k,k<w.heap.size->c' k=c k
def hueOf (nd:Int):Nat:=20+nd.toNat
def RepCell (w:World) (br:Nat) (T by_:Int) (kv:Nat->Value) (bt bx bc:Nat):Prop:=w.heap[br]? =some (.cells #[.int .i64 T,.int .i64 by_,kv 0,kv 1,kv 2,kv 3,.pointer (some ⟨bt,0,none⟩),.map (some bx),.pointer (some ⟨bc,0,none⟩)] 70 (0,0))
theorem RepCell.lt (h:RepCell w br T by_ kv bt bx bc):br<w.heap.size:=(jk.1 h).1
theorem RepCell.same (h:RepCell w br T by_ kv bt bx bc) (e:w'.heap[br]? =w.heap[br]?):RepCell w' br T by_ kv bt bx bc:=e.trans h
theorem RepCell.c0 (h:RepCell w br T by_ kv bt bx bc):w.cell? ⟨br,0,none⟩=some (.int .i64 T):=zI
theorem RepCell.c1 (h:RepCell w br T by_ kv bt bx bc):w.cell? ⟨br,1,none⟩=some (.int .i64 by_):=zI
theorem RepCell.c2 (h:RepCell w br T by_ kv bt bx bc):w.cell? ⟨br,2,none⟩=some (kv 0):=zI
theorem RepCell.c3 (h:RepCell w br T by_ kv bt bx bc):w.cell? ⟨br,3,none⟩=some (kv 1):=zI
theorem RepCell.c4 (h:RepCell w br T by_ kv bt bx bc):w.cell? ⟨br,4,none⟩=some (kv 2):=zI
theorem RepCell.c5 (h:RepCell w br T by_ kv bt bx bc):w.cell? ⟨br,5,none⟩=some (kv 3):=zI
theorem RepCell.c6 (h:RepCell w br T by_ kv bt bx bc):w.cell? ⟨br,6,none⟩=some (.pointer (some ⟨bt,0,none⟩)):=zI
theorem RepCell.c7 (h:RepCell w br T by_ kv bt bx bc):w.cell? ⟨br,7,none⟩=some (.map (some bx)):=zI
theorem RepCell.c8 (h:RepCell w br T by_ kv bt bx bc):w.cell? ⟨br,8,none⟩=some (.pointer (some ⟨bc,0,none⟩)):=zI
theorem RepCell.fz (h:RepCell w br T by_ kv bt bx bc) (o:Nat):w.frozen? ⟨br,o,none⟩=false:=by unfold RepCell at h;simp [World.frozen?,h]
def RowsAt (w:World) (c:Nat->Nat) (kv:Nat->Value) (R:Rws):Prop:=∀i,i<4->w.ownsRow 0 38 8 (kv i) (R i).length (cellsOf (R i))/\∀g,(kv i).ownBlock=some g->c g=10+i
theorem RowsAt.one (h:RowsAt w c kv R) (hi:i<4) (hk:Kept c (10+i) w c' w'):w'.ownsRow 0 38 8 (kv i) (R i).length (cellsOf (R i))/\∀g,(kv i).ownBlock=some g->c' g=10+i:=by
 obtain ⟨h1,h2⟩:=h i hi
 refine ⟨owns_same h1 (fun g hg=>hk.block g (h1.lt g hg).2 (h2 g hg)),fun g hg=> ?_⟩
 rw [hk.hue g (h1.lt g hg).2]
 exact h2 g hg
theorem RowsAt.kept (h:RowsAt w c kv R) (hk:∀i,i<4->Kept c (10+i) w c' w'):RowsAt w' c' kv R:=fun i hi=>h.one hi (hk i hi)
theorem RowsAt.ops (h:RowsAt w c kv R) (hi:i<4):OpsAt w (kv i) (R i):=ownsOps (h i hi).1
def TreeC (w:World) (c:Nat->Nat) (bt:Nat) (A:List OpX):Prop:=∃bm v ms,TreeAt 0 w bt bm v ms/\ms.Perm (movsO A)/\c bt=2/\c bm=2/\∀g,v.ownBlock=some g->c g=2
theorem TreeC.kept (h:TreeC w c bt A) (hk:Kept c 2 w c' w'):TreeC w' c' bt A:=by
 obtain ⟨bm,v,ms,h1,h2,h3,h4,h5⟩:=h
 obtain ⟨l1,l2,l3⟩:=h1.lt
 exact ⟨bm,v,ms,h1.same (hk.block _ l1 h3) (hk.block _ l2 h4) (fun g hg=>hk.block g (l3 g hg) (h5 g hg)),h2,(hk.hue _ l1).trans h3,(hk.hue _ l2).trans h4,fun g hg=>(hk.hue g (l3 g hg)).trans (h5 g hg)⟩
theorem TreeC.perm (h:TreeC w c bt A) (e:A.Perm B):TreeC w c bt B:=by
 obtain ⟨bm,v,ms,h1,h2,h3⟩:=h
 exact ⟨bm,v,ms,h1,h2.trans (e.filterMap _),h3⟩
def LineC (w:World) (c:Nat->Nat) (p:Nat) (nd:Int) (A:List OpX):Prop:=∃v L,LineAt (p+1) w p v L/\LineIs A nd L/\c p=hueOf nd/\∀g,v.ownBlock=some g->c g=hueOf nd
theorem LineAt.kin {base:Nat} {v:Value} {L:List Ltr} (h:LineAt base w p v L) {g:Nat} (hg:v.ownBlock=some g):g<w.heap.size:=(h.row.lt g hg).2
theorem LineC.kept {nd:Int} (h:LineC w c p nd A) (hk:Kept c (hueOf nd) w c' w'):LineC w' c' p nd A:=by
 obtain ⟨v,L,h1,h2,h3,h4⟩:=h
 refine ⟨v,L,⟨(hk.block p h1.lt h3).trans h1.cell,ownsSame h1.row (fun g hg=>hk.block g (h1.kin hg) (h4 g hg)),h1.low,h1.nodup,h1.pos,h1.small⟩,h2,(hk.hue _ h1.lt).trans h3,fun g hg=>(hk.hue g (h1.kin hg)).trans (h4 g hg)⟩
def TextC (w:World) (c:Nat->Nat) (bx:Nat) (A:List OpX):Prop:=∃n tx,n<=A.length/\TMapAt w bx n tx/\c bx=3/\(∀nd,(tx nd).isSome=true↔KnownN A nd)/\∀nd p,tx nd=some p->LineC w c p nd A
theorem TextC.kept {w w':World} {c c':Nat->Nat} {bx:Nat} {A:List OpX} (h:TextC w c bx A) (hk:Kept c 3 w c' w') (hl:∀nd,KnownN A nd->Kept c (hueOf nd) w c' w'):TextC w' c' bx A:=by
 obtain ⟨n,tx,h1,h2,h3,h4,h5⟩:=h
 exact ⟨n,tx,h1,h2.same (hk.block _ h2.lt h3),(hk.hue _ h2.lt).trans h3,h4,fun nd p hp=>(h5 nd p hp).kept (hl nd ((h4 nd).1 xJ))⟩
theorem TextC.perm {w:World} {c:Nat->Nat} {bx:Nat} {A B:List OpX} (h:TextC w c bx A) (e:A.Perm B):TextC w c bx B:=by
 obtain ⟨n,tx,h1,h2,h3,h4,h5⟩:=h
 refine ⟨n,tx,by rw [<-e.length_eq];exact h1,h2,h3,fun nd=>(h4 nd).trans ⟨fun q=>q.mono (fun x hx=>e.mem_iff.1 hx),fun q=>q.mono (fun x hx=>e.mem_iff.2 hx)⟩,fun nd p hp=> ?_⟩
 obtain ⟨v,L,k1,k2,k3⟩:=h5 nd p hp
 exact ⟨v,L,k1,k2.perm e,k3⟩
def CellC (w:World) (c:Nat->Nat) (bc:Nat) (A:List OpX):Prop:=∃cm A',CellsAt w bc cm A.length (madeO A')/\A'.Perm A/\c bc=4/\c cm=4
theorem CellC.kept (h:CellC w c bc A) (hk:Kept c 4 w c' w'):CellC w' c' bc A:=by
 obtain ⟨cm,A',h1,h2,h3,h4⟩:=h
 exact ⟨cm,A',h1.same (hk.block _ h1.lt.1 h3) (hk.block _ h1.lt.2 h4),h2,(hk.hue _ h1.lt.1).trans h3,(hk.hue _ h1.lt.2).trans h4⟩
theorem CellC.perm (h:CellC w c bc A) (e:A.Perm B):CellC w c bc B:=by
 obtain ⟨cm,A',h1,h2,h3⟩:=h
 exact ⟨cm,A',by rw [<-e.length_eq];exact h1,h2.trans e,h3⟩
structure RepMid (w:World) (c:Nat->Nat) (br:Nat) (T by_:Int) (kv:Nat->Value) (bt bx bc:Nat) (R:Rws) (A:List OpX):Prop where
 cell:RepCell w br T by_ kv bt bx bc
 hue:c br=1
 rows:RowsAt w c kv R
 tree:TreeC w c bt A
 text:TextC w c bx A
 marks:CellC w c bc A
 time:timeO A T
theorem RepMid.kept {w w':World} {c c':Nat->Nat} {br:Nat} {T by_:Int} {kv:Nat->Value} {bt bx bc:Nat} {R:Rws} {A:List OpX} (h:RepMid w c br T by_ kv bt bx bc R A) (hk:∀i,i≠0->Kept c i w c' w'):RepMid w' c' br T by_ kv bt bx bc R A:=by
 have k1:=hk 1 zi
 exact ⟨h.cell.same (k1.block _ h.cell.lt h.hue),(k1.hue _ h.cell.lt).trans h.hue,h.rows.kept (fun i _=>hk _ zi),h.tree.kept (hk 2 zi),h.text.kept (hk 3 zi) (fun nd _=>hk _ zX),h.marks.kept (hk 4 zi),h.time⟩
theorem RepMid.later (h:RepMid w c br T by_ kv bt bx bc R A) (hb:Below w.heap.size w w'):RepMid w' c br T by_ kv bt bx bc R A:=
 h.kept (fun i _=>⟨fun k hk _=>hb.block k hk,fun k _=>rfl⟩)
def RepAt (w:World) (c:Nat->Nat) (br:Nat) (by_:Int) (R:Rws):Prop:=∃T kv bt bx bc A,RepMid w c br T by_ kv bt bx bc R A/\A.Perm (allR R)/\RowsK R/\0<=by_/\by_<4
theorem RepAt.kept {w w':World} {c c':Nat->Nat} {br:Nat} {by_:Int} {R:Rws} (h:RepAt w c br by_ R) (hk:∀i,i≠0->Kept c i w c' w'):RepAt w' c' br by_ R:=by
 obtain ⟨T,kv,bt,bx,bc,A,h1,h2⟩:=h
 exact ⟨T,kv,bt,bx,bc,A,h1.kept hk,h2⟩
theorem RepAt.later (h:RepAt w c br by_ R) (hb:Below w.heap.size w w'):RepAt w' c br by_ R:=
 h.kept (fun i _=>⟨fun k hk _=>hb.block k hk,fun k _=>rfl⟩)
structure Acts (w:World) (c:Nat->Nat) (w':World) (c':Nat->Nat):Prop where
 keeps:Keeps (fun k=>c k≠0) w w'
 hue:∀k,k<w.heap.size->c' k=c k
theorem Acts.refl (w:World) (c:Nat->Nat):Acts w c w c:=⟨Keeps.refl _ _,fun _ _=>rfl⟩
theorem Acts.of_below (c:Nat->Nat) (hb:Below w.heap.size w w'):Acts w c w' c:=⟨(keeps_of_below hb).mono (fun k hk e=>absurd hk zi),fun _ _=>rfl⟩
theorem Acts.trans {w w1 w2:World} {c c1 c2:Nat->Nat} (h:Acts w c w1 c1) (k:Acts w1 c1 w2 c2):Acts w c w2 c2:=
 ⟨h.keeps.then k.keeps (fun i hi e=>by rw [h.hue i hi] at e;exact e),fun i hi=>(k.hue i (jE hi h.keeps.size)).trans (h.hue i hi)⟩
end Go.Proofs.YtpdbnnimdkfajaaGreatDoor
end
section
namespace Go.Proofs.YtpdbnnimdkfajaaGreatDoor
open Go.RowKit
open scoped Classical
variable {A:List OpX} {bc:Nat} {c:Nat→Nat} {o:OpX} {w w':World}
theorem movs_skip (h:kdO o≠109):movsO (o::A)=movsO A:=by
 unfold movsO
 exact List.filterMap_cons_none (if_neg h)
theorem movs_cons (h:kdO o=109):movsO (o::A)=((o.1,o.2.1),(nodeO o,otherO o,o.2.2.2.2.2.2.1))::movsO A:=by
 unfold movsO
 exact List.filterMap_cons_some (if_pos h)
theorem TreeC.skip {bt:Nat} (h:TreeC w c bt A) (ho:kdO o≠109):TreeC w c bt (o::A):=by
 obtain ⟨bm,v,ms,h1,h2,h3⟩:=h
 exact ⟨bm,v,ms,h1,by rw [movs_skip ho];exact h2,h3⟩
theorem movs_new (h:StepOk A o) {ms:List Mov} (hp:ms.Perm (movsO A)):∀m∈ms,m.1≠(o.1,o.2.1):=fun m hm e=>by
 obtain ⟨x,hx,q⟩:=vO.1 (hp.mem_iff.1 hm)
 unfold movO at q
 split at q
 ·cases q
  exact h.new x hx e
 cases q
theorem CellC.skip (h:CellC w c bc A) (ho:kdO o≠115):CellC w c bc (o::A):=by
 obtain ⟨cm,A',h1,h2,h3⟩:=h
 refine ⟨cm,A'++ [o],?_,(vW).trans (h2.cons o),h3⟩
 rw [madeO_snoc]
 unfold stepO
 rw [if_neg (fun q=>ho q.2)]
 exact h1.mono zm
theorem CellC.set {A':List OpX} {cm:Nat} (h2:A'.Perm A) (h3:c bc=4/\c cm=4) (h:SetOk w bc cm A.length (madeO A') o w'):CellC w' c bc (o::A):=
 ⟨cm,A'++ [o],by rw [madeO_snoc];exact h.1,(vW).trans (h2.cons o),h3⟩
theorem TextC.skip {w:World} {c:Nat->Nat} {bx:Nat} {A:List OpX} (h:TextC w c bx A) {o:OpX} (ho:kdO o≠105/\kdO o≠100) (hn:¬(kdO o=109/\nodeO o=idO o)):TextC w c bx (o::A):=by
 obtain ⟨n,tx,h1,h2,h3,h4,h5⟩:=h
 refine ⟨n,tx,zk,h2,h3,fun nd=>(h4 nd).trans ?_,fun nd p hp=> ?_⟩
 ·rw [known_cons]
  exact ⟨.inl,fun q=>q.elim id (fun q=>absurd ⟨q.1,q.2.1.trans q.2.2.symm⟩ hn)⟩
 obtain ⟨v,L,k1,k2,k3⟩:=h5 nd p hp
 exact ⟨v,L,k1,k2.skip (fun q=>q.2.elim ho.1 ho.2),k3⟩
theorem known_pos (hA:∀x∈A,errO x=0) {nd:Int} (h:KnownN A nd):4<=nd:=by
 obtain ⟨x,hx,_,_,e⟩:=h
 have:=id_pos (hA x hx)
 omega
theorem hue_inj {a b:Int} (ha:0<=a) (hb:0<=b) (h:hueOf a=hueOf b):a=b:=by unfold hueOf at h;omega
theorem TextC.line {w w':World} {c c':Nat->Nat} {bx:Nat} {A:List OpX} (hA:∀x∈A,errO x=0) (h:TextC w c bx A) {o:OpX} (ho:kdO o=105\/kdO o=100) (hn:KnownN A (nodeO o)) (hk:Kept c 3 w c' w') (hl:∀nd,nd≠nodeO o->0<=nd->Kept c (hueOf nd) w c' w')
  (hline:∀p,LineC w c p (nodeO o) A->LineC w' c' p (nodeO o) (o::A)):TextC w' c' bx (o::A):=by
 obtain ⟨n,tx,h1,h2,h3,h4,h5⟩:=h
 refine ⟨n,tx,zk,h2.same (hk.block _ h2.lt h3),(hk.hue _ h2.lt).trans h3,fun nd=>(h4 nd).trans ?_,fun nd p hp=> ?_⟩
 ·rw [known_cons]
  exact ⟨.inl,fun q=>q.elim id (fun q=>by rw [q.1] at ho;rcases ho with k | k<;>exact absurd k zo)⟩
 by_cases e:nd=nodeO o
 ·subst e
  exact hline p (h5 _ p hp)
 obtain ⟨v,L,k1,k2,k3⟩:=(h5 nd p hp).kept (hl nd e (by have:=known_pos hA ((h4 nd).1 xJ);omega))
 exact ⟨v,L,k1,k2.skip (fun q=>e q.1.symm),k3⟩
end Go.Proofs.YtpdbnnimdkfajaaGreatDoor
end
section
namespace Go.Proofs
open Go.Proofs.Tryz
open Go.Shelf
def Tryz.lays156_ren:Go.Shelf.Ren:=⟨fun | 156=>74 | 165=>138 | 166=>139 | 169=>140 | 240=>199 | 241=>200 | 276=>241 | 277=>242 | n=>n,fun | 31=>141 | 9=>9 | 3=>3 | 4=>4 | 0=>0 | 20=>20 | 72=>228 | 76=>42 | 70=>226 | 37=>221 | 75=>27 | 127=>291 | 164=>262 | 5=>5 | 80=>54 | n=>n,fun | n=>n⟩
theorem Tryz.lays156:Go.Proofs.Lays.n156 prog Tryz.lays156_ren:={
 mixed:=zj
 f156:=func74.trans (congrArg some zj)
 f165:=func138.trans (congrArg some zj)
 f166:=func139.trans (congrArg some zj)
 f169:=func140.trans (congrArg some zj)
 f240:=func199.trans (congrArg some zj)
 f241:=func200.trans (congrArg some zj)
 f276:=func241.trans (congrArg some zj)
 f277:=func242.trans (congrArg some zj)
 t0:=underlying0
 a0:=isAgg0
 z0:=sizeOf0
 v0:=zeroValue0
 t3:=underlying3
 a3:=isAgg3
 z3:=sizeOf3
 v3:=zeroValue3
 t4:=underlying4
 a4:=isAgg4
 z4:=sizeOf4
 v4:=zeroValue4
 t9:=underlying9
 a9:=isAgg9
 z9:=sizeOf9
 v9:=zeroValue9
 t20:=underlying20
 a20:=isAgg20
 z20:=sizeOf20
 v20:=zeroValue20
 t31:=underlying141
 a31:=isAgg141
 z31:=sizeOf141
 v31:=zeroValue141
 t37:=underlying221
 a37:=isAgg221
 z37:=sizeOf221
 v37:=zeroValue221
 t70:=underlying226
 a70:=isAgg226
 z70:=sizeOf226
 v70:=zeroValue226
 t72:=underlying228
 a72:=isAgg228
 z72:=sizeOf228
 v72:=zeroValue228
 t75:=underlying27
 a75:=isAgg27
 z75:=sizeOf27
 v75:=zeroValue27
 t76:=underlying42
 a76:=isAgg42
 z76:=sizeOf42
 v76:=zeroValue42
 t127:=underlying291
 a127:=isAgg291
 z127:=sizeOf291
 v127:=zeroValue291
 t164:=underlying262
 a164:=isAgg262
 z164:=sizeOf262
 v164:=zeroValue262}
theorem Tryz.Builder_Extra_156:Builder.Extra prog Tryz.lays156_ren:={
 sizeBuilder:=zj
 liesBuilder:=zj
 t5:=underlying5
 a5:=isAgg5
 z5:=sizeOf5
 v5:=zeroValue5
 infoByte:=zj
 cellsByte:=zj
 sizeByte:=zj
 neB5:=zo}
open Go.RowKit in
theorem Tryz.strings_Join (bk o c:Nat) (xs:List ByteArray) (sep:ByteArray) (w:World) (hcells:∀(j:Nat) x,xs[j]? =some x->w.cell? ⟨bk,o+j,none⟩=some (.string x)) (hbk:bk<w.heap.size) (hN:xs.length<=140737488355328) (hcap:xs.length<=c) (hlen:(Lib.join (xs.map (·.data.toList)) sep.data.toList).length<=140737488355328):
  Calls prog 74 #[.slice (some ⟨bk,o,none⟩) xs.length c,.string sep] w fun e w'=>e= .returned (.string ⟨(Lib.join (xs.map (·.data.toList)) sep.data.toList).toArray⟩)/\Below w.heap.size w w':=Any.strings_Join Tryz.lays156 Tryz.Builder_Extra_156 bk o c xs sep w hcells hbk hN hcap hlen
def Tryz.laysM171_ren:Go.Shelf.Ren:=⟨fun | 171=>73 | 243=>137 | 246=>198 | 283=>237 | 284=>238 | 285=>239 | 286=>240 | 129=>253 | 317=>285 | 318=>286 | 319=>287 | 320=>288 | 337=>310 | 338=>311 | n=>n,fun | 3=>3 | 9=>9 | 2=>2 | 4=>4 | 171=>335 | 0=>0 | 53=>336 | 37=>221 | 5=>5 | 173=>339 | 212=>369 | 51=>351 | 20=>20 | 213=>370 | 46=>295 | 232=>397 | 233=>398 | n=>n,fun | 17=>14 | 18=>17 | 19=>18 | n=>n⟩
theorem Tryz.laysM171:Go.Proofs.LaysM.n171 prog Tryz.laysM171_ren:={
 mixed:=zj
 f129:=func253.trans (congrArg some zj)
 f171:=func73.trans (congrArg some zj)
 f243:=func137.trans (congrArg some zj)
 f246:=func198.trans (congrArg some zj)
 f283:=func237.trans (congrArg some zj)
 f284:=func238.trans (congrArg some zj)
 f285:=func239.trans (congrArg some zj)
 f286:=func240.trans (congrArg some zj)
 f317:=func285.trans (congrArg some zj)
 f318:=func286.trans (congrArg some zj)
 f319:=func287.trans (congrArg some zj)
 f320:=func288.trans (congrArg some zj)
 f337:=func310.trans (congrArg some zj)
 f338:=func311.trans (congrArg some zj)
 t0:=underlying0
 a0:=isAgg0
 z0:=sizeOf0
 v0:=zeroValue0
 t2:=underlying2
 a2:=isAgg2
 z2:=sizeOf2
 v2:=zeroValue2
 t3:=underlying3
 a3:=isAgg3
 z3:=sizeOf3
 v3:=zeroValue3
 t4:=underlying4
 a4:=isAgg4
 z4:=sizeOf4
 v4:=zeroValue4
 t5:=underlying5
 a5:=isAgg5
 z5:=sizeOf5
 v5:=zeroValue5
 t9:=underlying9
 a9:=isAgg9
 z9:=sizeOf9
 v9:=zeroValue9
 t20:=underlying20
 a20:=isAgg20
 z20:=sizeOf20
 v20:=zeroValue20
 t37:=underlying221
 a37:=isAgg221
 z37:=sizeOf221
 v37:=zeroValue221
 t46:=underlying295
 a46:=isAgg295
 z46:=sizeOf295
 v46:=zeroValue295
 t51:=underlying351
 a51:=isAgg351
 z51:=sizeOf351
 v51:=zeroValue351
 t53:=underlying336
 a53:=isAgg336
 z53:=sizeOf336
 v53:=zeroValue336
 t171:=underlying335
 a171:=isAgg335
 z171:=sizeOf335
 v171:=zeroValue335
 t173:=underlying339
 a173:=isAgg339
 z173:=sizeOf339
 v173:=zeroValue339
 t212:=underlying369
 a212:=isAgg369
 z212:=sizeOf369
 v212:=zeroValue369
 t213:=underlying370
 a213:=isAgg370
 z213:=sizeOf370
 t232:=underlying397
 a232:=isAgg397
 z232:=sizeOf397
 v232:=zeroValue397
 t233:=underlying398
 a233:=isAgg398
 z233:=sizeOf398
 v233:=zeroValue398
 g17:=zj
 g18:=zj
 g19:=zj
 i0:=zj
 i2:=zj
 i3:=zj
 i4:=zj
 i5:=zj
 i9:=zj
 i20:=zj
 i37:=zj
 i46:=zj
 i51:=zj
 i53:=zj
 i171:=zj
 i173:=zj
 i212:=zj
 i232:=zj
 i233:=zj
 m17:=zj
 m18:=zj
 m19:=zj}
open Go.RowKit Go.Sort Go.Lib in
theorem Tryz.strconv_Itoa (n:Int) (h0: -9223372036854775808<=n) (h1:n<=9223372036854775807) (w:World) (htab:Lib.TabIs prog w "internal/strconv.uint64pow10" .u64 Lib.pow10Tab):
  Calls prog 73 #[.int .i64 n] w fun e w'=>e= .returned (.string ⟨(Lib.itoa n).toArray⟩)/\∃k os,w'=grow (w.drewN k) os:=Any.strconv_Itoa Tryz.laysM171 n h0 h1 w htab
end Go.Proofs
end
section
namespace Go.Proofs.YtpdbnnimdkfajaaGreatDoor
open Go.RowKit
theorem itoa_any (n:Int) (h0: -9223372036854775808<=n) (h1:n<=9223372036854775807) (w:World) (htab:Lib.TabIs Tryz.prog w "internal/strconv.uint64pow10" .u64 Lib.pow10Tab):
  Calls Tryz.prog 73 #[.int .i64 n] w fun e w'=>e= .returned (.string ⟨(Lib.itoa n).toArray⟩)/\Below w.heap.size w w':=by
 refine (Tryz.strconv_Itoa n h0 h1 w htab).mono ?_
 rintro e w' ⟨rfl,k,os,rfl⟩
 exact ⟨rfl,Lib.below_grow _ _ ze _ _⟩
end Go.Proofs.YtpdbnnimdkfajaaGreatDoor
end
section
namespace Go.Proofs.YtpdbnnimdkfajaaGreatDoor
open Go.Proofs.Tryz
open Go.RowKit Go.Lib Go.Sort
variable {s:ByteArray} {n:Int} {w w1:World}
def aheadB (p q:Plc):Bool:=decide (q.2.1=p.2.1) &&(decide (q.2.2=p.2.2) &&decide (q.1<p.1))
theorem strEq (x y:ByteArray):(x.toList==y.toList)=decide (x=y):=by
 have hs:x.toList=y.toList↔x=y:=⟨fun h=>by rw [jV,jV] at h;exact WideShapes.bytes_inj h,fun h=>by rw [h]⟩
 rw [uk]
 simp [hs]
theorem ahead_any (W:World) (B:Nat) (q p:Plc) (hB:PlcAt W B p):
  Calls prog 165 (#[encP q]++ #[.pointer (some ⟨B,0,none⟩)]) W fun e w'=>e= .returned (.bool (aheadB p q))/\Below W.heap.size W w':=by
 obtain ⟨n,i,s⟩:=q
 obtain ⟨n',i',s'⟩:=p
 have hlt:=hB.lt
 have g0:=fun o=>cellKept ((jo _ W).alloc ze o) hB.c0
 have g1:=fun o=>cellKept ((jo _ W).alloc ze o) hB.c1
 have g2:=fun o=>cellKept ((jo _ W).alloc ze o) hB.c2
 dsimp only at g0 g1 g2
 clear hB
 unfold encP
 dsimp only
 go_enter func165,ntmps165
 by_cases h1:i=i'
 ·have q1:(i==i')=true:=by simp [h1]
  by_cases h2:s=s'
  ·have q2:(s.toList==s'.toList)=true:=by rw [strEq];simp [h2]
   have e:aheadB (n',i',s') (n,i,s)=decide (n<n'):=by unfold aheadB;simp [h1,h2]
   rw [e]
   clear e h1 h2
   go_wp2
   go_ret
   exact ⟨rfl,zg W _⟩
  have q2:(s.toList==s'.toList)=false:=by rw [strEq];simp [h2]
  have e:aheadB (n',i',s') (n,i,s)=false:=by unfold aheadB;simp [h2]
  rw [e]
  clear e h1 h2
  go_wp2
  go_ret
  exact ⟨rfl,zg W _⟩
 have q1:(i==i')=false:=by simp [h1]
 have e:aheadB (n',i',s') (n,i,s)=false:=by unfold aheadB;simp [h1]
 rw [e]
 clear e h1
 go_wp2
 go_ret
 exact ⟨rfl,zg W _⟩
def nmB (qs:List Plc) (p:Plc):ByteArray:=if qs.any (aheadB p)=true then (p.2.2++⟨#[126]⟩)++⟨(Lib.itoa p.1).toArray⟩ else p.2.2
def NmR (w:World) (b:Nat) (n:Int) (s:ByteArray) (w':World):Prop:=w'.cell? ⟨b,0,none⟩=some (.int .i64 n)/\w'.cell? ⟨b,2,none⟩=some (.string s)/\Below w.heap.size w w'
theorem NmR.later {b:Nat} {w2:World} (h:NmR w b n s w1) (hb:Below w1.heap.size w1 w2):NmR w b n s w2:=⟨cellKept hb h.1,cellKept hb h.2.1,zh h.2.2 hb⟩
theorem NmR.drew {w:World} {b:Nat} {n:Int} {s:ByteArray} {w1:World} (h:NmR w b n s w1):NmR w b n s w1.drew:=h.later (jo _ w1).drew
theorem NmR.b {b:Nat} (h:NmR w b n s w1):Below w.heap.size w w1:=h.2.2
theorem nameOf_any (w:World) (ao:Option Addr) (cap:Nat) (qs:List Plc) (p:Plc) (hin:PlsIn w ao qs) (hl:qs.length<=1000000) (h0:0<=p.1) (h1:p.1<2^62) (hs:p.2.2.size<=60)
  (htab:Lib.TabIs prog w "internal/strconv.uint64pow10" .u64 Lib.pow10Tab):
  Calls prog 98 #[.slice ao qs.length cap,encP p] w fun e w'=>e= .returned (.string (nmB qs p))/\Below w.heap.size w w':=by
 obtain ⟨n,i,s⟩:=p
 have HT:Aside (Lib.TabBelow prog w.heap.size w "internal/strconv.uint64pow10" .u64 Lib.pow10Tab):=Lib.tabBelow_of_tabIs htab
 obtain ⟨b,hb⟩:=za w.heap.size
 obtain ⟨U,hU⟩:=za (w.alloc (.cells #[.int .i64 n,.int .i64 i,.string s] 106))
 have hUb:Below w.heap.size w U:=zJ
 have hP:PlcAt U b (n,i,s):=by rw [hU,hb];exact heap_alloc_new w _
 have hcall:=hasPl_any (aheadB (n,i,s)) 165 #[.pointer (some ⟨b,0,none⟩)] (enters_of func165 zj rfl) ao cap U.heap.size qs U ze (fun W x _ hW=>ahead_any W b x (n,i,s) (hP.same (hW.block b hP.lt))) hl (hin.later hUb)
 have HN:Aside (nmB qs (n,i,s)=if qs.any (aheadB (n,i,s))=true then (s++⟨#[126]⟩)++⟨(Lib.itoa n).toArray⟩ else s):=rfl
 have HP:Aside (PlcAt U b (n,i,s)/\Below w.heap.size w U):=⟨hP,hUb⟩
 have hIL:(Lib.itoa n).length<=1000:=by have:=Lib.itoa_length_le n zi (by dsimp only at h1;omega);omega
 dsimp only at h0 h1 hs
 have n1:¬9223372036854775807<s.size+1:=zi
 have n2:¬9223372036854775807<s.size+1+(Lib.itoa n).length:=zi
 generalize qs.any (aheadB (n,i,s))=z at HN hcall
 clear hin htab hP hUb hl
 unfold encP
 dsimp only
 go_enter func98,ntmps98
 go_wp2_with fail
 rw [<-hb,<-hU]
 refine hcall.mono ?_
 clear hcall hU hb
 rintro e w1 ⟨rfl,hb1⟩
 have R1:NmR w b n s w1:=NmR.later (w1:=U) ⟨HP.o.1.c0,HP.o.1.c2,HP.o.2⟩ hb1
 clear hb1
 cases z with
 | true=>
  have HM:Aside (nmB qs (n,i,s)=(s++⟨#[126]⟩)++⟨(Lib.itoa n).toArray⟩):=by rw [HN.o];rfl
  clear HN
  go_wp2_with fail
  obtain ⟨A0,A1,A2⟩:=id R1
  go_region_held3 (fun w'=>w'.cell? ⟨b,0,none⟩=some (.int .i64 n)/\w'.cell? ⟨b,2,none⟩=some (.string s)/\Below w.heap.size w w')
   (first
    | assumption
    | exact NmR.drew ⟨A0,A1,A2⟩
    | exact NmR.later zl zl)
   (first
    | (go_at_call 73;refine (itoa_any _ zi zi _ (HT.o _ (NmR.b zl))).mono ?_;rintro e w' ⟨rfl,hb⟩))
  have R2:NmR w b n s w':=zl
  go_wp2
  go_ret
  exact ⟨by rw [HM.o];rfl,R2.2.2⟩
 | false=>
  have HM:Aside (nmB qs (n,i,s)=s):=by rw [HN.o];rfl
  clear HN
  obtain ⟨A0,A1,A2⟩:=id R1
  go_wp2
  go_ret
  exact ⟨by rw [HM.o];rfl,A2⟩
end Go.Proofs.YtpdbnnimdkfajaaGreatDoor
end
section
namespace Go.Proofs.YtpdbnnimdkfajaaGreatDoor
open Go.Proofs.Tryz
open Go.RowKit
theorem decDigits_len (u:Nat):(Lib.decDigits u).length<=u+1:=by
 induction u using Nat.strongRecOn with
 | ind u ih=>
  by_cases h:u<10
  ·rw [Lib.decDigits,dif_pos h];simp
  rw [Lib.decDigits,dif_neg h]
  have:=ih (u / 10) zi
  simp;omega
theorem below_any (u:Nat) (hu:u<=9223372036854775808):∀(w:World),
  Calls prog 149 #[.int .i64 (-(u:Int))] w fun e w'=>e= .returned (.string ⟨(Lib.decDigits u).toArray⟩)/\Below w.heap.size w w':=by
 induction u using Nat.strongRecOn with
 | ind u ih=>
  intro w
  have IH:=Lib.hid ih
  clear ih
  by_cases h:u<10
  ·have hd:decide (-10< -(u:Int))=true:=by simp;omega
   have HE:Hid (Lib.decDigits u= [digB (48+u)]):=Lib.hid (by rw [Lib.decDigits,dif_pos h];rfl)
   go_enter func149,ntmps149
   go_wp2_with fail
   refine (byte_any (48+u) w zi).mono ?_
   rintro e w1 ⟨rfl,hb⟩
   go_wp2
   go_ret
   exact ⟨by rw [HE.o];rfl,hb⟩
  have hd:decide (-10< -(u:Int))=false:=zk
  have HE:Hid (Lib.decDigits u=Lib.decDigits (u / 10)++ [digB (48+u % 10)]):=Lib.hid (by rw [Lib.decDigits,dif_neg h];rfl)
  have hlen:=Lib.hid (decDigits_len (u / 10))
  go_enter func149,ntmps149
  go_wp2_with fail
  refine (IH.o (u / 10) zi zi w).mono ?_
  rintro e w1 ⟨rfl,hb1⟩
  go_wp2_with fail
  refine (byte_any (48+u % 10) w1 zi).mono ?_
  rintro e w2 ⟨rfl,hb2⟩
  have B2:Below w.heap.size w w2:=zh hb1 hb2
  have hadd:=add_texts (Lib.decDigits (u / 10)) [digB (48+u % 10)] (by have:=hlen.o;simp;omega)
  clear hb1 hb2
  go_wp2
  go_ret
  exact ⟨by rw [HE.o];rfl,B2⟩
theorem itoa_neg' (n:Int) (h:n<0):Lib.itoa n=45::Lib.decDigits n.natAbs:=by rw [Lib.itoa,if_pos h]
theorem itoa_pos' (n:Int) (h:0<=n):Lib.itoa n=Lib.decDigits n.natAbs:=by
 rw [Lib.itoa,if_neg zi]
 congr 1
 omega
theorem decimal_any (n:Int) (w:World) (h0: -9223372036854775808<=n) (h1:n<=9223372036854775807):
  Calls prog 78 #[.int .i64 n] w fun e w'=>e= .returned (.string ⟨(Lib.itoa n).toArray⟩)/\Below w.heap.size w w':=by
 by_cases h:n<0
 ·obtain ⟨u,rfl⟩:∃u:Nat,n= -(u:Int):=⟨n.natAbs,zi⟩
  have HE:Hid (Lib.itoa (-(u:Int))=45::Lib.decDigits u):=Lib.hid (by rw [itoa_neg' _ h];simp)
  have hd:decide (-(u:Int)<0)=true:=xa
  have hadd:=add_texts [45] (Lib.decDigits u) (by
   have:=Lib.itoa_length_le _ h0 h1
   rw [HE.o] at this
   simp at this |-
   omega)
  go_enter func78,ntmps78
  go_wp2_with fail
  refine (below_any u zi w).mono ?_
  rintro e w1 ⟨rfl,hb⟩
  go_wp2
  go_ret
  exact ⟨by rw [HE.o];rfl,hb⟩
 obtain ⟨u,rfl⟩:∃u:Nat,n=(u:Int):=⟨n.natAbs,zi⟩
 have HE:Hid (Lib.itoa (u:Int)=Lib.decDigits u):=Lib.hid (by rw [itoa_pos' _ zi];simp)
 have hd:decide ((u:Int)<0)=false:=zm
 go_enter func78,ntmps78
 go_wp2_with fail
 refine (below_any u zi w).mono ?_
 rintro e w1 ⟨rfl,hb⟩
 go_wp2
 go_ret
 exact ⟨by rw [HE.o];rfl,hb⟩
end Go.Proofs.YtpdbnnimdkfajaaGreatDoor
end
section
namespace Go.Proofs.YtpdbnnimdkfajaaGreatDoor
open scoped Classical
variable {A:List OpX} {m:Mov} {x:OpX} {f:Sta}
theorem moveV_fine (h:errO x=0) (hk:kdO x=109):2<=nodeO x/\nodeO x<=idO x/\0<=otherO x/\otherO x<idO x/\nameOk x.2.2.2.2.2.2.1.data.toList=true:=by
 unfold errO opE at h
 split at h
 ·unfold kindE at h
  rw [if_pos hk] at h
  unfold moveE at h
  split at h
  ·cases h
  rename_i hn
  split at h
  ·cases h
  rename_i hm
  refine ⟨?_,?_,?_,?_,?_⟩
  ·show 2<=x.2.2.2.2.1;omega
  ·show x.2.2.2.2.1<=x.1*4+x.2.1;omega
  ·show 0<=x.2.2.2.2.2.1;omega
  ·show x.2.2.2.2.2.1<x.1*4+x.2.1;omega
  simpa using hm
 cases h
theorem made_from:∀(ms:List Mov) (f:Sta) (k:Int) (p:Plc),foldS f ms k=some p->f k=some p\/∃m∈ms,m.2=p/\p.1=k
 | [],f,k,p,h=>.inl h
 | m::ms,f,k,p,h=>by
  rcases made_from ms (step f m) k p h with q | ⟨m',hm',q⟩
  ·by_cases hi:Idle f m.2
   ·rw [step_idle hi] at q;exact .inl q
   rw [step_goes hi] at q
   unfold upd at q
   split at q
   ·rename_i e;have:=Option.some.inj q
    exact .inr ⟨m,jM,this,by rw [<-this];exact e.symm⟩
   exact .inl q
  exact .inr ⟨m',jv _ hm',q⟩
theorem some_step {k:Int} (h:(f k).isSome=true):(step f m k).isSome=true:=by
 by_cases hi:Idle f m.2
 ·rw [step_idle hi];exact h
 rw [step_goes hi];unfold upd;split
 ·rfl
 exact h
theorem some_fold:∀(ms:List Mov) {f:Sta} {k:Int},(f k).isSome=true->(foldS f ms k).isSome=true
 | [],_,_,h=>h
 | _::ms,_,_,h=>some_fold ms (some_step h)
theorem ins_last {f:Sta} {of:Int} :∀(n:Nat) (x:Int),insF f n x of=true->∃k p,f k=some p/\p.2.1=of
 | 0,x,h=>by simp [insF] at h
 | n+1,x,h=>by
  cases hx:f x with
  | none=>rw [insF_none hx] at h;cases h
  | some p=>
   rw [insF_some hx] at h
   simp only [uI,decide_eq_true_eq] at h
   rcases h with h | h
   ·exact ⟨x,p,hx,h⟩
   exact ins_last n _ h
structure Shown (f:Sta):Prop where
 good:Good f
 two:∀k p,f k=some p->2<=k
 up:∀k p,f k=some p->p.2.1=0\/p.2.1=1\/(f p.2.1).isSome=true
 name:∀k p,f k=some p->nameOk p.2.2.data.toList=true
theorem Shown.none0 (h:Shown f):f 0=none:=by
 cases e:f 0 with
 | none=>rfl
 | some p=>exact absurd (h.two 0 p e) zi
theorem mov_id (h:movO x=some m):kdO x=109/\m=((x.1,x.2.1),(nodeO x,otherO x,x.2.2.2.2.2.2.1)):=by
 unfold movO at h
 split at h
 ·rename_i e;exact ⟨e,(Option.some.inj h).symm⟩
 cases h
theorem mem_movs (h:m∈movsO A):∃x∈A,kdO x=109/\m=((x.1,x.2.1),(nodeO x,otherO x,x.2.2.2.2.2.2.1)):=by
 obtain ⟨x,hx,e⟩:=vO.1 h
 exact ⟨x,hx,mov_id e⟩
theorem stamp_id {y:OpX} (hx:errO x=0) (hy:errO y=0) (h:SLt (x.1,x.2.1) (y.1,y.2.1)):idO x<idO y:=by
 have a:=opE_zero hx;have b:=opE_zero hy
 unfold SLt at h;unfold idO
 obtain ⟨_,_,a3,a4,_⟩:=a;obtain ⟨_,_,b3,b4,_⟩:=b
 dsimp only at h
 omega
theorem shown_of (hA:WellK A) {ms:List Mov} (hp:ms.Perm (movsO A)) (hb:ByStamp ms) (hf:∀m∈ms,FineP m.2):Shown (madeBy ms):=by
 have G:=good_made hf
 have src:∀k p,madeBy ms k=some p->∃x∈A,kdO x=109/\p=(nodeO x,otherO x,x.2.2.2.2.2.2.1)/\nodeO x=k:=fun k p h=>by
  rcases made_from ms noSta k p h with q | ⟨m,hm,e1,e2⟩
  ·simp [noSta] at q
  obtain ⟨x,hx,hk,e⟩:=mem_movs (hp.mem_iff.1 hm)
  refine ⟨x,hx,hk,by rw [<-e1,e],?_⟩
  rw [<-e1,e] at e2;exact e2
 have known:∀nd,KnownN A nd->(madeBy ms nd).isSome=true:=fun nd ⟨x,hx,hk,hn,hid⟩=>by
  have hm:((x.1,x.2.1),(nodeO x,otherO x,x.2.2.2.2.2.2.1))∈ms:=hp.mem_iff.2 (vO.2 ⟨x,hx,by unfold movO;rw [if_pos hk]⟩)
  obtain ⟨a,b,e⟩:=List.append_of_mem hm
  have hni:¬Idle (madeBy a) (nodeO x,otherO x,x.2.2.2.2.2.2.1):=by
   have mf:=moveV_fine (hA.ok x hx) hk
   rintro (q | ⟨n,q⟩)
   ·dsimp only at q;omega
   obtain ⟨k,p,h1,h2⟩:=ins_last n _ q
   dsimp only at h2
   rcases made_from a noSta k p h1 with q' | ⟨m,hm',e1,_⟩
   ·simp [noSta] at q'
   obtain ⟨y,hy,hky,e'⟩:=mem_movs (hp.mem_iff.1 (by rw [e];exact jP _ hm'))
   have my:=moveV_fine (hA.ok y hy) hky
   have lt:SLt m.1 (x.1,x.2.1):=by
    unfold ByStamp at hb
    rw [e] at hb
    exact (jW.1 hb).2.2 m hm' _ jM
   rw [e'] at lt
   have li:=stamp_id (hA.ok y hy) (hA.ok x hx) lt
   rw [<-e1,e'] at h2
   dsimp only at h2
   omega
  rw [e]
  show (foldS noSta (a++_::b) nd).isSome=true
  have e2:foldS noSta (a++((x.1,x.2.1),(nodeO x,otherO x,x.2.2.2.2.2.2.1))::b)=foldS (step (madeBy a) ((x.1,x.2.1),(nodeO x,otherO x,x.2.2.2.2.2.2.1))) b:=by
   unfold madeBy foldS;rw [List.foldl_append];rfl
  rw [e2]
  refine some_fold b ?_
  rw [step_goes hni]
  unfold upd
  rw [if_pos hn.symm];rfl
 refine ⟨G,fun k p h=> ?_,fun k p h=> ?_,fun k p h=> ?_⟩
 ·obtain ⟨x,hx,hk,_,e⟩:=src k p h
  have:=(moveV_fine (hA.ok x hx) hk).1;omega
 ·obtain ⟨x,hx,hk,e,_⟩:=src k p h
  rcases (hA.refs x hx).2.1 hk with q | q | q
  ·exact .inl (by rw [e];exact q)
  ·exact .inr (.inl (by rw [e];exact q))
  exact .inr (.inr (by rw [e];exact known _ q))
 obtain ⟨x,hx,hk,e,_⟩:=src k p h
 rw [e];exact (moveV_fine (hA.ok x hx) hk).2.2.2.2
def UpL (f:Sta):Int->List Plc->Prop
 | x,[]=>f x=none
 | x,p::l=>f x=some p/\UpL f p.2.1 l
theorem up_exists {f:Sta} {d:Int->Nat} (hd:Ranked f d):∀(n:Nat) (x:Int),d x<n->∃l,UpL f x l
 | 0,_,h=>zi
 | n+1,x,h=>by
  cases e:f x with
  | none=>exact ⟨[],e⟩
  | some p=>
   obtain ⟨l,hl⟩:=up_exists hd n p.2.1 (by have:=hd x p e;omega)
   exact ⟨p::l,e,hl⟩
theorem up_get {f:Sta} :∀ {l:List Plc} {x:Int},UpL f x l->∀p∈l,f p.1=some p\/∃y,f y=some p
 | [],_,_,_,hp=>by simp at hp
 | _::l,x,h,p,hp=>by
  rcases jn.1 hp with e | e
  ·subst e;exact .inr ⟨x,h.1⟩
  exact up_get h.2 p e
theorem up_rank {f:Sta} {d:Int->Nat} (G:Good f) (hd:Ranked f d):∀ {l:List Plc} {x:Int},UpL f x l->(∀p∈l,d p.1<=d x)/\l.Pairwise (fun a b=>d b.1<d a.1)
 | [],_,_=>⟨fun _ h=>yw,List.Pairwise.nil⟩
 | p::l,x,h=>by
  have ih:=up_rank G hd h.2
  have lt:=hd x p h.1
  have ek:=G.key x p h.1
  refine ⟨fun q hq=> ?_,jB.2 ⟨fun q hq=> ?_,ih.2⟩⟩
  ·rcases jn.1 hq with e | e
   ·rw [e,ek];exact jj _
   have:=ih.1 q e;omega
  have:=ih.1 q hq;rw [ek];omega
theorem up_len (G:Good f) {L:List Plc} (hL:IsPlaces f L) {l:List Plc} {x:Int} (h:UpL f x l):l.length<=L.length:=by
 obtain ⟨d,hd⟩:=G.rank
 have hn:l.Nodup:=(up_rank G hd h).2.imp (fun {a b} q e=>by rw [e] at q;omega)
 refine hn.length_le_of_subset fun p hp=>(hL.mem p).2 ?_
 rcases up_get h p hp with q | ⟨y,q⟩
 ·exact q
 rw [G.key y p q];exact q
end Go.Proofs.YtpdbnnimdkfajaaGreatDoor
end
section
namespace Go.Proofs.YtpdbnnimdkfajaaGreatDoor
open Go.Proofs.Tryz
open Go.ChangeShapes Go.WideShapes Go.ChangeAt Go.RowKit Go.Joins
theorem cellsOp:prog.cellsOf 38=8:=zj
theorem cellsStamp2:prog.cellsOf 36=2:=zj
theorem cellsByte1:prog.cellsOf 5=1:=zj
theorem cellsStr1:prog.cellsOf 9=1:=zj
def opD (H:Type) (t b n:Int) (k:Nat) (node other:Int) (name value:ByteArray):DataW H:=.agg [.agg [.lit (.int .i64 t),.lit (.int .i64 b)],.lit (.int .i64 n),.lit (.int .u8 (k:Int)),.lit (.int .i64 node),.lit (.int .i64 other),.lit (.string name.data.toList),.lit (.string value.data.toList)]
structure OpWf (t b n:Int) (k:Nat) (node other:Int) (name value:ByteArray):Prop where
 t:(Lit.int .i64 t).wf=true
 b:(Lit.int .i64 b).wf=true
 n:(Lit.int .i64 n).wf=true
 k:(Lit.int .u8 (k:Int)).wf=true
 node:(Lit.int .i64 node).wf=true
 other:(Lit.int .i64 other).wf=true
 name:name.size<=maxLen
 value:value.size<=maxLen
theorem array8 {α:Type} {cs:List α} (h:cs.length=8):∃c0 c1 c2 c3 c4 c5 c6 c7,cs= [c0,c1,c2,c3,c4,c5,c6,c7]:=by
 match cs,h with
 | [c0,c1,c2,c3,c4,c5,c6,c7],_=>exact ⟨c0,c1,c2,c3,c4,c5,c6,c7,rfl⟩
theorem trod_op {H:Type} {enc:TypeId×Value->H} {W:World} {base:Nat} {sp:Nat->Bool} {held:Bool} {fuel:Nat} {cs:List Value} {x:DataW H×List MemPlace} (h:DataW.trod enc prog W base sp held fuel 38 cs=some x):
  ∃(t b n:Int) (k:Nat) (node other:Int) (name value:ByteArray),cs= [.int .i64 t,.int .i64 b,.int .i64 n,.int .u8 (k:Int),.int .i64 node,.int .i64 other,.string name,.string value]/\x=(opD H t b n k node other name value,[])/\OpWf t b n k node other name value:=by
 obtain ⟨xs,m,_,rfl,hl,hlen,hf⟩:=DataW.trod_struct underlying38 h
 rw [cellsOp] at hl
 obtain ⟨c0,c1,c2,c3,c4,c5,c6,c7,rfl⟩:=array8 hl
 match xs,hlen with
 | [y0,y1,y2,y3,y4,y5,y6],_=>
  have g0:=hf 0 _ rfl
  have g1:=hf 1 _ rfl
  have g2:=hf 2 _ rfl
  have g3:=hf 3 _ rfl
  have g4:=hf 4 _ rfl
  have g5:=hf 5 _ rfl
  have g6:=hf 6 _ rfl
  simp [cellsStamp2,cellsInt,cellsByte1,cellsStr1] at g0 g1 g2 g3 g4 g5 g6
  obtain ⟨z0,z1,m2,rfl,-,s0,s1⟩:=trod_struct2 underlying36 g0
  simp [cellsInt] at s0 s1
  obtain ⟨t,e0,rfl,w0⟩:=DataW.trod_int underlying3 s0
  obtain ⟨b,e1,rfl,w1⟩:=DataW.trod_int underlying3 s1
  obtain ⟨n,e2,rfl,w2⟩:=DataW.trod_int underlying3 g1
  obtain ⟨k,e3,rfl,w3⟩:=DataW.trod_int underlying5 g2
  obtain ⟨node,e4,rfl,w4⟩:=DataW.trod_int underlying3 g3
  obtain ⟨other,e5,rfl,w5⟩:=DataW.trod_int underlying3 g4
  obtain ⟨name,e6,rfl,w6⟩:=DataW.trod_string underlying9 g5
  obtain ⟨value,e7,rfl,w7⟩:=DataW.trod_string underlying9 g6
  simp at e0 e1 e2 e3 e4 e5 e6 e7
  subst e0 e1 e2 e3 e4 e5 e6 e7
  have hk:0<=k:=by
   simp [Lit.wf,IntKind.min,IntKind.max,IntKind.signed,IntKind.bits] at w3
   omega
  obtain ⟨k',rfl⟩:∃k':Nat,k=(k':Int):=⟨k.toNat,zi⟩
  exact ⟨t,b,n,k',node,other,name,value,rfl,by simp [opD],⟨w0,w1,w2,w3,w4,w5,w6,w7⟩⟩
