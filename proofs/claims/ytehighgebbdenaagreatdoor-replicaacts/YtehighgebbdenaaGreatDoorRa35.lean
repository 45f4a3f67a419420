import Derived.Test.YtehighgebbdenaaGreatDoorRa27
import Derived.Test.YtehighgebbdenaaGreatDoorRa34
set_option linter.unusedVariables false
set_option linter.unusedSimpArgs false
set_option maxRecDepth 100000
set_option maxHeartbeats 64000000
namespace Go.Proofs.YtehighgebbdenaaGreatDoor
open Go.Proofs.Tryz
variable {B:Nat} {ad:Nat→Addr} {W' w w':World}
section
open Go.RowKit Go.Extern.Stop Go.Stop Go.Extern
structure Errs (B:Nat) (ad:Nat->Addr) (w:World):Prop where
 c0:w.cell? ⟨3,0,none⟩=some (.iface 399 (.pointer (some (ad 0))))
 c1:w.cell? ⟨2,0,none⟩=some (.iface 399 (.pointer (some (ad 1))))
 c2:w.cell? ⟨4,0,none⟩=some (.iface 399 (.pointer (some (ad 2))))
 c3:w.cell? ⟨5,0,none⟩=some (.iface 399 (.pointer (some (ad 3))))
 c4:w.cell? ⟨6,0,none⟩=some (.iface 399 (.pointer (some (ad 4))))
 c5:w.cell? ⟨0,0,none⟩=some (.iface 399 (.pointer (some (ad 5))))
 c6:w.cell? ⟨7,0,none⟩=some (.iface 399 (.pointer (some (ad 6))))
 c7:w.cell? ⟨1,0,none⟩=some (.iface 399 (.pointer (some (ad 7))))
 c8:w.cell? ⟨8,0,none⟩=some (.iface 399 (.pointer (some (ad 8))))
 c9:w.cell? ⟨9,0,none⟩=some (.iface 399 (.pointer (some (ad 9))))
 c10:w.cell? ⟨10,0,none⟩=some (.iface 399 (.pointer (some (ad 10))))
 c11:w.cell? ⟨11,0,none⟩=some (.iface 399 (.pointer (some (ad 11))))
 et:w.cell? ⟨12,0,none⟩=some (.iface 306 (.agg #[.pointer (some ⟨19,27,none⟩)]))
 lt:∀i,i<12->(ad i).block<B
 row:∀i,i<12->∃c t,w.heap[(ad i).block]? =some (.cells c t (0,0))
 ne:∀i j,i<12->j<12->i≠j->ad i≠ad j
 big:13<=B
 size:B<=w.heap.size
theorem Errs.mono (h:Errs B ad w) (hb:Below B w w'):Errs B ad w':=by
 have hB:=h.big
 have g:∀k v,k<13->w.cell? ⟨k,0,none⟩=some v->w'.cell? ⟨k,0,none⟩=some v:=fun k v hk hv=>by
  rw [hb.cell (p:=⟨k,0,none⟩) (um hk hB)];exact hv
 refine ⟨g _ _ zu h.c0,g _ _ zu h.c1,g _ _ zu h.c2,g _ _ zu h.c3,g _ _ zu h.c4,g _ _ zu h.c5,g _ _ zu h.c6,g _ _ zu h.c7,g _ _ zu h.c8,g _ _ zu h.c9,g _ _ zu h.c10,g _ _ zu h.c11,g _ _ zu h.et,h.lt,fun i hi=> ?_,h.ne,h.big,uf h.size hb.size⟩;obtain ⟨c,t,e⟩:=h.row i hi;exact ⟨c,t,by rw [hb.block _ (h.lt i hi)];exact e⟩
theorem Errs.later (h:Errs B ad w) (hb:Below w.heap.size w w'):Errs B ad w':=h.mono (hb.mono h.size)
theorem AV (w:World):Calls prog 48 #[.nilIface] w fun e w'=>e= .returned (.tuple #[.int .i64 0,.int .i64 (-1)])/\w'=w:=by
 go_enter func48,ntmps48;go_wp2;go_ret2;exact km8
def dY (k:Nat):Int:=if k<12 then (k:Int)+1 else -1
theorem Hf (ad:Nat->Addr) (j:Nat) (hj:j<12):(#[Value.iface 399 (.pointer (some (ad 0))),.iface 399 (.pointer (some (ad 1))),.iface 399 (.pointer (some (ad 2))),.iface 399 (.pointer (some (ad 3))),.iface 399 (.pointer (some (ad 4))),.iface 399 (.pointer (some (ad 5))),.iface 399 (.pointer (some (ad 6))),.iface 399 (.pointer (some (ad 7))),.iface 399 (.pointer (some (ad 8))),.iface 399 (.pointer (some (ad 9))),.iface 399 (.pointer (some (ad 10))),.iface 399 (.pointer (some (ad 11)))])[j]? =some (.iface 399 (.pointer (some (ad j)))):=by
 match j,hj with
 | 0,_=>rfl
 | 1,_=>rfl
 | 2,_=>rfl
 | 3,_=>rfl
 | 4,_=>rfl
 | 5,_=>rfl
 | 6,_=>rfl
 | 7,_=>rfl
 | 8,_=>rfl
 | 9,_=>rfl
 | 10,_=>rfl
 | 11,_=>rfl
 | n+12,h=>omega
theorem BQ (w:World) (h:Errs B ad w) (u:TypeId) (x:Value) (k:Nat) (hk:k<=12)
  (hAs:∀(t:Addr) (w1:World),Errs B ad w1->Calls prog 108 #[.iface u x,.iface 196 (.pointer (some t))] w1 fun e w'=>e= .returned (.bool false)/\Below w1.heap.size w1 w')
  (hIs:∀w1,Errs B ad w1->Below w.heap.size w w1->∀j,j<12->j<=k->Calls prog 109 #[.iface u x,.iface 399 (.pointer (some (ad j)))] w1 fun e w'=>e= .returned (.bool (decide (j=k)))/\w'=w1):
  Calls prog 48 #[.iface u x] w fun e w'=>e= .returned (.tuple #[.int .i64 (dY k),.int .i64 (-1)])/\Below w.heap.size w w':=by
 have hsz:=h.size;have h1:Errs B ad (w.alloc (.cells #[.pointer none] 194)):=h.later (zh _ _);go_enter func48,ntmps48;go_wp2_with fail;refine (hAs _ _ h1).mono ?_;rintro e w1 ⟨rfl,hb1⟩;have H1:=h1.later hb1;have B1:Below w.heap.size w w1:=(zh _ _).trans (hb1.mono zv);have z1:=hb1.size;simp at z1;clear hb1 h1 h hAs
 have H2:=fun o=>H1.later ((vP _ _).alloc zg o)
 obtain ⟨c0,c1,c2,c3,c4,c5,c6,c7,c8,c9,c10,c11,et,lt,row,ne,big,size⟩:=H1;clear et row ne lt;have HI:Hid (∀w1,Errs B ad w1->Below w.heap.size w w1->∀j,j<12->j<=k->Calls prog 109 #[.iface u x,.iface 399 (.pointer (some (ad j)))] w1 fun e w'=>e= .returned (.bool (decide (j=k)))/\w'=w1):=hIs;clear hIs;go_wp2_with fail
 have hcell:∀j,j<12->(w1.alloc (.cells #[.iface 399 (.pointer (some (ad 0))),.iface 399 (.pointer (some (ad 1))),.iface 399 (.pointer (some (ad 2))),.iface 399 (.pointer (some (ad 3))),.iface 399 (.pointer (some (ad 4))),.iface 399 (.pointer (some (ad 5))),.iface 399 (.pointer (some (ad 6))),.iface 399 (.pointer (some (ad 7))),.iface 399 (.pointer (some (ad 8))),.iface 399 (.pointer (some (ad 9))),.iface 399 (.pointer (some (ad 10))),.iface 399 (.pointer (some (ad 11)))] 27)).cell? ⟨w1.heap.size,j,none⟩=some (.iface 399 (.pointer (some (ad j)))):=
  fun j hj=>by rw [World.cell?_alloc_at _ _ _ _ rfl];exact Hf ad j hj
 have H3:=H2 (.cells #[.iface 399 (.pointer (some (ad 0))),.iface 399 (.pointer (some (ad 1))),.iface 399 (.pointer (some (ad 2))),.iface 399 (.pointer (some (ad 3))),.iface 399 (.pointer (some (ad 4))),.iface 399 (.pointer (some (ad 5))),.iface 399 (.pointer (some (ad 6))),.iface 399 (.pointer (some (ad 7))),.iface 399 (.pointer (some (ad 8))),.iface 399 (.pointer (some (ad 9))),.iface 399 (.pointer (some (ad 10))),.iface 399 (.pointer (some (ad 11)))] 27);have B3:=B1.alloc zo (.cells #[.iface 399 (.pointer (some (ad 0))),.iface 399 (.pointer (some (ad 1))),.iface 399 (.pointer (some (ad 2))),.iface 399 (.pointer (some (ad 3))),.iface 399 (.pointer (some (ad 4))),.iface 399 (.pointer (some (ad 5))),.iface 399 (.pointer (some (ad 6))),.iface 399 (.pointer (some (ad 7))),.iface 399 (.pointer (some (ad 8))),.iface 399 (.pointer (some (ad 9))),.iface 399 (.pointer (some (ad 10))),.iface 399 (.pointer (some (ad 11)))] 27)
 generalize w1.alloc (.cells #[.iface 399 (.pointer (some (ad 0))),.iface 399 (.pointer (some (ad 1))),.iface 399 (.pointer (some (ad 2))),.iface 399 (.pointer (some (ad 3))),.iface 399 (.pointer (some (ad 4))),.iface 399 (.pointer (some (ad 5))),.iface 399 (.pointer (some (ad 6))),.iface 399 (.pointer (some (ad 7))),.iface 399 (.pointer (some (ad 8))),.iface 399 (.pointer (some (ad 9))),.iface 399 (.pointer (some (ad 10))),.iface 399 (.pointer (some (ad 11)))] 27)=W2 at hcell H3 B3 |-
 clear c0 c1 c2 c3 c4 c5 c6 c7 c8 c9 c10 c11 H2 B1 big size
 generalize w1.heap.size=b1 at hcell z1 |-
 clear z1;have HI':=HI.o W2 H3 B3;have HJ:Hid (∀j,j<12->j<=k->Calls prog 109 #[.iface u x,.iface 399 (.pointer (some (ad j)))] W2 fun e w'=>e= .returned (.bool (decide (j=k)))/\w'=W2):=HI';clear HI HI' H3;go_loop [3,30] (fun at' i=>∃j:Nat,j<=k/\at'= .int .i64 (-1)/\i= .int .i64 j) (fun _ i=>12 - (intOf i).toNat)
 case atStart=>exact ⟨0,vV _,rfl,rfl⟩
 case round=>
  obtain ⟨j,hj,rfl,rfl⟩:=hrel;by_cases h12:j<12
  ·have hc:=hcell j h12;have hd:decide ((j:Int)<12)=true:=zr;go_wp2_with fail;refine (HJ.o j h12 hj).mono ?_;rintro e w' ⟨rfl,hw⟩;subst hw;by_cases hjk:j=k
   ·exact kh6
   rw [decide_eq_false hjk];go_wp2;go_round
   case rel=>exact ⟨j+1,zo,rfl,zD⟩
   case measure=>simp [intOf];omega
  exact ki0
theorem CS (w:World) (h:Errs B ad w) (pb po:Nat) (n:Int) (k:Nat) (hk:k<12)
  (hn:w.cell? ⟨pb,po,none⟩=some (.int .i64 n)) (he:w.cell? ⟨pb,po+1,none⟩=some (.iface 399 (.pointer (some (ad k))))):
  Calls prog 48 #[.iface 194 (.pointer (some ⟨pb,po,none⟩))] w fun e w'=>e= .returned (.tuple #[.int .i64 (dY k),.int .i64 n])/\Below w.heap.size w w':=by
 have hsz:=h.size;have h1:Errs B ad (w.alloc (.cells #[.pointer none] 194)):=h.later (zh _ _);go_enter func48,ntmps48;go_wp2_with fail;refine (Ig ⟨pb,po,none⟩ _ (.pointer none) _ h1.et zv zv).mono ?_;rintro e w1 ⟨rfl,ht,hb1,z1⟩;have B1:Below w.heap.size w w1:=(zh _ _).trans hb1;have H1:=h.later B1;have hn1:w1.cell? ⟨pb,po,none⟩=some (.int .i64 n):=cell_later B1 hn;have he1:w1.cell? ⟨pb,po+1,none⟩=some (.iface 399 (.pointer (some (ad k)))):=cell_later B1 he;simp at z1;clear hb1 h1 h hn he
 have H2:=fun o=>H1.later ((vP _ _).alloc zg o)
 have he2:=fun o=>cell_later ((vP w1.heap.size w1).alloc zg o) he1
 clear he1;obtain ⟨c0,c1,c2,c3,c4,c5,c6,c7,c8,c9,c10,c11,et,lt,row,ne,big,size⟩:=H1;clear et row ne lt
 have HI:Hid (∀w1,Errs B ad w1->w1.cell? ⟨pb,po+1,none⟩=some (.iface 399 (.pointer (some (ad k))))->∀j,j<12->j<=k->Calls prog 109 #[.iface 194 (.pointer (some ⟨pb,po,none⟩)),.iface 399 (.pointer (some (ad j)))] w1 fun e w'=>e= .returned (.bool (decide (j=k)))/\w'=w1):=by
  intro w1 hw1 hc j hj _;by_cases hjk:j=k
  ·subst hjk;rw [decide_eq_true rfl];exact nf pb po (ad j) w1 hc
  rw [decide_eq_false hjk];obtain ⟨ca,ta,ea⟩:=hw1.row k hk;obtain ⟨cb,tb,eb⟩:=hw1.row j hj;exact mB pb po (ad j) (ad k) ca cb ta tb w1 hc (hw1.ne k j hk hj (fun e=>hjk e.symm)) ea eb
 go_wp2_with fail
 have hcell:∀j,j<12->(w1.alloc (.cells #[.iface 399 (.pointer (some (ad 0))),.iface 399 (.pointer (some (ad 1))),.iface 399 (.pointer (some (ad 2))),.iface 399 (.pointer (some (ad 3))),.iface 399 (.pointer (some (ad 4))),.iface 399 (.pointer (some (ad 5))),.iface 399 (.pointer (some (ad 6))),.iface 399 (.pointer (some (ad 7))),.iface 399 (.pointer (some (ad 8))),.iface 399 (.pointer (some (ad 9))),.iface 399 (.pointer (some (ad 10))),.iface 399 (.pointer (some (ad 11)))] 27)).cell? ⟨w1.heap.size,j,none⟩=some (.iface 399 (.pointer (some (ad j)))):=
  fun j hj=>by rw [World.cell?_alloc_at _ _ _ _ rfl];exact Hf ad j hj
 have H3:=H2 (.cells #[.iface 399 (.pointer (some (ad 0))),.iface 399 (.pointer (some (ad 1))),.iface 399 (.pointer (some (ad 2))),.iface 399 (.pointer (some (ad 3))),.iface 399 (.pointer (some (ad 4))),.iface 399 (.pointer (some (ad 5))),.iface 399 (.pointer (some (ad 6))),.iface 399 (.pointer (some (ad 7))),.iface 399 (.pointer (some (ad 8))),.iface 399 (.pointer (some (ad 9))),.iface 399 (.pointer (some (ad 10))),.iface 399 (.pointer (some (ad 11)))] 27);have he3:=he2 (.cells #[.iface 399 (.pointer (some (ad 0))),.iface 399 (.pointer (some (ad 1))),.iface 399 (.pointer (some (ad 2))),.iface 399 (.pointer (some (ad 3))),.iface 399 (.pointer (some (ad 4))),.iface 399 (.pointer (some (ad 5))),.iface 399 (.pointer (some (ad 6))),.iface 399 (.pointer (some (ad 7))),.iface 399 (.pointer (some (ad 8))),.iface 399 (.pointer (some (ad 9))),.iface 399 (.pointer (some (ad 10))),.iface 399 (.pointer (some (ad 11)))] 27);have B3:=B1.alloc zo (.cells #[.iface 399 (.pointer (some (ad 0))),.iface 399 (.pointer (some (ad 1))),.iface 399 (.pointer (some (ad 2))),.iface 399 (.pointer (some (ad 3))),.iface 399 (.pointer (some (ad 4))),.iface 399 (.pointer (some (ad 5))),.iface 399 (.pointer (some (ad 6))),.iface 399 (.pointer (some (ad 7))),.iface 399 (.pointer (some (ad 8))),.iface 399 (.pointer (some (ad 9))),.iface 399 (.pointer (some (ad 10))),.iface 399 (.pointer (some (ad 11)))] 27)
 generalize w1.alloc (.cells #[.iface 399 (.pointer (some (ad 0))),.iface 399 (.pointer (some (ad 1))),.iface 399 (.pointer (some (ad 2))),.iface 399 (.pointer (some (ad 3))),.iface 399 (.pointer (some (ad 4))),.iface 399 (.pointer (some (ad 5))),.iface 399 (.pointer (some (ad 6))),.iface 399 (.pointer (some (ad 7))),.iface 399 (.pointer (some (ad 8))),.iface 399 (.pointer (some (ad 9))),.iface 399 (.pointer (some (ad 10))),.iface 399 (.pointer (some (ad 11)))] 27)=W2 at hcell H3 B3 he3 |-
 clear c0 c1 c2 c3 c4 c5 c6 c7 c8 c9 c10 c11 H2 he2 B1 big size hn1 ht
 generalize w1.heap.size=b1 at hcell z1 |-
 clear z1;have HI':=HI.o W2 H3 he3;have HJ:Hid (∀j,j<12->j<=k->Calls prog 109 #[.iface 194 (.pointer (some ⟨pb,po,none⟩)),.iface 399 (.pointer (some (ad j)))] W2 fun e w'=>e= .returned (.bool (decide (j=k)))/\w'=W2):=HI';clear HI HI' H3 he3;go_loop [3,30] (fun at' i=>∃j:Nat,j<=k/\at'= .int .i64 n/\i= .int .i64 j) (fun _ i=>12 - (intOf i).toNat)
 case atStart=>exact ⟨0,vV _,rfl,rfl⟩
 case round=>
  obtain ⟨j,hj,rfl,rfl⟩:=hrel;by_cases h12:j<12
  ·have hc:=hcell j h12;have hd:decide ((j:Int)<12)=true:=zr;go_wp2_with fail;refine (HJ.o j h12 hj).mono ?_;rintro e w' ⟨rfl,hw⟩;subst hw;by_cases hjk:j=k
   ·exact kh6
   rw [decide_eq_false hjk];go_wp2;go_round
   case rel=>exact ⟨j+1,zo,rfl,zD⟩
   case measure=>simp [intOf];omega
  exact ki0
theorem rV (w:World) (h:Errs B ad w) (k:Nat) (hk:k<12):
  Calls prog 48 #[.iface 399 (.pointer (some (ad k)))] w fun e w'=>e= .returned (.tuple #[.int .i64 (dY k),.int .i64 (-1)])/\Below w.heap.size w w':=by
 refine BQ w h _ _ k (ZS hk) (fun t w1 h1=>LC (ad k) t w1 h1.et) fun w1 hw1 _ j hj _=> ?_
 by_cases hjk:j=k
 ·subst hjk;rw [decide_eq_true rfl];exact JG (ad j) w1
 rw [decide_eq_false hjk];obtain ⟨ca,ta,ea⟩:=hw1.row k hk;obtain ⟨cb,tb,eb⟩:=hw1.row j hj;exact GW (ad k) (ad j) ca cb ta tb w1 (hw1.ne k j hk hj (fun e=>hjk e.symm)) ea eb
end
section
open Go Go.RowKit Go.Lib Go.Sort Go.Maps
open scoped Classical
structure Pr (B:Nat) (w:World) (br m i:Nat) (R:Rws) (S:List OpX) (sf:List Nat) (W:World):Prop where
 ex:∃c ao cap,RepOwn B W c br (i:Int) R/\MRp W m (i:Int) ao cap S/\Shp ao cap/\c m=0/\(S≠ []->∀b o,ao=some ⟨b,o,none⟩->c b=0)/\∀k∈sf,c k=0
 below:Below B w W
 base:B<=w.heap.size
 safe:∀k∈sf,k<W.heap.size/\k≠m
 low:B<=m
section
variable {B:Nat} {ad:Nat→Addr} {w:World} {br m i:Nat} {R:Rws} {S:List OpX} {sf:List Nat} {W:World}
theorem Pr.size (h:Pr B w br m i R S sf W):B<=W.heap.size:=uf h.base h.below.size
theorem Pr.mlt (h:Pr B w br m i R S sf W):m<W.heap.size:=by
 obtain ⟨c,ao,cap,_,h2,_⟩:=h.ex;exact h2.lt
theorem Pr.later {W':World} (h:Pr B w br m i R S sf W) (hb:Below W.heap.size W W'):Pr B w br m i R S sf W':=by
 obtain ⟨c,ao,cap,h1,h2,h3⟩:=h.ex;exact ⟨⟨c,ao,cap,h1.later hb,h2.later hb,h3⟩,h.below.trans (hb.mono h.size),h.base,fun k hk=>⟨um (h.safe k hk).1 hb.size,(h.safe k hk).2⟩,h.low⟩
theorem Pr.guard (h:Pr B w br m i R S sf W) (hb:Below W.heap.size W W') {k:Nat} (hk:W.heap.size<=k) (hk':k<W'.heap.size):Pr B w br m i R S (k::sf) W':=by
 obtain ⟨c,ao,cap,h1,h2,h3,h4,h5,h6⟩:=(h.later hb).ex;obtain ⟨c',ao',cap',k1,k2,k3,k4,k5,k6⟩:=h.ex;refine ⟨⟨c',ao',cap',k1.later hb,k2.later hb,k3,k4,k5,fun j hj=> ?_⟩,(h.later hb).below,h.base,fun j hj=> ?_,h.low⟩
 ·rcases vT.1 hj with e | hj
  ·rw [e];exact k1.high k hk
  exact k6 j hj
 rcases vT.1 hj with e | hj
 ·rw [e];exact ⟨hk',by have:=h.mlt;omega⟩
 exact (h.later hb).safe j hj
theorem Pr.less {sf':List Nat} (h:Pr B w br m i R S sf W) (hs:∀k,k∈sf'->k∈sf):Pr B w br m i R S sf' W:=by
 obtain ⟨c,ao,cap,h1,h2,h3,h4,h5,h6⟩:=h.ex;exact ⟨⟨c,ao,cap,h1,h2,h3,h4,h5,fun k hk=>h6 k (hs k hk)⟩,h.below,h.base,fun k hk=>h.safe k (hs k hk),h.low⟩
theorem Pr.rows (h:Pr B w br m i R S sf W):RowsK R:=by
 obtain ⟨c,ao,cap,h1,_⟩:=h.ex;exact h1.wellK
theorem Pr.act {W':World} {c c':Nat->Nat} {ao:Option Addr} {cap:Nat} {R':Rws} (h:Pr B w br m i R S sf W) (h1:RepOwn B W c br (i:Int) R) (h2:MRp W m (i:Int) ao cap S) (h3:Shp ao cap) (h4:c m=0) (h5:S≠ []->∀b o,ao=some ⟨b,o,none⟩->c b=0) (h6:∀k∈sf,c k=0) (hA:Acts W c W' c') (hR:RepOwn B W' c' br (i:Int) R'):Pr B w br m i R' S sf W'/\∀k∈sf,W'.heap[k]? =W.heap[k]? :=by
 have hm:W'.heap[m]? =W.heap[m]? :=hA.keeps.block m h2.lt (fun q=>q h4)
 have hops:OpsIn W' ao S:=by
  rcases h2.ops with e | ⟨b,o,e,hc⟩
  ·exact .inl e
  by_cases hS:S= []
  ·exact .inl hS
  refine .inr ⟨b,o,e,fun j u hj=> ?_⟩;have hlt:b<W.heap.size:=vR W ⟨b,o+j,none⟩ (hc j u hj);exact (hA.keeps.cell (a:=⟨b,o+j,none⟩) hlt (fun q=>q (h5 hS b o e))).trans (hc j u hj)
 refine ⟨⟨⟨c',ao,cap,hR,⟨hm.trans h2.cell,hops⟩,h3,by rw [hA.hue m h2.lt];exact h4,fun hS b o e=> ?_,fun k hk=>by rw [hA.hue k (h.safe k hk).1];exact h6 k hk⟩,h.below.trans (h1.below hA h.size),h.base,fun k hk=>⟨um (h.safe k hk).1 hA.keeps.size,(h.safe k hk).2⟩,h.low⟩,fun k hk=>hA.keeps.block k (h.safe k hk).1 (fun q=>q (h6 k hk))⟩
 have hlt:b<W.heap.size:=by
  rcases h2.ops with e' | ⟨b',o',e',hc⟩
  ·exact absurd e' hS
  rw [e] at e'
  cases e'
  cases S with
  | nil=>exact absurd rfl hS
  | cons x t=>exact vR W ⟨b,o+0,none⟩ (hc 0 _ (show (cellsOf (x::t))[0]? =some _ from rfl))
 rw [hA.hue b hlt];exact h5 hS b o e
theorem Pr.mact {S':List OpX} {ao':Option Addr} {cap':Nat} (h:Pr B w br m i R S sf W) (hk:Keeps (fun k=>k=m) W W') (h2:MRp W' m (i:Int) ao' cap' S') (h3:Shp ao' cap') (h5:∀b o,ao'=some ⟨b,o,none⟩->W.heap.size<=b):Pr B w br m i R S' sf W':=by
 obtain ⟨c,ao,cap,k1,k2,k3,k4,k5,k6⟩:=h.ex;refine ⟨⟨c,ao',cap',⟨k1.rep.kept (fun j hj=>⟨fun k hkl e=>hk.block k hkl (fun q=>hj (by rw [<-e,q,k4])),fun _ _=>rfl⟩),k1.low,fun k hkl=>k1.high k (uf hk.size hkl)⟩,h2,h3,k4,fun _ b o e=>k1.high b (h5 b o e),k6⟩,h.below.trans (hk.below h.size (fun k e=>by rw [e];exact h.low)),h.base,fun k hk'=>⟨um (h.safe k hk').1 hk.size,(h.safe k hk').2⟩,h.low⟩
def rX (ad:Nat->Addr) (W:World) (v:Value) (ix:Int) (cd:Nat):Prop:=(ix= -1/\v=eV ad cd/\cd≠0)\/(0<=ix/\wZ ad W v ix cd)
def EO (B:Nat) (ad:Nat->Addr) (w:World) (br m i:Nat) (R:Rws) (S:List OpX) (sf:List Nat) (l:List OpX) (W:World) (e:Ending) (W':World):Prop:=∃a,aB (aR R) l a/\(∀k∈sf,W'.heap[k]? =W.heap[k]?)/\(match a with
 | .inl (ix,cd)=>Pr B w br m i R S sf W'/\∃v,e= .returned (.tuple #[.int .i64 0,v])/\rX ad W' v ix cd
 | .inr fresh=>e= .returned (.tuple #[.int .i64 (fresh.length:Int),.nilIface])/\∃R',Pr B w br m i R' S sf W'/\∀x,x∈aR R'↔x∈aR R++fresh)
theorem EB (h:Pr B w br m i R S sf W) (hE:EnvT B ad w) (la:Option Addr) (lc:Nat) (l:List OpX) (hin:OpsIn W la l) (hs:oL l) (hn:(aR R).length+l.length<=140):
  Calls prog 10 #[.pointer (some ⟨br,0,none⟩),.slice la l.length lc] W (EO B ad w br m i R S sf l W):=by
 obtain ⟨c,ao,cap,h1,h2,h3,h4,h5,h6⟩:=h.ex;refine (wT W c br (i:Int) R la lc l h1 (hE.mono h.below).env hin hs hn).mono ?_;rintro e W' ⟨a,c',hj,hA,hm⟩
 cases a with
 | inl p=>
  obtain ⟨ix,cd⟩:=p;obtain ⟨hR,v,he,hv⟩:=hm;have ha:=h.act h1 h2 h3 h4 h5 h6 hA hR;exact ⟨.inl (ix,cd),hj,ha.2,ha.1,v,he,hv⟩
 | inr fresh=>
  obtain ⟨he,R',hR,hmem⟩:=hm;have ha:=h.act h1 h2 h3 h4 h5 h6 hA hR;exact ⟨.inr fresh,hj,ha.2,he,R',ha.1,hmem⟩
def AH (B:Nat) (w:World) (br m i:Nat) (R:Rws) (S:List OpX) (sf:List Nat) (l:List OpX) (W:World) (e:Ending) (W':World):Prop:=∃a,aB S l a/\Keeps (fun k=>k=m) W W'/\(match a with
 | .inl (ix,cd)=>Pr B w br m i R S sf W'/\e= .returned (.tuple #[.int .i64 0,.agg #[.int .i64 (cd:Int),.int .i64 ix]])
 | .inr fresh=>e= .returned (.tuple #[.int .i64 (fresh.length:Int),.agg #[.int .i64 0,.int .i64 (-1)]])/\∃S',Pr B w br m i R S' sf W'/\S'.Perm (S++fresh)/\S'.Pairwise (fun a b=>¬CLt (stO b) (stO a)))
theorem oK (h:Pr B w br m i R S sf W) (la:Option Addr) (lc:Nat) (l:List OpX) (hin:OpsIn W la l) (hs:oL l) (hW:WellK S) (hn:S.length<=400) (hl:l.length<=400):
  Calls prog 12 #[.pointer (some ⟨m,0,none⟩),.slice la l.length lc] W (AH B w br m i R S sf l W):=by
 obtain ⟨c,ao,cap,h1,h2,h3,h4,h5,h6⟩:=h.ex;refine (Db W la lc l h2 h3 hW hin hs hn hl).mono ?_;rintro e W' ⟨a,hj,hk,hm⟩
 cases a with
 | inl p=>
  obtain ⟨ix,cd⟩:=p;obtain ⟨he,hM⟩:=hm
  have hp:Pr B w br m i R S sf W':=⟨⟨c,ao,cap,⟨h1.rep.kept (fun j hj=>⟨fun k hkl e=>hk.block k hkl (fun q=>hj (by rw [<-e,q,h4])),fun _ _=>rfl⟩),h1.low,fun k hkl=>h1.high k (uf hk.size hkl)⟩,hM,h3,h4,h5,h6⟩,h.below.trans (hk.below h.size (fun k e=>by rw [e];exact h.low)),h.base,fun k hk'=>⟨um (h.safe k hk').1 hk.size,(h.safe k hk').2⟩,h.low⟩
  exact ⟨.inl (ix,cd),hj,hk,hp,he⟩
 | inr fresh=>
  obtain ⟨he,ao',cap',S',hM,hsh,hperm,hsort,hnew⟩:=hm;exact ⟨.inr fresh,hj,hk,he,S',h.mact hk hM hsh hnew,hperm,hsort⟩
theorem tI {S l:List OpX} {ix:Int} {cd:Nat} (h:aB S l (.inl (ix,cd))):1<=cd/\cd<=12/\(ix= -1\/0<=ix):=by
 have hsift:∀(l:List OpX) (i:Nat) (F:List OpX) (a:Nat×Nat),bp S i F l= .inl a->1<=a.2/\a.2<=12:=by
  intro l
  induction l with
  | nil=>intro i F a ha;cases ha
  | cons o t ih=>
   intro i F a ha;by_cases he:an o=0
   ·cases hl:av (S++F) (byO o) (ar o) with
    | none=>rw [fI he hl] at ha;exact ih _ _ _ ha
    | some x=>
     by_cases hx:x=o
     ·subst hx;rw [dL he hl] at ha;exact ih _ _ _ ha
     rw [dR he hl hx] at ha
     cases ha
     exact ⟨by show 1<=7;decide,by show 7<=12;decide⟩
   rw [gM he] at ha
   cases ha
   have:=IY o;exact ⟨by show 1<=an o;omega,by show an o<=12;omega⟩
 unfold aB at h
 cases hs:bp S 0 [] l with
 | inl p=>
  obtain ⟨i,c⟩:=p;rw [hs] at h;have:=hsift l 0 [] (i,c) hs;dsimp only at h this
  cases h
  exact ⟨this.1,this.2,.inr zo⟩
 | inr fresh=>
  rw [hs] at h;dsimp only at h
  rcases h with ⟨_,e⟩ | ⟨_,_,e⟩ | ⟨_,_,_,e⟩ | ⟨_,_,e⟩ | ⟨_,_,e⟩
  all_goals first
   | (cases e;exact ⟨zu,zu,.inl rfl⟩)
   | cases e
end
theorem BH (w:World) (v:Value) (ix:Int) (cd:Nat) (hE:Errs B ad w) (h1:1<=cd) (h12:cd<=12) (hv:rX ad w v ix cd):
  Calls prog 13 #[v,.agg #[.int .i64 (cd:Int),.int .i64 ix]] w fun e w'=>e= .returned (.bool true)/\Aside (Below w.heap.size w w'):=by
 obtain ⟨P,hP⟩:=ze w.heap.size;obtain ⟨U,hU⟩:=ze (w.alloc (.cells #[.int .i64 (cd:Int),.int .i64 ix] 46));have hbU:Below w.heap.size w U:=yS;have hfU:U.heap[P]? =some (.cells #[.int .i64 (cd:Int),.int .i64 ix] 46 (0,0)):=jJ
 obtain ⟨k,hk⟩:∃k,cd=k+1:=⟨cd - 1,zo⟩
 have hk12:k<12:=zo
 have hcode:Calls prog 48 #[v] U fun e w'=>e= .returned (.tuple #[.int .i64 (cd:Int),.int .i64 ix])/\Below U.heap.size U w':=by
  have hcd:dY k=(cd:Int):=by rw [hk];unfold dY;split<;>omega
  rcases hv with ⟨e1,e2,_⟩ | ⟨_,b,e2,e3⟩
  ·have ev:v= .iface 399 (.pointer (some (ad k))):=by rw [e2,hk];rfl
   rw [ev,<-hcd,e1];exact rV U (hE.later hbU) k hk12
  have hb3:U.heap[b]? =some (.cells #[.int .i64 ix,eV ad cd] 198 (0,0)):=(hbU.block b (vO.1 e3).1).trans e3
  have hev:eV ad cd= .iface 399 (.pointer (some (ad k))):=by rw [hk];rfl
  rw [e2,<-hcd];exact CS U (hE.later hbU) b 0 ix k hk12 (by simp [World.cell?,hb3]) (by simp [World.cell?,hb3,hev])
 have H0:Aside (Below w.heap.size w U/\U.heap[P]? =some (.cells #[.int .i64 (cd:Int),.int .i64 ix] 46 (0,0))):=⟨hbU,hfU⟩
 have dz:((cd:Int)==0)=false:=zr;have dzn:(cd==0)=false:=zr;clear hv hk hbU hfU hE;go_enter func13,ntmps13;go_upto_region 1 with fail;rw [<-hU.o,<-hP.o];go_wp2_with fail;refine hcode.mono ?_;clear hcode;rintro e w1 ⟨rfl,hb1⟩;have hf1:w1.heap[P]? =some (.cells #[.int .i64 (cd:Int),.int .i64 ix] 46 (0,0)):=(hb1.block P (vO.1 H0.o.2).1).trans H0.o.2
 have z0:w1.cell? ⟨P,0,none⟩=some (.int .i64 (cd:Int)):=by simp [World.cell?,hf1]
 have z1:w1.cell? ⟨P,1,none⟩=some (.int .i64 ix):=by simp [World.cell?,hf1]
 have HB:Aside (Below w.heap.size w w1):=zj H0.o.1 hb1;clear hb1 hf1;go_wp2;go_ret;exact ⟨rfl,HB.o⟩
theorem rE (w:World):
  Calls prog 13 #[.nilIface,.agg #[.int .i64 0,.int .i64 (-1)]] w fun e w'=>e= .returned (.bool true)/\Aside (Below w.heap.size w w'):=by
 obtain ⟨P,hP⟩:=ze w.heap.size;obtain ⟨U,hU⟩:=ze (w.alloc (.cells #[.int .i64 0,.int .i64 (-1)] 46));have hbU:Below w.heap.size w U:=yS;have hfU:U.heap[P]? =some (.cells #[.int .i64 0,.int .i64 (-1)] 46 (0,0)):=jJ;have hcode:=AV U;have H0:Aside (Below w.heap.size w U):=hbU
 have z0:U.cell? ⟨P,0,none⟩=some (.int .i64 0):=by simp [World.cell?,hfU]
 have z1:U.cell? ⟨P,1,none⟩=some (.int .i64 (-1)):=by simp [World.cell?,hfU]
 clear hbU hfU;go_enter func13,ntmps13;go_upto_region 1 with fail;rw [<-hU.o,<-hP.o];go_wp2_with fail;refine hcode.mono ?_;clear hcode;rintro e w1 ⟨rfl,hb1⟩;subst hb1;go_wp2;go_ret;exact ⟨rfl,H0.o⟩
