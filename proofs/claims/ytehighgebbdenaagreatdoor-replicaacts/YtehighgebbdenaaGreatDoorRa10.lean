import Derived.Test.YtehighgebbdenaaGreatDoorRa09
import Derived.Shelf.Spec.SlicesInsertGrow
set_option linter.unusedSimpArgs false
set_option maxRecDepth 100000
set_option maxHeartbeats 64000000
namespace Go.Proofs.YtehighgebbdenaaGreatDoor
open Go.Proofs.Tryz
variable {L:List Ent} {ms:List Mov} {xs:List Value} {bm bt cap g k n:Nat} {f:Sta} {v:Value} {w w':World}
section
open Go.RowKit Go.Maps
open scoped Classical
def Iy (x:Ent):List Value:=[.int .i64 x.1.1.1,.int .i64 x.1.1.2,.int .i64 x.1.2.1,.int .i64 x.1.2.2.1,.string x.1.2.2.2]
theorem nQ (m:Mov) (fr:Plc):gG (m,fr)=Iy (m,fr)++aM fr:=rfl
theorem Ce {i:Nat} {x:Ent} (hx:L[i]? =some x) (fr:Plc):∃A C,A.length=i*8+5/\aA gG L=A++aM x.2++C/\aA gG (L.set i (x.1,fr))=A++aM fr++C:=by
 obtain ⟨hl,he⟩:=vL.1 hx;have h1:=dN (enc:=gG) (k:=8) fO L i hl (x.1,fr);have h2:=dN (enc:=gG) (k:=8) fO L i hl (x.1,x.2)
 have hs:L.set i (x.1,x.2)=L:=by
  rw [show ((x.1,x.2):Ent)=x from rfl,<-he];exact Yj hl
 rw [hs] at h2;refine ⟨(aA gG L).take (i*8)++Iy x,(aA gG L).drop ((i+1)*8),?_,?_,?_⟩
 ·rw [ub,ug,bR fO];have:(Iy x).length=5:=rfl;omega
 ·conv=>lhs;rw [h2]
  rw [nQ];simp only [ux]
 rw [h1,nQ];simp only [ux];rfl
theorem Cq {base o:Nat} {A C:List Value} {q:Plc} (p:Plc) (h:w.ownsRow base 284 8 (.slice (some ⟨g,0,none⟩) n cap) n (A++aM q++C)) (ho:A.length=o):
  (((w.setCell ⟨g,o,none⟩ (.int .i64 p.1)).setCell ⟨g,o+1,none⟩ (.int .i64 p.2.1)).setCell ⟨g,o+2,none⟩ (.string p.2.2)).ownsRow base 284 8 (.slice (some ⟨g,0,none⟩) n cap) n (A++aM p++C):=by
 subst ho;exact ff (vs:=aM p) h rfl
theorem lU (w:World) (g o1 o2 o3:Nat) (v1 v2 v3:Value):Keeps (fun k=>k=g) w (((w.setCell ⟨g,o1,none⟩ v1).setCell ⟨g,o2,none⟩ v2).setCell ⟨g,o3,none⟩ v3):=
 ((aZ g [v1] o1 w).trans (aZ g [v2] o2 _)).trans (aZ g [v3] o3 _)
def TreeCell (w:World) (bt bm:Nat) (v:Value):Prop:=w.heap[bt]? =some (.cells #[.map (some bm),v] 187 (0,0))
theorem TreeCell.c0 (h:TreeCell w bt bm v):w.cell? ⟨bt,0,none⟩=some (.map (some bm)):=jW
theorem TreeCell.c1 (h:TreeCell w bt bm v):w.cell? ⟨bt,1,none⟩=some v:=jW
theorem TreeCell.fz (h:TreeCell w bt bm v) (o:Nat):w.frozen? ⟨bt,o,none⟩=false:=by unfold TreeCell at h;simp [World.frozen?,h]
theorem TreeCell.lt (h:TreeCell w bt bm v):bt<w.heap.size:=(vO.1 h).1
theorem TreeCell.ne_map (h:TreeCell w bt bm v) (hM:MapAt prog 3 w bm n f):bt≠bm:=by
 intro e;obtain ⟨es,ck,hb⟩:=hM.block;unfold TreeCell at h;rw [e,hb] at h
 cases h
theorem iW {base:Nat} (h:w.ownsRow base 284 8 (.slice (some ⟨g,0,none⟩) n cap) k xs):∃cur,w.heap[g]? =some (.cells cur 284 (0,0)):=by
 rcases h.2 with ⟨hc,_⟩ | ⟨g',cap',cur,hc,_,hg,_⟩
 ·cases hc
 cases hc;exact ⟨cur,hg⟩
theorem eA {base nn:Nat} (h:w.ownsRow base 284 8 (.slice (some ⟨g,0,none⟩) n cap) k xs) (hM:MapAt prog 3 w bm nn f):g≠bm:=by
 intro e;obtain ⟨cur,hc⟩:=iW h;obtain ⟨es,ck,hb⟩:=hM.block;rw [e,hb] at hc
 cases hc
theorem gd {base:Nat} (h:w.ownsRow base 284 8 (.slice (some ⟨g,0,none⟩) n cap) k xs) (hT:TreeCell w bt bm v):g≠bt:=by
 intro e;obtain ⟨cur,hc⟩:=iW h;unfold TreeCell at hT;rw [e,hT] at hc;simp at hc
theorem AQ {base:Nat} (h:w.ownsRow base 284 8 (.slice (some ⟨g,0,none⟩) n cap) n (aA gG L)):RowAt w g 0 L:=fun j u hj=>by
 have:=h.cells (g:=g) rfl j u hj;rw [Addr.add_lit] at this;exact this
theorem Ek {base:Nat} (h:w.ownsRow base 284 8 (.slice (some ⟨g,0,none⟩) n cap) k xs) (j:Nat):w.frozen? ⟨g,j,none⟩=false:=by
 obtain ⟨cur,hc⟩:=iW h;simp [World.frozen?,hc]
theorem iw {base:Nat} (h:w.ownsRow base 284 8 (.slice (some ⟨g,0,none⟩) n cap) k xs) (e:w'.heap[g]? =w.heap[g]?):w'.ownsRow base 284 8 (.slice (some ⟨g,0,none⟩) n cap) k xs:=by
 refine ⟨h.1,?_⟩
 rcases h.2 with ⟨hc,_⟩ | ⟨g',cap',cur,hc,h1,hg,h2⟩
 ·cases hc
 cases hc;exact .inr ⟨g,cap,cur,rfl,h1,e.trans hg,h2⟩
theorem Kz (w:World) (bt bm base g cap at_ n:Nat) (L:List Ent) (ms:List Mov) (hT:TreeCell w bt bm (.slice (some ⟨g,0,none⟩) ms.length cap)) (hown:w.ownsRow base 284 8 (.slice (some ⟨g,0,none⟩) ms.length cap) ms.length (aA gG L)) (hL:LogTo ms at_ L)
  (hM:MapAt prog 3 w bm n (aN (ms.take at_))) (hfine:∀m∈ms,FineP m.2) (hat:at_<=ms.length) (hlen:ms.length<=1000) (hn:n<=1000000):
  Calls prog 190 #[.pointer (some ⟨bt,0,none⟩),.int .i64 (at_:Int)] w fun e w'=>(∃u,e= .returned u)/\∃L' n',LogTo ms ms.length L'/\w'.ownsRow base 284 8 (.slice (some ⟨g,0,none⟩) ms.length cap) ms.length (aA gG L')/\MapAt prog 3 w' bm n' (aN ms)/\n'<=n+ms.length/\Keeps (fun k=>k=bm\/k=g) w w':=by
 have htm:=hT.ne_map hM;have hgm:=eA hown hM;have hgt:=gd hown hT;have hbt:=hT.lt;have hgw:g<w.heap.size:=(vO.1 (iW hown).choose_spec).1;have hbm:=hM.lt;go_enter func190,ntmps190;go_wp2;go_loopg [4] (ms.length - at_) (fun kx s4 wr=>∃(i:Nat) (L:List Ent) (n':Nat),s4= .int .i64 (i:Int)/\i<=ms.length/\ms.length - i<=kx/\LogTo ms i L/\wr.ownsRow base 284 8 (.slice (some ⟨g,0,none⟩) ms.length cap) ms.length (aA gG L)/\MapAt prog 3 wr bm n' (aN (ms.take i))/\n'<=n+i/\Keeps (fun k=>k=bm\/k=g) w wr)
 case atStart=>exact ⟨at_,L,n,rfl,hat,vM _,hL,hown,hM,Nat.le_add_right _ _,Keeps.refl _ _⟩
 case round=>
  obtain ⟨i,L,n',rfl,hi,hkx,hL,hown,hM,hn',hk⟩:=hrel;have hT1:TreeCell wr bt bm (.slice (some ⟨g,0,none⟩) ms.length cap):=(hk.block bt hbt zo).trans ‹TreeCell w bt bm _›;have t0:=hT1.c0;have t1:=hT1.c1;have hsz:=hk.size;by_cases hlt:i<ms.length
  ·have hltz:decide ((i:Int)<(ms.length:Int))=true:=by simp;omega
   obtain ⟨x,hx⟩:∃x,L[i]? =some x:=⟨_,vN (by rw [hL.len];exact hlt)⟩
   have hmx:=hL.mov hx;have hf:FineP x.1.2:=hfine _ (vQ hmx);have hrow:=AQ hown
   have c2:wr.cell? ⟨g,i*8+2,none⟩=some (.int .i64 x.1.2.1):=by have:=hrow.at hx 2 (u:=.int .i64 x.1.2.1) rfl;rwa [vY] at this
   have c3:wr.cell? ⟨g,i*8+3,none⟩=some (.int .i64 x.1.2.2.1):=by have:=hrow.at hx 3 (u:=.int .i64 x.1.2.2.1) rfl;rwa [vY] at this
   have c4:wr.cell? ⟨g,i*8+4,none⟩=some (.string x.1.2.2.2):=by have:=hrow.at hx 4 (u:=.string x.1.2.2.2) rfl;rwa [vY] at this
   have ex:((i:Int)).toNat=i:=zo;have px:(0:Int)<=(i:Int):=zo;have bx:(i:Int)<(ms.length:Int):=zo
   have HH:Aside (LogTo ms i L/\wr.ownsRow base 284 8 (.slice (some ⟨g,0,none⟩) ms.length cap) ms.length (aA gG L)/\MapAt prog 3 wr bm n' (aN (ms.take i))/\Keeps (fun k=>k=bm\/k=g) w wr/\TreeCell wr bt bm (.slice (some ⟨g,0,none⟩) ms.length cap)/\RowAt wr g 0 L/\L[i]? =some x/\ms[i]? =some x.1):=⟨hL,hown,hM,hk,hT1,hrow,hx,hmx⟩
   clear hL hown hM hk hT1 hrow hx hmx;go_wp2;obtain ⟨w1,hw1⟩:=zc (wr.alloc (.cells #[.int .i64 x.1.2.1,.int .i64 x.1.2.2.1,.string x.1.2.2.2] 106))
   have hp1:PlcAt w1 wr.heap.size x.1.2:=by rw [hw1];exact heap_alloc_new wr _
   have hold:∀k,k<wr.heap.size->w1.heap[k]? =wr.heap[k]? :=fun k hk=>by rw [hw1];exact vZ wr _ k hk
   have hs1:w1.heap.size=wr.heap.size+1:=xS
   have hk1:Keeps (fun k=>k=bm\/k=g) w w1:=by rw [hw1];exact HH.o.2.2.2.1.alloc _
   have hown1:=iw HH.o.2.1 (hold g zo);have hT1:TreeCell w1 bt bm (.slice (some ⟨g,0,none⟩) ms.length cap):=(hold bt zo).trans HH.o.2.2.2.2.1;have hM1:=HH.o.2.2.1.same (hold bm zo);obtain ⟨b5,hb5⟩:=zc wr.heap.size;rw [<-hw1]
   rw [<-hb5] at hp1 hs1 |-
   have hg5:g<b5:=zo;have hb5w:w.heap.size<=b5:=zo;have hm5:bm<b5:=zo;have ht5:bt<b5:=zo;clear hw1 hold hb5 t0 t1 c2 c3 c4;have hrow1:=AQ hown1;have t0:=hT1.c0;have t1:=hT1.c1;have p0:=hp1.c0;have p1:=hp1.c1;have p2:=hp1.c2;have hwn:Wf x.1.2.1:=(kX hf).1;have l0:=hM1.looks1 hwn;have l1:=(show MapAt prog 3 w1.drew bm n' (aN (ms.take i)) from hM1).looks1 hwn;unfold kE at l0 l1
   have c5:w1.cell? ⟨g,i*8+5,none⟩=some (.int .i64 x.2.1):=by have:=hrow1.at HH.o.2.2.2.2.2.2.1 5 (u:=.int .i64 x.2.1) rfl;rwa [vY] at this
   have c6:w1.cell? ⟨g,i*8+6,none⟩=some (.int .i64 x.2.2.1):=by have:=hrow1.at HH.o.2.2.2.2.2.2.1 6 (u:=.int .i64 x.2.2.1) rfl;rwa [vY] at this
   have c7:w1.cell? ⟨g,i*8+7,none⟩=some (.string x.2.2.2):=by have:=hrow1.at HH.o.2.2.2.2.2.2.1 7 (u:=.string x.2.2.2) rfl;rwa [vY] at this
   have z5:=Ek hown1 (i*8+5);have z6:=Ek hown1 (i*8+6);have z7:=Ek hown1 (i*8+7);obtain ⟨fr,hfr⟩:=zc ((aN (ms.take i) x.1.2.1).getD cV);rw [<-hfr] at l0 l1
   have H1:Aside (w1.ownsRow base 284 8 (.slice (some ⟨g,0,none⟩) ms.length cap) ms.length (aA gG L)/\MapAt prog 3 w1 bm n' (aN (ms.take i))/\Keeps (fun k=>k=bm\/k=g) w w1/\TreeCell w1 bt bm (.slice (some ⟨g,0,none⟩) ms.length cap)/\PlcAt w1 b5 x.1.2/\fr=kQ ms i):=⟨hown1,hM1,hk1,hT1,hp1,by rw [hfr,mY HH.o.2.2.2.2.2.2.2]⟩
   clear hown1 hM1 hk1 hT1 hp1 hrow1 hfr;go_region;obtain ⟨w2,hw2⟩:=zc ((((w1.setCell ⟨g,i*8+5,none⟩ (.int .i64 fr.1)).setCell ⟨g,i*8+5+1,none⟩ (.int .i64 fr.2.1)).setCell ⟨g,i*8+5+2,none⟩ (.string fr.2.2)).drew);rw [<-hw2]
   have hk12:Keeps (fun k=>k=g) w1 w2:=by rw [hw2];exact (lU w1 g _ _ _ _ _ _).drew
   obtain ⟨A,C,hA,hf1,hf2⟩:=Ce HH.o.2.2.2.2.2.2.1 fr
   have hown2:w2.ownsRow base 284 8 (.slice (some ⟨g,0,none⟩) ms.length cap) ms.length (aA gG (L.set i (x.1,fr))):=by
    have:=H1.o.1;rw [hf1] at this;rw [hw2,hf2];exact Cq fr this hA
   have hM2:=H1.o.2.1.same (hk12.block bm zo zo);have hT2:TreeCell w2 bt bm (.slice (some ⟨g,0,none⟩) ms.length cap):=(hk12.block bt zo zo).trans H1.o.2.2.2.1;have hp2:PlcAt w2 b5 x.1.2:=H1.o.2.2.2.2.1.same (hk12.block b5 zo zo)
   have hk2:Keeps (fun k=>k=bm\/k=g) w w2:=H1.o.2.2.1.then hk12 (fun _ _ e=>.inr e)
   have hs2:=hk12.size
   have hL2:LogTo ms (i+1) (L.set i (x.1,fr)):=by rw [H1.o.2.2.2.2.2];exact Kn HH.o.1 HH.o.2.2.2.2.2.2.1
   have hmade:=rm HH.o.2.2.2.2.2.2.2;have hgood:gr (aN (ms.take i)):=fq (fun m hm=>hfine m (ZB hm))
   have H2:Aside (w2.ownsRow base 284 8 (.slice (some ⟨g,0,none⟩) ms.length cap) ms.length (aA gG (L.set i (x.1,fr)))/\MapAt prog 3 w2 bm n' (aN (ms.take i))/\Keeps (fun k=>k=bm\/k=g) w w2/\TreeCell w2 bt bm (.slice (some ⟨g,0,none⟩) ms.length cap)/\PlcAt w2 b5 x.1.2/\LogTo ms (i+1) (L.set i (x.1,fr))/\aN (ms.take (i+1))=step (aN (ms.take i)) x.1/\w2.heap.size≥w1.heap.size):=⟨hown2,hM2,hk2,hT2,hp2,hL2,hmade,hs2⟩
   clear hw2 hk12 hA hf1 hf2 hown2 hM2 hT2 hk2 hL2 hmade t0 t1 p0 p1 p2 l0 l1 c5 c6 c7 z5 z6 z7 H1 HH;have p0:=hp2.c0;have p1:=hp2.c1;have p2:=hp2.c2;have t0:=H2.o.2.2.2.1.c0;clear hp2;by_cases he:x.1.2.1=x.1.2.2.1
   ·have d0:(x.1.2.1 !=x.1.2.2.1)=false:=by simp [he]
    have hidle:BK (aN (ms.take i)) x.1.2:=.inl he;have HI:Aside (aN (ms.take (i+1))=aN (ms.take i)):=H2.o.2.2.2.2.2.2.1.trans (fj hidle);clear he hidle;go_wp2;go_roundg (ms.length - (i+1))
    case measure=>omega
    case rel=>exact ⟨i+1,L.set i (x.1,fr),n',zD,zo,vM _,H2.o.2.2.2.2.2.1,H2.o.1,by rw [HI.o];exact H2.o.2.1,zo,H2.o.2.2.1⟩
   have d0:(x.1.2.1 !=x.1.2.2.1)=true:=by simp [he]
   have hwo:Wf x.1.2.2.1:=(kX hf).2;by_cases hin:Ins (aN (ms.take i)) x.1.2.2.1 x.1.2.1
   ·have hidle:BK (aN (ms.take i)) x.1.2:=.inr hin;have HI:Aside (aN (ms.take (i+1))=aN (ms.take i)):=H2.o.2.2.2.2.2.2.1.trans (fj hidle);have hcall:=lv w2 bt bm n' (aN (ms.take i)) x.1.2.2.1 x.1.2.1 true (by simp [hin]) t0 H2.o.2.1 hgood hwo;clear he hidle hin hgood;go_wp2_with (go_at_call 96;refine hcall.mono ?_;clear hcall;rintro e w3 ⟨rfl,hb3⟩)
    have hk3:Keeps (fun k=>k=bm\/k=g) w w3:=H2.o.2.2.1.then (aW hb3) (fun i hi e=>by have:=H2.o.2.2.1.size;omega)
    have hown3:=iw H2.o.1 (hb3.block g (by have:=H2.o.2.2.2.2.2.2.2;omega));have hM3:=H2.o.2.1.same (hb3.block bm (by have:=H2.o.2.2.2.2.2.2.2;omega));go_roundg (ms.length - (i+1))
    case measure=>omega
    case rel=>exact ⟨i+1,L.set i (x.1,fr),n',zD,zo,vM _,H2.o.2.2.2.2.2.1,hown3,by rw [HI.o];exact hM3,zo,hk3⟩
   have hidle:¬BK (aN (ms.take i)) x.1.2:=fun h=>h.elim he hin
   have HI:Aside (aN (ms.take (i+1))=upd (aN (ms.take i)) x.1.2.1 (some x.1.2)):=H2.o.2.2.2.2.2.2.1.trans (fu hidle);have hcall:=lv w2 bt bm n' (aN (ms.take i)) x.1.2.2.1 x.1.2.1 false (by simp [hin]) t0 H2.o.2.1 hgood hwo;clear he hidle hin hgood;go_wp2_with (go_at_call 96;refine hcall.mono ?_;clear hcall;rintro e w3 ⟨rfl,hb3⟩);have hs3:=H2.o.2.2.2.2.2.2.2
   have hk3:Keeps (fun k=>k=bm\/k=g) w w3:=H2.o.2.2.1.then (aW hb3) (fun i hi e=>by have:=H2.o.2.2.1.size;omega)
   have hown3:=iw H2.o.1 (hb3.block g zo);have hM3:=H2.o.2.1.same (hb3.block bm zo);have hT3:TreeCell w3 bt bm (.slice (some ⟨g,0,none⟩) ms.length cap):=(hb3.block bt zo).trans H2.o.2.2.2.1;have hp3:PlcAt w3 b5 x.1.2:=H2.o.2.2.2.2.1.same (hb3.block b5 zo);obtain ⟨w4,hrun,hM4,ht4⟩:=(show MapAt prog 3 w3.drew bm n' (aN (ms.take i)) from hM3).store (T:=184) (E:=106) underlying3 underlying184 zH hwn x.1.2;unfold kE at hrun;have hg4:=ht4.grown
   have hg4':w3.grownBy w4 (some bm):=⟨hg4.os,hg4.tape,hg4.output,hg4.size,hg4.block⟩
   have hk4:Keeps (fun k=>k=bm\/k=g) w w4:=hk3.then (aP hg4') (fun i _ e=>.inl yD)
   have hown4:=iw hown3 (hg4'.block g (by have:=hb3.size;omega) (by simpa using hgm))
   have H4:Aside (Keeps (fun k=>k=bm\/k=g) w w4/\w4.ownsRow base 284 8 (.slice (some ⟨g,0,none⟩) ms.length cap) ms.length (aA gG (L.set i (x.1,fr)))/\MapAt prog 3 w4 bm (n'+1) (aN (ms.take (i+1)))):=⟨hk4,hown4,by rw [HI.o];exact hM4⟩
   have q0:=hp3.c0;have q1:=hp3.c1;have q2:=hp3.c2;have u0:=hT3.c0;clear p0 p1 p2 t0 hb3 hk3 hown3 hM3 hT3 hp3 hM4 ht4 hg4 hg4' hk4 hown4;go_region
   all_goals go_wp2
   go_roundg (ms.length - (i+1))
   case measure=>omega
   case rel=>exact ⟨i+1,L.set i (x.1,fr),n'+1,zD,zo,vM _,H2.o.2.2.2.2.2.1,H4.o.2.1,H4.o.2.2,zo,H4.o.1⟩
  have hltz:decide ((i:Int)<(ms.length:Int))=false:=zr;have hie:i=ms.length:=zo;subst hie;rw [Zu] at hM;go_wp2;go_end0;exact ⟨⟨_,rfl⟩,L,n',hL,hown,hM,hn',hk⟩
end
section
open Go
theorem pl {P:Program} (w:World) (base:Nat) (t ty e:TypeId) (i:TypeInfo) (z:Value) (size bytes:Nat) (ht:P.underlying t=some (.slice e)) (hi:P.info? e=some i) (hz:i.zero=some z)
  (hsize:i.size=size) (hby:i.bytes=bytes) (hzs:z.cells.size=size) (hsz:0<size)
  (v:Value) (n:Nat) (xs:List Value) (hown:w.ownsRow base e size v n xs)
  (a:Addr) (m c:Nat) (hm0:0<m) (news:List Value) (hl:news.length=m*size) (hnews:∀j u,news[j]? =some u->w.cell? (a.add j)=some u) (h1:∀u∈news,u.oneCell'=true)
  (h63:n+m<=maxLen) (hbytes:(n+m)*bytes<=140737488355328) (hbase:base<=w.heap.size):
  ∃v' w',(Builtin.append_ #[t,t] ty #[v,.slice (some a) m c]).run P w= .ok v' w'/\w'.ownsRow base e size v' (n+m) (xs++news)/\w.grownBy w' v.ownBlock/\
   (v'.ownBlock=v.ownBlock\/v'.ownBlock=some w.heap.size):=by
 obtain ⟨v',w',hrun,h',hg',-⟩:=run_append_own (P:=P) w base t ty e i z size bytes ht hi hz hsize hby hzs hsz v n xs hown a m c news hl hnews h1 h63 hbytes hbase;refine ⟨v',w',hrun,h',hg',?_⟩;subst hsize;subst hby
 have hsmall:n+m<=9223372036854775807:=by simp only [maxLen] at h63;omega
 rcases hown.2 with ⟨rfl,rfl⟩ | ⟨g,cap,cur,rfl,hbg,hg,hnc,hcm,hcs,htake⟩
 ·have hr:=run_append_nil (P:=P) w t ty e i z ht hi hz a m c news hl hnews zo zo xO;exact kq8
 by_cases hroom:n+m<=cap
 ·have hfit:n*i.size+news.length<=cur.size:=by rw [hl,hcs,<-ZL];exact uO _ hroom
  have hr:=run_append_room (P:=P) w t ty e i ht hi g n cap cur hg a m c news hl hnews h1 hroom hfit;rw [hr] at hrun;simp only [Result.ok.injEq] at hrun;left;rw [<-hrun.1];rfl
 have holds:∀j u,xs[j]? =some u->w.cell? ((⟨g,0,none⟩:Addr).add j)=some u:=hown.cells (g:=g) rfl;have hr:=run_append_grow (P:=P) w t ty e i z ht hi hz ⟨g,0,none⟩ n cap xs hown.1 holds a m c news hl hnews zo zo (growslice_fits zo hbytes);exact kq8
end
section
open Go.Shelf Go.RowKit Go.Lib
theorem sh:(prog.info? 284).map (fun i=>(i.zero,i.size,i.bytes))=some (some (.agg #[.int .i64 0,.int .i64 0,.int .i64 0,.int .i64 0,.string ⟨#[]⟩,.int .i64 0,.int .i64 0,.string ⟨#[]⟩]),8,80):=zq
def Jn (w:World) (base:Nat) (v:Value) (n:Nat) (ys:List Value) (e:Ending) (w':World):Prop:=
 ∃v',e= .returned v'/\w'.ownsRow base 284 8 v' (n+1) ys/\Keeps (fun k=>some k=v.ownBlock) w w'/\(v'.ownBlock=v.ownBlock\/v'.ownBlock=some w.heap.size)
theorem An (w:World) (base:Nat) (v:Value) (n:Nat) (xs vs:List Value) (hown:w.ownsRow base 284 8 v n xs) (hn:n<=1000) (vb:Nat) (hv:vs.length=8)
  (hvs:∀j u,vs[j]? =some u->w.cell? ⟨vb,j,none⟩=some u) (h1v:∀u∈vs,u.oneCell'=true) (hbase:base<=w.heap.size):
  Calls prog 189 #[v,.int .i64 n,.slice (some ⟨vb,0,none⟩) 1 1] w (Jn w base v n (xs++vs)):=by
 obtain ⟨i0,hi,hz0,hz1,hz2⟩:=info_parts sh
 obtain ⟨v',w',hrun,ho,hg,hb⟩:=pl (P:=prog) w base 185 185 284 i0 _ 8 80 underlying185 hi hz0 hz1 hz2 rfl zo v n xs hown ⟨vb,0,none⟩ 1 1 zo vs zo
  (fun j u hj=>jv) h1v zH zo hbase
 have hfin:Aside (Jn w base v n (xs++vs) (.returned v') w'):=⟨v',rfl,ho,aP hg,hb⟩
 rcases hown.2 with ⟨rfl,rfl⟩ | ⟨g,cap,cur,rfl,hbg,hgb,hnc,hcm,hcs,htake⟩
 ·clear hown ho hg hb hvs h1v;go_enter func189,ntmps189;exact km5
 clear hown ho hg hb hvs h1v htake hcs hgb hbg;go_enter func189,ntmps189;go_wp2_with (at_builtin;refine Lib.wpList_append_run _ rfl _ _ _ _ rfl _ _ rfl rfl _ _ hrun ?_)
 all_goals (go_ret;exact hfin.o)
theorem sY (w:World) (base g n cap i:Nat) (xs vs:List Value) (hown:w.ownsRow base 284 8 (.slice (some ⟨g,0,none⟩) n cap) n xs) (hn:n<=1000) (vb:Nat) (hv:vs.length=8)
  (hvs:∀j u,vs[j]? =some u->w.cell? ⟨vb,j,none⟩=some u) (h1v:∀u∈vs,u.oneCell'=true) (h1x:∀u∈xs,u.oneCell'=true) (hvb:vb≠g) (hsa:w.shape? vb=some (284,8)) (hfa:∀j,w.frozen? ⟨vb,j,none⟩=false)
  (hi:i<n) (hroom:n+1<=cap):
  Calls prog 189 #[.slice (some ⟨g,0,none⟩) n cap,.int .i64 i,.slice (some ⟨vb,0,none⟩) 1 1] w (Jn w base (.slice (some ⟨g,0,none⟩) n cap) n (xs.take (i*8)++vs++xs.drop (i*8))):=by
 have hL:Aside (∀W:World,W.heap=w.heap->W.os=w.os->W.tape=w.tape->W.output=w.output->Jn w base (.slice (some ⟨g,0,none⟩) n cap) n (xs.take (i*8)++vs++xs.drop (i*8)) (.returned (.slice (some ⟨g,0,none⟩) (n+1) cap)) ((W.setCells g ((i+1)*8) (xs.drop (i*8))).setCells g (i*8) vs)):=by
  intro W h0 h2 h3 h4;have hownW:W.ownsRow base 284 8 (.slice (some ⟨g,0,none⟩) n cap) n xs:=vr;have k1:=(aZ g (xs.drop (i*8)) ((i+1)*8) W).trans (aZ g vs (i*8) _);exact kh1
 obtain ⟨hxl,h2⟩:=hown
 rcases h2 with ⟨hc,_⟩ | ⟨g',cap',cur,hc,hbg,hgb,hnc,hcm,hcs,htake⟩
 ·cases hc
 cases hc
 have hcm':cap<=9223372036854775807:=by simp only [maxLen] at hcm;omega
 have hsp:∀j,j<(n+1)*8->(w.cell? ⟨g,j,none⟩).isSome=true:=fun j hj=>by
  have:j<cur.size:=by rw [hcs];omega
  simp [World.cell?,hgb,this]
 have hfz:∀j,w.frozen? ⟨g,j,none⟩=false:=fun j=>by simp [World.frozen?,hgb]
 have hcell:∀j u,xs[j]? =some u->w.cell? ⟨g,j,none⟩=some u:=fun j u hj=>by
  exact ke4
 have hsb:w.shape? g=some (284,cap*8):=by simp [World.shape?,hgb,hcs]
 have hsz:(prog.info? 284).map (·.size)=some 8:=by
  obtain ⟨i0,hi0,_,h1,_⟩:=info_parts sh;rw [hi0];simp [h1]
 have hov:∀lb cb,(callFunc 228 #[.slice (some ⟨vb,0,none⟩) 1 1,.slice (some ⟨g,(i+1)*8,none⟩) lb cb]).run prog w= .ok (.value (.bool false)) w:=fun lb cb=>by
  rw [run_callFunc_extern func228 zq zq zq (e:=Extern.SlicesOverlaps.overlaps #[185,185] #[4]) zq,
   Lib.run_overlaps_apart w 185 4 284 underlying185 8 sizeOf284 ⟨vb,0,none⟩ ⟨g,(i+1)*8,none⟩ 1 1 lb cb hvb 284 284 8 (cap*8) hsa hsb zo (hfa 0) (hfa 8)]
  rfl
 have hdl:(xs.drop (i*8)).length=n*8 - i*8:=qH
 have hcp1:∀ty dc sc,(Builtin.copy_ #[185,185] ty #[.slice (some ⟨g,(i+1)*8,none⟩) (n - i) dc,.slice (some ⟨g,i*8,none⟩) (n+1 - i) sc]).run prog w.drew= .ok (goInt ((n - i:Nat):Int)) (w.drew.setCells g ((i+1)*8) (xs.drop (i*8))):=fun ty dc sc=>by
  have hmin:Nat.min (n+1 - i) (n - i)=n - i:=yq
  have:=cC (P:=prog) w.drew 185 185 ty 284 8 g ((i+1)*8) (n - i) dc ⟨g,i*8,none⟩ (n+1 - i) sc (xs.drop (i*8)) underlying185 hsz xq
   (fun j u hj=>by rw [Addr.add_lit];exact hcell _ u (by rwa [uV] at hj))
   (fun j hj=>hsp _ xa) (fun j _=>hfz _) (fun u hu=>h1x u (Zr hu))
  exact kk8
 obtain ⟨W1,hW1⟩:=zc (w.drew.setCells g ((i+1)*8) (xs.drop (i*8)))
 have hsp1:∀j,j<(n+1)*8->(W1.cell? ⟨g,j,none⟩).isSome=true:=fun j hj=>by
  rw [hW1];exact isSome_setCells g (xs.drop (i*8)) ((i+1)*8) w.drew (fun t ht=>hsp ((i+1)*8+t) (by rw [hdl] at ht;omega)) _ (hsp j hj)
 have hcp2:∀(W:World),(∀x,W.cell? x=W1.cell? x)->(∀x,W.frozen? x=W1.frozen? x)->∀ty dc,(Builtin.copy_ #[185,185] ty #[.slice (some ⟨g,i*8,none⟩) (n+1 - i) dc,.slice (some ⟨vb,0,none⟩) 1 1]).run prog W= .ok (goInt 1) (W.setCells g (i*8) vs):=fun W hWc hWf ty dc=>by
  have hmin:Nat.min 1 (n+1 - i)=1:=yq
  have:=cC (P:=prog) W 185 185 ty 284 8 g (i*8) (n+1 - i) dc ⟨vb,0,none⟩ 1 1 vs underlying185 hsz jz
   (fun j u hj=>by
    rw [Addr.add_lit,vY,hWc,hW1,ZD g _ _ _ _ (fun h _=>absurd h hvb)]
    exact hvs j u hj)
   (fun j hj=>by rw [hWc];exact hsp1 _ zo) (fun j _=>by rw [hWf,hW1,ZF];exact hfz _) h1v
  exact kk8
 rw [<-hW1] at hcp1;have hw1:IntKind.i64.wrap ((i:Int)+1)=(i:Int)+1:=zB;have hw2:IntKind.i64.wrap ((n:Int)+1)=(n:Int)+1:=zB;have hb1:(0:Int)<=(i:Int)+1:=zo;have hz2:¬((i:Int)=(n:Int)):=zo;have hin:i<=n:=zo;have htn:((i:Int)+1).toNat=i+1:=zo;have htn2:((n:Int)+1).toNat=n+1:=zo;have hb2:¬(cap=i+1):=zo;have hb3:(i:Int)<=(n:Int)+1:=zo;have hb4:¬(cap=i):=zo;have hb5:¬((cap:Int)<(n:Int)+1):=zo;clear htake hcs hgb hsp hfz hcell hsb hcm hxl hdl hvs h1v h1x hsa hfa hsp1 hbg;go_enter func189,ntmps189;go_wp2_with (simp only [hov]);have mixed:prog.follows .mixedOrders=true:=zq;go_region_law_o (refine step_copy_runI rfl _ _ 185 185 rfl _ _ yA yA (hcp1 _ _ _) ?_);clear mixed;go_wp2_with (at_builtin;refine wpList_copy_runI _ rfl _ _ 185 185 rfl _ _ rfl rfl (hcp2 _ (fun _=>rfl) (fun _=>rfl) _ _) ?_);go_ret;subst hW1;exact hL.o w.drew rfl rfl rfl rfl
theorem sH (w:World) (base g n cap i:Nat) (xs vs:List Value) (hown:w.ownsRow base 284 8 (.slice (some ⟨g,0,none⟩) n cap) n xs) (hn:n<=1000) (vb:Nat) (hv:vs.length=8)
  (hvs:∀j u,vs[j]? =some u->w.cell? ⟨vb,j,none⟩=some u) (h1v:∀u∈vs,u.oneCell'=true) (h1x:∀u∈xs,u.oneCell'=true) (hbase:base<=w.heap.size)
  (hi:i<n) (hroom:cap<n+1):
  Calls prog 189 #[.slice (some ⟨g,0,none⟩) n cap,.int .i64 i,.slice (some ⟨vb,0,none⟩) 1 1] w (Jn w base (.slice (some ⟨g,0,none⟩) n cap) n (xs.take (i*8)++vs++xs.drop (i*8))):=by
 obtain ⟨hxl,h2⟩:=hown
 rcases h2 with ⟨hc,_⟩ | ⟨g',cap',cur,hc,hbg,hgb,hnc,hcm,hcs,htake⟩
 ·cases hc
 cases hc
 obtain ⟨i0,hi0,hz0,hzs,hzb⟩:=info_parts sh
 have hcell:∀j u,xs[j]? =some u->w.cell? ⟨g,j,none⟩=some u:=fun j u hj=>by
  exact ke4
 have hgw:g<w.heap.size:=(vO.1 hgb).1;have hvw:vb<w.heap.size:=block_lt_of_cell (hvs 0 _ (vN zo))
 have hsz:(prog.info? 284).map (·.size)=some 8:=by rw [hi0];simp [hzs]
 have htl:(xs.take (i*8)).length=i*8:=by rw [ug,hxl];omega
 have hdl:(xs.drop (i*8)).length=n*8 - i*8:=qH
 have hold:(Builtin.firstCells i0.size i (.slice (some ⟨g,0,none⟩) i cap)).run prog w.drew= .ok (xs.take (i*8)).toArray w.drew:=by
  rw [hzs]
  exact run_firstCells_some w.drew 8 i ⟨g,0,none⟩ i cap (xs.take (i*8)) htl (fun j u hj=>by
   rw [Addr.add_lit,vY]
   rw [Zq] at hj
   split at hj
   ·exact hcell j u hj
   ·cases hj)
 have hik:i+(n+1 - i)=n+1:=zo;have hkk:(n:Int)+1 - (i:Int)=((n+1 - i:Nat):Int):=zo;obtain ⟨Z,hZ⟩:=zc ((Value.agg #[.int .i64 0,.int .i64 0,.int .i64 0,.int .i64 0,.string ⟨#[]⟩,.int .i64 0,.int .i64 0,.string ⟨#[]⟩]).cells)
 have hZs:Z.size=8:=by rw [hZ];rfl
 obtain ⟨G,hG⟩:=zc (grownCap w (n+1) cap 284)
 have hGn:n+1<=G:=by rw [hG];exact grownCap_ge w _ _ _
 have hGm:G<=maxLen:=by rw [hG];exact grownCap_le_maxLen w (n+1) cap 284 (by unfold maxLen;omega)
 obtain ⟨ROW,hROW⟩:∃ROW:Array Value,ROW=(xs.take (i*8)).toArray++Builtin.zeroCells Z (n+1 - i)++Builtin.zeroCells Z (G - (n+1)):=⟨_,rfl⟩
 have hrz:∀ty,(Builtin.append_ #[185,3] ty #[.slice (some ⟨g,0,none⟩) i cap,.int .i64 ((n:Int)+1 - (i:Int))]).run prog w= .ok (.slice (some ⟨w.heap.size,0,none⟩) (n+1) G) (w.drew.alloc (.cells ROW 284)):=fun ty=>by
  have h:=Lib.run_append_grow_zeros w 185 3 ty 284 i0 _ .i64 .i64 underlying185 underlying3 hi0 hz0 (some ⟨g,0,none⟩) i cap (xs.take (i*8)) hold (n+1 - i) zo zo zo zo (by rw [hzb];omega) ja;rw [hik,<-hG,<-hZ,<-hROW] at h;rw [hkk];exact h
 have hRs:ROW.size=G*8:=by
  exact kp5
 have hRl:∃Y,ROW.toList=xs.take (i*8)++Y:=⟨(Builtin.zeroCells Z (n+1 - i)++Builtin.zeroCells Z (G - (n+1))).toList,by rw [hROW];simp⟩
 obtain ⟨W1,hW1⟩:=zc (w.drew.alloc (.cells ROW 284));rw [<-hW1] at hrz
 have hN:∀j,j<(n+1)*8->(W1.cell? ⟨w.heap.size,j,none⟩).isSome=true:=fun j hj=>by
  exact kn9
 have hNf:∀j,W1.frozen? ⟨w.heap.size,j,none⟩=false:=fun j=>by rw [hW1];exact World.frozen?_alloc_at (w:=w.drew) ROW _ w.heap.size j rfl
 have hOb:∀j u,w.cell? ⟨g,j,none⟩=some u->W1.cell? ⟨g,j,none⟩=some u:=fun j u h=>by rw [hW1,Yf (w:=w.drew) _ g j hgw];exact h
 have hOv:∀j u,w.cell? ⟨vb,j,none⟩=some u->W1.cell? ⟨vb,j,none⟩=some u:=fun j u h=>by rw [hW1,Yf (w:=w.drew) _ vb j hvw];exact h
 have hcpA:∀(W:World),(∀x,W.cell? x=W1.cell? x)->(∀x,W.frozen? x=W1.frozen? x)->∀ty dc,(Builtin.copy_ #[185,185] ty #[.slice (some ⟨w.heap.size,i*8,none⟩) (n+1 - i) dc,.slice (some ⟨vb,0,none⟩) 1 1]).run prog W= .ok (goInt 1) (W.setCells w.heap.size (i*8) vs):=fun W hWc hWf ty dc=>by
  have hmin:Nat.min 1 (n+1 - i)=1:=yq
  have:=cC (P:=prog) W 185 185 ty 284 8 w.heap.size (i*8) (n+1 - i) dc ⟨vb,0,none⟩ 1 1 vs underlying185 hsz jz
   (fun j u hj=>xF)
   (fun j hj=>by rw [hWc];exact hN _ zo) (fun j _=>by rw [hWf];exact hNf _) h1v
  exact kk8
 have hgN:g≠w.heap.size:=zo
 have hcpB:∀(W:World),(∀x,W.cell? x=(W1.setCells w.heap.size (i*8) vs).cell? x)->(∀x,W.frozen? x=(W1.setCells w.heap.size (i*8) vs).frozen? x)->∀ty dc sc,(Builtin.copy_ #[185,185] ty #[.slice (some ⟨w.heap.size,(i+1)*8,none⟩) (n - i) dc,.slice (some ⟨g,i*8,none⟩) (n - i) sc]).run prog W= .ok (goInt ((n - i:Nat):Int)) (W.setCells w.heap.size ((i+1)*8) (xs.drop (i*8))):=fun W hWc hWf ty dc sc=>by
  have hmin:Nat.min (n - i) (n - i)=n - i:=by simp [Nat.min_def]
  have:=cC (P:=prog) W 185 185 ty 284 8 w.heap.size ((i+1)*8) (n - i) dc ⟨g,i*8,none⟩ (n - i) sc (xs.drop (i*8)) underlying185 hsz xq
   (fun j u hj=>by
    rw [Addr.add_lit,hWc,ZD _ _ _ _ _ (fun h _=>absurd h hgN)]
    exact hOb _ u (hcell _ u (by rwa [uV] at hj)))
   (fun j hj=>by rw [hWc];exact isSome_setCells w.heap.size vs (i*8) W1 (fun t ht=>hN _ zo) _ (hN _ xa))
   (fun j _=>by rw [hWf,ZF];exact hNf _) (fun u hu=>h1x u (Zr hu))
  exact kk8
 have hL:Aside (∀W:World,W.heap=W1.heap->W.os=w.os->W.tape=w.tape->W.output=w.output->Jn w base (.slice (some ⟨g,0,none⟩) n cap) n (xs.take (i*8)++vs++xs.drop (i*8)) (.returned (.slice (some ⟨w.heap.size,0,none⟩) (n+1) G)) ((W.setCells w.heap.size (i*8) vs).setCells w.heap.size ((i+1)*8) (xs.drop (i*8)))):=by
  intro W h0 h2 h3 h4;have hgW:W.heap[w.heap.size]? =some (.cells ROW 284 (0,0)):=jT;obtain ⟨Y,hY⟩:=hRl;have k1:=(aZ w.heap.size vs (i*8) W).trans (aZ w.heap.size (xs.drop (i*8)) ((i+1)*8) _);exact kf1
 have hG63:G<=9223372036854775807:=by unfold maxLen at hGm;omega
 have hGi:¬(G=i):=zo;have hGim:¬(G=i+1):=zo;have hci:¬(cap=i):=zo;have hw1:IntKind.i64.wrap ((i:Int)+1)=(i:Int)+1:=zB;have hw2:IntKind.i64.wrap ((n:Int)+1)=(n:Int)+1:=zB;have hw3:IntKind.i64.wrap ((n:Int)+1 - (i:Int))=(n:Int)+1 - (i:Int):=zB;have hb1:(0:Int)<=(i:Int)+1:=zo;have hz2:¬((i:Int)=(n:Int)):=zo;have hin:i<=n:=zo;have hin2:i<=cap:=zo;have htn:((i:Int)+1).toNat=i+1:=zo;have hb5:((cap:Int)<(n:Int)+1):=zo;have hb6:¬((n:Int)+1<=(cap:Int)):=zo
 have hE1:∀x,((w.alloc (.cells ROW 284)).drew).cell? x=(w.drew.alloc (.cells ROW 284)).cell? x:=fun x=>rfl
 have hE2:∀x,((w.alloc (.cells ROW 284)).drew).frozen? x=(w.drew.alloc (.cells ROW 284)).frozen? x:=fun x=>rfl
 subst hW1
 have hF1:∀x,(((w.alloc (.cells ROW 284)).drew.setCells w.heap.size (i*8) vs).drew).cell? x=((w.drew.alloc (.cells ROW 284)).setCells w.heap.size (i*8) vs).cell? x:=fun x=>rfl
 have hF2:∀x,(((w.alloc (.cells ROW 284)).drew.setCells w.heap.size (i*8) vs).drew).frozen? x=((w.drew.alloc (.cells ROW 284)).setCells w.heap.size (i*8) vs).frozen? x:=fun x=>rfl
 clear htake hcs hgb hcell hcm hxl hdl htl hvs h1v h1x hbg hold hROW hG hRs hRl hN hNf hOb hOv hik hkk hGm hZ hZs hgw hvw;go_enter func189,ntmps189
 go_wp2_with (first
  | (at_builtin;refine Lib.wpList_append_run _ rfl _ _ _ _ rfl _ _ rfl rfl _ _ (hrz _) ?_)
  | (at_builtin;refine wpList_copy_runI _ rfl _ _ 185 185 rfl _ _ rfl rfl (hcpA _ hE1 hE2 _ _) ?_))
 have mixed:prog.follows .mixedOrders=true:=zq;go_region_law_o (refine step_copy_runI rfl _ _ 185 185 rfl (.slice (some ⟨w.heap.size,(i+1)*8,none⟩) (n - i) (G - (i+1))) (.slice (some ⟨g,i*8,none⟩) (n - i) (cap - i)) yA yA (hcpB _ hF1 hF2 3 (G - (i+1)) (cap - i)) ?_);clear mixed;go_wp2;go_ret;rw [drew_setCells];exact hL.o ((w.alloc (.cells ROW 284)).drew.drew) rfl rfl rfl rfl
theorem Aj (w:World) (base n i:Nat) (v:Value) (xs vs:List Value) (hown:w.ownsRow base 284 8 v n xs) (hn:n<=1000) (vb:Nat) (hv:vs.length=8)
  (hvs:∀j u,vs[j]? =some u->w.cell? ⟨vb,j,none⟩=some u) (h1v:∀u∈vs,u.oneCell'=true) (h1x:∀u∈xs,u.oneCell'=true) (hvb:some vb≠v.ownBlock) (hsa:w.shape? vb=some (284,8)) (hfa:∀j,w.frozen? ⟨vb,j,none⟩=false) (hbase:base<=w.heap.size) (hi:i<=n):
  Calls prog 189 #[v,.int .i64 i,.slice (some ⟨vb,0,none⟩) 1 1] w (Jn w base v n (xs.take (i*8)++vs++xs.drop (i*8))):=by
 by_cases he:i=n
 ·subst he;have e1:xs.take (i*8)=xs:=uc xG;have e2:xs.drop (i*8)= []:=Zk xG;rw [e1,e2,Zi];exact An w base v i xs vs hown hn vb hv hvs h1v hbase
 have hown':=hown
 rcases hown.2 with ⟨rfl,rfl⟩ | ⟨g,cap,cur,rfl,-⟩
 ·omega
 by_cases hroom:n+1<=cap
 ·exact sY w base g n cap i xs vs hown hn vb hv hvs h1v h1x (fun e=>hvb vg) hsa hfa zo hroom
 exact sH w base g n cap i xs vs hown hn vb hv hvs h1v h1x hbase zo zo
end
section
open Go.RowKit Go.Maps
open scoped Classical
structure TreeAt (base:Nat) (w:World) (bt bm:Nat) (v:Value) (ms:List Mov):Prop where
 cell:TreeCell w bt bm v
 row:∃L,LogTo ms ms.length L/\w.ownsRow base 284 8 v ms.length (aA gG L)
 map:∃n,n<=300*ms.length/\MapAt prog 3 w bm n (aN ms)
 by_:ax ms
 fine:∀m∈ms,FineP m.2
theorem TreeAt.good {base:Nat} (h:TreeAt base w bt bm v ms):gr (aN ms):=fq h.fine
theorem TreeAt.lt {base:Nat} {w:World} {bt bm:Nat} {v:Value} {ms:List Mov} (h:TreeAt base w bt bm v ms):bt<w.heap.size/\bm<w.heap.size/\∀g,v.ownBlock=some g->g<w.heap.size:=by
 obtain ⟨n,_,hM⟩:=h.map;obtain ⟨L,_,hR⟩:=h.row;exact ⟨h.cell.lt,hM.lt,fun g hg=>(hR.lt g hg).2⟩
theorem cY {base:Nat} {e:TypeId} (h:w.ownsRow base e k v n xs) (hs:∀g,v.ownBlock=some g->w'.heap[g]? =w.heap[g]?):w'.ownsRow base e k v n xs:=by
 refine ⟨h.1,?_⟩
 rcases h.2 with h0 | ⟨g,cap,cur,rfl,h1,hg,h2⟩
 ·exact .inl h0
 exact ko6
theorem TreeAt.same {base:Nat} {w w':World} {bt bm:Nat} {v:Value} {ms:List Mov} (h:TreeAt base w bt bm v ms) (h1:w'.heap[bt]? =w.heap[bt]?) (h2:w'.heap[bm]? =w.heap[bm]?) (h3:∀g,v.ownBlock=some g->w'.heap[g]? =w.heap[g]?):TreeAt base w' bt bm v ms:=by
 obtain ⟨n,hn,hM⟩:=h.map;obtain ⟨L,hL,hR⟩:=h.row;exact ⟨h1.trans h.cell,⟨L,hL,cY hR h3⟩,⟨n,hn,hM.same h2⟩,h.by_,h.fine⟩
theorem TreeAt.later {base:Nat} (h:TreeAt base w bt bm v ms) (hb:Below w.heap.size w w'):TreeAt base w' bt bm v ms:=
 h.same (hb.block _ h.lt.1) (hb.block _ h.lt.2.1) (fun g hg=>hb.block g (h.lt.2.2 g hg))
theorem rr {t b n:Int} {node other:Int} {name value:ByteArray} (h:opE t b n 109 node other name.data.toList value.data.toList=0):FineP (node,other,name):=by
 have h0:=aq h;unfold opE at h;rw [if_pos ⟨h0.1,h0.2.1,h0.2.2.1,h0.2.2.2.1,h0.2.2.2.2.1,h0.2.2.2.2.2.1⟩] at h;unfold fi at h;rw [if_pos rfl] at h;unfold bF at h;split at h
 ·cases h
 rename_i hc;have hl:name.data.toList.length=name.size:=zv;obtain ⟨_,_,_,_,_,_,_,_,_,_,_,_,h12,_⟩:=h0;refine ⟨?_,?_,?_,?_,?_,?_⟩<;>dsimp only<;>omega
def Hg:Prop:=∀(w:World) (base bt bm n at_:Nat) (v:Value) (ms:List Mov) (L:List Ent),TreeCell w bt bm v->LogTo ms ms.length L->w.ownsRow base 284 8 v ms.length (aA gG L)->MapAt prog 3 w bm n (aN ms)->(∀m∈ms,FineP m.2)->at_<=ms.length->ms.length<=1000->n<=1000000->
  Calls prog 188 #[.pointer (some ⟨bt,0,none⟩),.int .i64 (at_:Int)] w fun e w'=>(∃u,e= .returned u)/\MapAt prog 3 w' bm (n+(ms.length - at_)) (aN (ms.take at_))/\Keeps (fun k=>k=bm) w w'
