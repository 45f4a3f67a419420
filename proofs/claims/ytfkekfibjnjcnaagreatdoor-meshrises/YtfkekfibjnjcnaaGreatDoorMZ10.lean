import Derived.Test.YtfkekfibjnjcnaaGreatDoorMZ06
import Derived.Test.YtfkekfibjnjcnaaGreatDoorMZ07
import Derived.Test.YtfkekfibjnjcnaaGreatDoorMZ08
import Derived.Sort.MapsRangeIn
set_option linter.unusedSimpArgs false
set_option linter.unusedVariables false
set_option maxRecDepth 100000
set_option maxHeartbeats 64000000
namespace Go.Proofs.YtfkekfibjnjcnaaGreatDoor
open Go.Proofs.Tryz
variable {D:DataW Unit} {x:Int} {L:List Ent} {ms:List Mov} {ps qs:List Plc} {xs:List Value} {bm bt cap g k n:Nat} {f:Sta} {v:Value} {w w':World}
section
open Go.RowKit Go.Maps
open scoped Classical
def headE (x:Ent):List Value:=[.int .i64 x.1.1.1,.int .i64 x.1.1.2,.int .i64 x.1.2.1,.int .i64 x.1.2.2.1,.string x.1.2.2.2]
theorem encE_split (m:Mov) (fr:Plc):encE (m,fr)=headE (m,fr)++cellsP fr:=rfl
theorem row_split {i:Nat} {x:Ent} (hx:L[i]? =some x) (fr:Plc):∃A C,A.length=i*8+5/\flat encE L=A++cellsP x.2++C/\flat encE (L.set i (x.1,fr))=A++cellsP fr++C:=by
 obtain ⟨hl,he⟩:=vi.1 hx
 have h1:=flat_set (enc:=encE) (k:=8) encE_len L i hl (x.1,fr)
 have h2:=flat_set (enc:=encE) (k:=8) encE_len L i hl (x.1,x.2)
 have hs:L.set i (x.1,x.2)=L:=by
  rw [show ((x.1,x.2):Ent)=x from rfl,<-he]
  exact List.set_getElem_self hl
 rw [hs] at h2
 refine ⟨(flat encE L).take (i*8)++headE x,(flat encE L).drop ((i+1)*8),?_,?_,?_⟩
 ·rw [vw,vP,flat_len encE_len]
  have:(headE x).length=5:=rfl
  omega
 ·conv=>lhs;rw [h2]
  rw [encE_split]
  simp only [vR]
 rw [h1,encE_split]
 simp only [vR]
 rfl
theorem three_set {base o:Nat} {A C:List Value} {q:Plc} (p:Plc) (h:w.ownsRow base 261 8 (.slice (some ⟨g,0,none⟩) n cap) n (A++cellsP q++C)) (ho:A.length=o):
  (((w.setCell ⟨g,o,none⟩ (.int .i64 p.1)).setCell ⟨g,o+1,none⟩ (.int .i64 p.2.1)).setCell ⟨g,o+2,none⟩ (.string p.2.2)).ownsRow base 261 8 (.slice (some ⟨g,0,none⟩) n cap) n (A++cellsP p++C):=by
 subst ho
 exact owns_over (vs:=cellsP p) h rfl
theorem three_keeps (w:World) (g o1 o2 o3:Nat) (v1 v2 v3:Value):Keeps (fun k=>k=g) w (((w.setCell ⟨g,o1,none⟩ v1).setCell ⟨g,o2,none⟩ v2).setCell ⟨g,o3,none⟩ v3):=
 ((setCells_keeps g [v1] o1 w).trans (setCells_keeps g [v2] o2 _)).trans (setCells_keeps g [v3] o3 _)
def TreeCell (w:World) (bt bm:Nat) (v:Value):Prop:=w.heap[bt]? =some (.cells #[.map (some bm),v] 135 (0,0))
theorem TreeCell.c0 (h:TreeCell w bt bm v):w.cell? ⟨bt,0,none⟩=some (.map (some bm)):=jV
theorem TreeCell.c1 (h:TreeCell w bt bm v):w.cell? ⟨bt,1,none⟩=some v:=jV
theorem TreeCell.fz (h:TreeCell w bt bm v) (o:Nat):w.frozen? ⟨bt,o,none⟩=false:=by unfold TreeCell at h;simp [World.frozen?,h]
theorem TreeCell.lt (h:TreeCell w bt bm v):bt<w.heap.size:=(vn.1 h).1
theorem TreeCell.ne_map (h:TreeCell w bt bm v) (hM:MapAt prog 3 w bm n f):bt≠bm:=by
 intro e
 obtain ⟨es,ck,hb⟩:=hM.block
 unfold TreeCell at h
 rw [e,hb] at h
 cases h
theorem row_block {base:Nat} (h:w.ownsRow base 261 8 (.slice (some ⟨g,0,none⟩) n cap) k xs):∃cur,w.heap[g]? =some (.cells cur 261 (0,0)):=by
 rcases h.2 with ⟨hc,_⟩ | ⟨g',cap',cur,hc,_,hg,_⟩
 ·cases hc
 cases hc;exact ⟨cur,hg⟩
theorem row_ne_map {base nn:Nat} (h:w.ownsRow base 261 8 (.slice (some ⟨g,0,none⟩) n cap) k xs) (hM:MapAt prog 3 w bm nn f):g≠bm:=by
 intro e
 obtain ⟨cur,hc⟩:=row_block h
 obtain ⟨es,ck,hb⟩:=hM.block
 rw [e,hb] at hc
 cases hc
theorem row_ne_tree {base:Nat} (h:w.ownsRow base 261 8 (.slice (some ⟨g,0,none⟩) n cap) k xs) (hT:TreeCell w bt bm v):g≠bt:=by
 intro e
 obtain ⟨cur,hc⟩:=row_block h
 unfold TreeCell at hT
 rw [e,hT] at hc
 simp at hc
theorem row_at {base:Nat} (h:w.ownsRow base 261 8 (.slice (some ⟨g,0,none⟩) n cap) n (flat encE L)):RowAt w g 0 L:=fun j u hj=>by
 have:=h.cells (g:=g) rfl j u hj
 rw [Addr.add_lit] at this
 exact this
theorem row_fz {base:Nat} (h:w.ownsRow base 261 8 (.slice (some ⟨g,0,none⟩) n cap) k xs) (j:Nat):w.frozen? ⟨g,j,none⟩=false:=by
 obtain ⟨cur,hc⟩:=row_block h
 simp [World.frozen?,hc]
theorem row_same {base:Nat} (h:w.ownsRow base 261 8 (.slice (some ⟨g,0,none⟩) n cap) k xs) (e:w'.heap[g]? =w.heap[g]?):w'.ownsRow base 261 8 (.slice (some ⟨g,0,none⟩) n cap) k xs:=by
 refine ⟨h.1,?_⟩
 rcases h.2 with ⟨hc,_⟩ | ⟨g',cap',cur,hc,h1,hg,h2⟩
 ·cases hc
 cases hc;exact .inr ⟨g,cap,cur,rfl,h1,e.trans hg,h2⟩
theorem do_any (w:World) (bt bm base g cap at_ n:Nat) (L:List Ent) (ms:List Mov) (hT:TreeCell w bt bm (.slice (some ⟨g,0,none⟩) ms.length cap)) (hown:w.ownsRow base 261 8 (.slice (some ⟨g,0,none⟩) ms.length cap) ms.length (flat encE L)) (hL:LogTo ms at_ L)
  (hM:MapAt prog 3 w bm n (madeBy (ms.take at_))) (hfine:∀m∈ms,FineP m.2) (hat:at_<=ms.length) (hlen:ms.length<=1000) (hn:n<=1000000):
  Calls prog 187 #[.pointer (some ⟨bt,0,none⟩),.int .i64 (at_:Int)] w fun e w'=>(∃u,e= .returned u)/\∃L' n',LogTo ms ms.length L'/\w'.ownsRow base 261 8 (.slice (some ⟨g,0,none⟩) ms.length cap) ms.length (flat encE L')/\MapAt prog 3 w' bm n' (madeBy ms)/\n'<=n+ms.length/\Keeps (fun k=>k=bm\/k=g) w w':=by
 have htm:=hT.ne_map hM
 have hgm:=row_ne_map hown hM
 have hgt:=row_ne_tree hown hT
 have hbt:=hT.lt
 have hgw:g<w.heap.size:=(vn.1 (row_block hown).choose_spec).1
 have hbm:=hM.lt
 go_enter func187,ntmps187
 go_wp2
 go_loopg [4] (ms.length - at_) (fun kx s4 wr=>∃(i:Nat) (L:List Ent) (n':Nat),s4= .int .i64 (i:Int)/\i<=ms.length/\ms.length - i<=kx/\LogTo ms i L/\wr.ownsRow base 261 8 (.slice (some ⟨g,0,none⟩) ms.length cap) ms.length (flat encE L)/\MapAt prog 3 wr bm n' (madeBy (ms.take i))/\n'<=n+i/\Keeps (fun k=>k=bm\/k=g) w wr)
 case atStart=>exact ⟨at_,L,n,rfl,hat,vm _,hL,hown,hM,Nat.le_add_right _ _,Keeps.refl _ _⟩
 case round=>
  obtain ⟨i,L,n',rfl,hi,hkx,hL,hown,hM,hn',hk⟩:=hrel
  have hT1:TreeCell wr bt bm (.slice (some ⟨g,0,none⟩) ms.length cap):=(hk.block bt hbt zj).trans ‹TreeCell w bt bm _›
  have t0:=hT1.c0
  have t1:=hT1.c1
  have hsz:=hk.size
  by_cases hlt:i<ms.length
  ·have hltz:decide ((i:Int)<(ms.length:Int))=true:=by simp;omega
   obtain ⟨x,hx⟩:∃x,L[i]? =some x:=⟨_,vj (by rw [hL.len];exact hlt)⟩
   have hmx:=hL.mov hx
   have hf:FineP x.1.2:=hfine _ (vx hmx)
   have hrow:=row_at hown
   have c2:wr.cell? ⟨g,i*8+2,none⟩=some (.int .i64 x.1.2.1):=by have:=hrow.at hx 2 (u:=.int .i64 x.1.2.1) rfl;rwa [vO] at this
   have c3:wr.cell? ⟨g,i*8+3,none⟩=some (.int .i64 x.1.2.2.1):=by have:=hrow.at hx 3 (u:=.int .i64 x.1.2.2.1) rfl;rwa [vO] at this
   have c4:wr.cell? ⟨g,i*8+4,none⟩=some (.string x.1.2.2.2):=by have:=hrow.at hx 4 (u:=.string x.1.2.2.2) rfl;rwa [vO] at this
   have ex:((i:Int)).toNat=i:=zj
   have px:(0:Int)<=(i:Int):=zj
   have bx:(i:Int)<(ms.length:Int):=zj
   have HH:Aside (LogTo ms i L/\wr.ownsRow base 261 8 (.slice (some ⟨g,0,none⟩) ms.length cap) ms.length (flat encE L)/\MapAt prog 3 wr bm n' (madeBy (ms.take i))/\Keeps (fun k=>k=bm\/k=g) w wr/\TreeCell wr bt bm (.slice (some ⟨g,0,none⟩) ms.length cap)/\RowAt wr g 0 L/\L[i]? =some x/\ms[i]? =some x.1):=⟨hL,hown,hM,hk,hT1,hrow,hx,hmx⟩
   clear hL hown hM hk hT1 hrow hx hmx
   go_wp2
   obtain ⟨w1,hw1⟩:=za (wr.alloc (.cells #[.int .i64 x.1.2.1,.int .i64 x.1.2.2.1,.string x.1.2.2.2] 98))
   have hp1:PlcAt w1 wr.heap.size x.1.2:=by rw [hw1];exact heap_alloc_new wr _
   have hold:∀k,k<wr.heap.size->w1.heap[k]? =wr.heap[k]? :=fun k hk=>by rw [hw1];exact vy wr _ k hk
   have hs1:w1.heap.size=wr.heap.size+1:=xI
   have hk1:Keeps (fun k=>k=bm\/k=g) w w1:=by rw [hw1];exact HH.o.2.2.2.1.alloc _
   have hown1:=row_same HH.o.2.1 (hold g zj)
   have hT1:TreeCell w1 bt bm (.slice (some ⟨g,0,none⟩) ms.length cap):=(hold bt zj).trans HH.o.2.2.2.2.1
   have hM1:=HH.o.2.2.1.same (hold bm zj)
   obtain ⟨b5,hb5⟩:=za wr.heap.size
   rw [<-hw1]
   rw [<-hb5] at hp1 hs1 |-
   have hg5:g<b5:=zj
   have hb5w:w.heap.size<=b5:=zj
   have hm5:bm<b5:=zj
   have ht5:bt<b5:=zj
   clear hw1 hold hb5 t0 t1 c2 c3 c4
   have hrow1:=row_at hown1
   have t0:=hT1.c0
   have t1:=hT1.c1
   have p0:=hp1.c0
   have p1:=hp1.c1
   have p2:=hp1.c2
   have hwn:Wf x.1.2.1:=(wf_fine hf).1
   have l0:=hM1.looks1 hwn
   have l1:=(show MapAt prog 3 w1.drew bm n' (madeBy (ms.take i)) from hM1).looks1 hwn
   unfold encP at l0 l1
   have c5:w1.cell? ⟨g,i*8+5,none⟩=some (.int .i64 x.2.1):=by have:=hrow1.at HH.o.2.2.2.2.2.2.1 5 (u:=.int .i64 x.2.1) rfl;rwa [vO] at this
   have c6:w1.cell? ⟨g,i*8+6,none⟩=some (.int .i64 x.2.2.1):=by have:=hrow1.at HH.o.2.2.2.2.2.2.1 6 (u:=.int .i64 x.2.2.1) rfl;rwa [vO] at this
   have c7:w1.cell? ⟨g,i*8+7,none⟩=some (.string x.2.2.2):=by have:=hrow1.at HH.o.2.2.2.2.2.2.1 7 (u:=.string x.2.2.2) rfl;rwa [vO] at this
   have z5:=row_fz hown1 (i*8+5)
   have z6:=row_fz hown1 (i*8+6)
   have z7:=row_fz hown1 (i*8+7)
   obtain ⟨fr,hfr⟩:=za ((madeBy (ms.take i) x.1.2.1).getD zeroP)
   rw [<-hfr] at l0 l1
   have H1:Aside (w1.ownsRow base 261 8 (.slice (some ⟨g,0,none⟩) ms.length cap) ms.length (flat encE L)/\MapAt prog 3 w1 bm n' (madeBy (ms.take i))/\Keeps (fun k=>k=bm\/k=g) w w1/\TreeCell w1 bt bm (.slice (some ⟨g,0,none⟩) ms.length cap)/\PlcAt w1 b5 x.1.2/\fr=fromAt ms i):=⟨hown1,hM1,hk1,hT1,hp1,by rw [hfr,fromAt_some HH.o.2.2.2.2.2.2.2]⟩
   clear hown1 hM1 hk1 hT1 hp1 hrow1 hfr
   go_region
   obtain ⟨w2,hw2⟩:=za ((((w1.setCell ⟨g,i*8+5,none⟩ (.int .i64 fr.1)).setCell ⟨g,i*8+5+1,none⟩ (.int .i64 fr.2.1)).setCell ⟨g,i*8+5+2,none⟩ (.string fr.2.2)).drew)
   rw [<-hw2]
   have hk12:Keeps (fun k=>k=g) w1 w2:=by rw [hw2];exact (three_keeps w1 g _ _ _ _ _ _).drew
   obtain ⟨A,C,hA,hf1,hf2⟩:=row_split HH.o.2.2.2.2.2.2.1 fr
   have hown2:w2.ownsRow base 261 8 (.slice (some ⟨g,0,none⟩) ms.length cap) ms.length (flat encE (L.set i (x.1,fr))):=by
    have:=H1.o.1
    rw [hf1] at this
    rw [hw2,hf2]
    exact three_set fr this hA
   have hM2:=H1.o.2.1.same (hk12.block bm zj zj)
   have hT2:TreeCell w2 bt bm (.slice (some ⟨g,0,none⟩) ms.length cap):=(hk12.block bt zj zj).trans H1.o.2.2.2.1
   have hp2:PlcAt w2 b5 x.1.2:=H1.o.2.2.2.2.1.same (hk12.block b5 zj zj)
   have hk2:Keeps (fun k=>k=bm\/k=g) w w2:=H1.o.2.2.1.then hk12 (fun _ _ e=>.inr e)
   have hs2:=hk12.size
   have hL2:LogTo ms (i+1) (L.set i (x.1,fr)):=by rw [H1.o.2.2.2.2.2];exact set_to HH.o.1 HH.o.2.2.2.2.2.2.1
   have hmade:=made_take HH.o.2.2.2.2.2.2.2
   have hgood:Good (madeBy (ms.take i)):=good_made (fun m hm=>hfine m (uz hm))
   have H2:Aside (w2.ownsRow base 261 8 (.slice (some ⟨g,0,none⟩) ms.length cap) ms.length (flat encE (L.set i (x.1,fr)))/\MapAt prog 3 w2 bm n' (madeBy (ms.take i))/\Keeps (fun k=>k=bm\/k=g) w w2/\TreeCell w2 bt bm (.slice (some ⟨g,0,none⟩) ms.length cap)/\PlcAt w2 b5 x.1.2/\LogTo ms (i+1) (L.set i (x.1,fr))/\madeBy (ms.take (i+1))=step (madeBy (ms.take i)) x.1/\w2.heap.size≥w1.heap.size):=⟨hown2,hM2,hk2,hT2,hp2,hL2,hmade,hs2⟩
   clear hw2 hk12 hA hf1 hf2 hown2 hM2 hT2 hk2 hL2 hmade t0 t1 p0 p1 p2 l0 l1 c5 c6 c7 z5 z6 z7 H1 HH
   have p0:=hp2.c0
   have p1:=hp2.c1
   have p2:=hp2.c2
   have t0:=H2.o.2.2.2.1.c0
   clear hp2
   by_cases he:x.1.2.1=x.1.2.2.1
   ·have d0:(x.1.2.1 !=x.1.2.2.1)=false:=by simp [he]
    have hidle:Idle (madeBy (ms.take i)) x.1.2:=.inl he
    have HI:Aside (madeBy (ms.take (i+1))=madeBy (ms.take i)):=H2.o.2.2.2.2.2.2.1.trans (step_idle hidle)
    clear he hidle
    go_wp2
    go_roundg (ms.length - (i+1))
    case measure=>omega
    case rel=>exact ⟨i+1,L.set i (x.1,fr),n',zL,zj,vm _,H2.o.2.2.2.2.2.1,H2.o.1,by rw [HI.o];exact H2.o.2.1,zj,H2.o.2.2.1⟩
   have d0:(x.1.2.1 !=x.1.2.2.1)=true:=by simp [he]
   have hwo:Wf x.1.2.2.1:=(wf_fine hf).2
   by_cases hin:Ins (madeBy (ms.take i)) x.1.2.2.1 x.1.2.1
   ·have hidle:Idle (madeBy (ms.take i)) x.1.2:=.inr hin
    have HI:Aside (madeBy (ms.take (i+1))=madeBy (ms.take i)):=H2.o.2.2.2.2.2.2.1.trans (step_idle hidle)
    have hcall:=inside_is w2 bt bm n' (madeBy (ms.take i)) x.1.2.2.1 x.1.2.1 true (by simp [hin]) t0 H2.o.2.1 hgood hwo
    clear he hidle hin hgood
    go_wp2_with (go_at_call 142;refine hcall.mono ?_;clear hcall;rintro e w3 ⟨rfl,hb3⟩)
    have hk3:Keeps (fun k=>k=bm\/k=g) w w3:=H2.o.2.2.1.then (keeps_of_below hb3) (fun i hi e=>by have:=H2.o.2.2.1.size;omega)
    have hown3:=row_same H2.o.1 (hb3.block g (by have:=H2.o.2.2.2.2.2.2.2;omega))
    have hM3:=H2.o.2.1.same (hb3.block bm (by have:=H2.o.2.2.2.2.2.2.2;omega))
    go_roundg (ms.length - (i+1))
    case measure=>omega
    case rel=>exact ⟨i+1,L.set i (x.1,fr),n',zL,zj,vm _,H2.o.2.2.2.2.2.1,hown3,by rw [HI.o];exact hM3,zj,hk3⟩
   have hidle:¬Idle (madeBy (ms.take i)) x.1.2:=fun h=>h.elim he hin
   have HI:Aside (madeBy (ms.take (i+1))=upd (madeBy (ms.take i)) x.1.2.1 (some x.1.2)):=H2.o.2.2.2.2.2.2.1.trans (step_goes hidle)
   have hcall:=inside_is w2 bt bm n' (madeBy (ms.take i)) x.1.2.2.1 x.1.2.1 false (by simp [hin]) t0 H2.o.2.1 hgood hwo
   clear he hidle hin hgood
   go_wp2_with (go_at_call 142;refine hcall.mono ?_;clear hcall;rintro e w3 ⟨rfl,hb3⟩)
   have hs3:=H2.o.2.2.2.2.2.2.2
   have hk3:Keeps (fun k=>k=bm\/k=g) w w3:=H2.o.2.2.1.then (keeps_of_below hb3) (fun i hi e=>by have:=H2.o.2.2.1.size;omega)
   have hown3:=row_same H2.o.1 (hb3.block g zj)
   have hM3:=H2.o.2.1.same (hb3.block bm zj)
   have hT3:TreeCell w3 bt bm (.slice (some ⟨g,0,none⟩) ms.length cap):=(hb3.block bt zj).trans H2.o.2.2.2.1
   have hp3:PlcAt w3 b5 x.1.2:=H2.o.2.2.2.2.1.same (hb3.block b5 zj)
   obtain ⟨w4,hrun,hM4,ht4⟩:=(show MapAt prog 3 w3.drew bm n' (madeBy (ms.take i)) from hM3).store (T:=132) (E:=98) underlying3 underlying132 zw hwn x.1.2
   unfold encP at hrun
   have hg4:=ht4.grown
   have hg4':w3.grownBy w4 (some bm):=⟨hg4.os,hg4.tape,hg4.output,hg4.size,hg4.block⟩
   have hk4:Keeps (fun k=>k=bm\/k=g) w w4:=hk3.then (keeps_of_grown hg4') (fun i _ e=>.inl yr)
   have hown4:=row_same hown3 (hg4'.block g (by have:=hb3.size;omega) (by simpa using hgm))
   have H4:Aside (Keeps (fun k=>k=bm\/k=g) w w4/\w4.ownsRow base 261 8 (.slice (some ⟨g,0,none⟩) ms.length cap) ms.length (flat encE (L.set i (x.1,fr)))/\MapAt prog 3 w4 bm (n'+1) (madeBy (ms.take (i+1)))):=⟨hk4,hown4,by rw [HI.o];exact hM4⟩
   have q0:=hp3.c0
   have q1:=hp3.c1
   have q2:=hp3.c2
   have u0:=hT3.c0
   clear p0 p1 p2 t0 hb3 hk3 hown3 hM3 hT3 hp3 hM4 ht4 hg4 hg4' hk4 hown4
   go_region
   all_goals go_wp2
   go_roundg (ms.length - (i+1))
   case measure=>omega
   case rel=>exact ⟨i+1,L.set i (x.1,fr),n'+1,zL,zj,vm _,H2.o.2.2.2.2.2.1,H4.o.2.1,H4.o.2.2,zj,H4.o.1⟩
  have hltz:decide ((i:Int)<(ms.length:Int))=false:=zl
  have hie:i=ms.length:=zj
  subst hie
  rw [uR] at hM
  go_wp2
  go_end0
  exact ⟨⟨_,rfl⟩,L,n',hL,hown,hM,hn',hk⟩
end
section
open Go.RowKit Go.Maps
open scoped Classical
structure TreeAt (base:Nat) (w:World) (bt bm:Nat) (v:Value) (ms:List Mov):Prop where
 cell:TreeCell w bt bm v
 row:∃L,LogTo ms ms.length L/\w.ownsRow base 261 8 v ms.length (flat encE L)
 map:∃n,n<=300*ms.length/\MapAt prog 3 w bm n (madeBy ms)
 by_:ByStamp ms
 fine:∀m∈ms,FineP m.2
theorem TreeAt.good {base:Nat} (h:TreeAt base w bt bm v ms):Good (madeBy ms):=good_made h.fine
theorem TreeAt.lt {base:Nat} {w:World} {bt bm:Nat} {v:Value} {ms:List Mov} (h:TreeAt base w bt bm v ms):bt<w.heap.size/\bm<w.heap.size/\∀g,v.ownBlock=some g->g<w.heap.size:=by
 obtain ⟨n,_,hM⟩:=h.map
 obtain ⟨L,_,hR⟩:=h.row
 exact ⟨h.cell.lt,hM.lt,fun g hg=>(hR.lt g hg).2⟩
theorem owns_same {base:Nat} {e:TypeId} (h:w.ownsRow base e k v n xs) (hs:∀g,v.ownBlock=some g->w'.heap[g]? =w.heap[g]?):w'.ownsRow base e k v n xs:=by
 refine ⟨h.1,?_⟩
 rcases h.2 with h0 | ⟨g,cap,cur,rfl,h1,hg,h2⟩
 ·exact .inl h0
 exact .inr ⟨g,cap,cur,rfl,h1,(hs g rfl).trans hg,h2⟩
theorem TreeAt.same {base:Nat} {w w':World} {bt bm:Nat} {v:Value} {ms:List Mov} (h:TreeAt base w bt bm v ms) (h1:w'.heap[bt]? =w.heap[bt]?) (h2:w'.heap[bm]? =w.heap[bm]?) (h3:∀g,v.ownBlock=some g->w'.heap[g]? =w.heap[g]?):TreeAt base w' bt bm v ms:=by
 obtain ⟨n,hn,hM⟩:=h.map
 obtain ⟨L,hL,hR⟩:=h.row
 exact ⟨h1.trans h.cell,⟨L,hL,owns_same hR h3⟩,⟨n,hn,hM.same h2⟩,h.by_,h.fine⟩
theorem TreeAt.later {base:Nat} (h:TreeAt base w bt bm v ms) (hb:Below w.heap.size w w'):TreeAt base w' bt bm v ms:=
 h.same (hb.block _ h.lt.1) (hb.block _ h.lt.2.1) (fun g hg=>hb.block g (h.lt.2.2 g hg))
theorem move_fine {t b n:Int} {node other:Int} {name value:ByteArray} (h:opE t b n 109 node other name.data.toList value.data.toList=0):FineP (node,other,name):=by
 have h0:=opE_zero h
 unfold opE at h
 rw [if_pos ⟨h0.1,h0.2.1,h0.2.2.1,h0.2.2.2.1,h0.2.2.2.2.1,h0.2.2.2.2.2.1⟩] at h
 unfold kindE at h
 rw [if_pos rfl] at h
 unfold moveE at h
 split at h
 ·cases h
 rename_i hc
 have hl:name.data.toList.length=name.size:=zm
 obtain ⟨_,_,_,_,_,_,_,_,_,_,_,_,h12,_⟩:=h0
 refine ⟨?_,?_,?_,?_,?_,?_⟩<;>dsimp only<;>omega
def UndoOk:Prop:=∀(w:World) (base bt bm n at_:Nat) (v:Value) (ms:List Mov) (L:List Ent),TreeCell w bt bm v->LogTo ms ms.length L->w.ownsRow base 261 8 v ms.length (flat encE L)->MapAt prog 3 w bm n (madeBy ms)->(∀m∈ms,FineP m.2)->at_<=ms.length->ms.length<=1000->n<=1000000->
  Calls prog 185 #[.pointer (some ⟨bt,0,none⟩),.int .i64 (at_:Int)] w fun e w'=>(∃u,e= .returned u)/\MapAt prog 3 w' bm (n+(ms.length - at_)) (madeBy (ms.take at_))/\Keeps (fun k=>k=bm) w w'
end
section
open Go.RowKit Go.Maps
open scoped Classical
theorem find_at (w:World) (base bt bm n:Nat) (v:Value) (ms:List Mov) (L:List Ent) (s:Int×Int) (hT:TreeCell w bt bm v) (hL:LogTo ms ms.length L) (hR:w.ownsRow base 261 8 v ms.length (flat encE L)) (hby:ByStamp ms) (hlen:ms.length<=1000) (_hM:MapAt prog 3 w bm n (madeBy ms)):
  Calls prog 184 #[.pointer (some ⟨bt,0,none⟩),.agg #[.int .i64 s.1,.int .i64 s.2]] w fun e w'=>(∃(i:Nat) (b:Bool),e= .returned (.tuple #[.int .i64 (i:Int),.bool b])/\Found ms s i b)/\Below w.heap.size w w':=by
 have hll:=hL.len
 rcases hR.2 with ⟨hv,h0⟩ | ⟨g,cap,cur,hv,_,hg,hnc,_⟩
 ·have hL0:L= []:=vM.1 zj
  subst hv
  exact find_any w bt bt 0 none L ms s hL.movs hby zj (by rw [hll,h0];exact hT.c1) (.inl hL0) hT.lt (fun j u hj=>by rw [hL0] at hj;simp [flat] at hj)
 subst hv
 exact find_any w bt g cap (some ⟨g,0,none⟩) L ms s hL.movs hby zj (by rw [hll];exact hT.c1) (.inr rfl) (vn.1 hg).1 (row_at hR)
theorem apply_core (hU:UndoOk) {ad:Nat->Addr} (w:World) (base bt bm:Nat) (v:Value) (ms:List Mov) (t b n node other:Int) (name value:ByteArray) (hE:Op4 ad w) (hT:TreeAt base w bt bm v ms) (hbase:base<=w.heap.size) (hlen:ms.length<=140)
  (hsn:name.size<=1000000) (hsv:value.size<=1000000) (hop:opE t b n 109 node other name.data.toList value.data.toList=0) (hnew:∀m∈ms,m.1≠(t,b)):
  Calls prog 133 #[.pointer (some ⟨bt,0,none⟩),.agg #[.int .i64 t,.int .i64 b,.int .i64 n,.int .u8 109,.int .i64 node,.int .i64 other,.string name,.string value]] w fun e w'=>e= .returned .nilIface/\∃v' ms',TreeAt base w' bt bm v' ms'/\ms'.Perm (((t,b),(node,other,name))::ms)/\Keeps (fun k=>k=bt\/k=bm\/some k=v.ownBlock) w w'/\(v'.ownBlock=v.ownBlock\/∀g,v'.ownBlock=some g->w.heap.size<=g):=by
 have hbx:∀o,Below w.heap.size w (w.alloc o):=fun o=>(vu _ w).alloc zg o
 obtain ⟨w1,hw1⟩:=za (w.alloc (.cells #[.int .i64 t,.int .i64 b,.int .i64 n,.int .u8 109,.int .i64 node,.int .i64 other,.string name,.string value] 41))
 have O1:OpAt w1 w.heap.size t b n 109 node other name value:=by rw [hw1];exact OpAt.new w t b n 109 node other name value 41
 have B1:Below w.heap.size w w1:=by rw [hw1];exact hbx _
 have hck:=opcheck_any t b n 109 node other name value w1 (hE.later B1) hsn hsv
 rw [hop] at hck
 have e0:eV ad 0= .nilIface:=rfl
 rw [e0] at hck
 have s1:w1.heap.size=w.heap.size+1:=xI
 have H1:Aside (OpAt w1 w.heap.size t b n 109 node other name value/\TreeAt base w1 bt bm v ms/\Below w.heap.size w w1):=⟨O1,hT.later B1,B1⟩
 have HT:Aside (TreeAt base w bt bm v ms):=hT
 clear hT B1 hE hbx e0
 go_enter func133,ntmps133
 go_wp2_with fail
 rw [<-hw1]
 clear hw1 O1
 refine hck.mono ?_
 clear hck
 rintro e w2 ⟨rfl,hb2⟩
 have H2:Aside (OpAt w2 w.heap.size t b n 109 node other name value/\TreeAt base w2 bt bm v ms/\Below w.heap.size w w2/\w.heap.size+1<=w2.heap.size):=⟨H1.o.1.later hb2,H1.o.2.1.later hb2,zi H1.o.2.2 hb2,by have:=hb2.size;omega⟩
 clear hb2 H1
 obtain ⟨c0,c1,c2,c3,c4,c5,c6,c7⟩:=H2.o.1
 have c3:w2.cell? ⟨w.heap.size,3,none⟩=some (.int .u8 109):=c3
 go_wp2_with fail
 obtain ⟨L,hL,hR⟩:=H2.o.2.1.row
 obtain ⟨nn,hnn,hM⟩:=H2.o.2.1.map
 refine (find_at w2 base bt bm nn v ms L (t,b) H2.o.2.1.cell hL hR H2.o.2.1.by_ zj hM).mono ?_
 rintro e w3 ⟨⟨i,bo,rfl,hF⟩,hb3⟩
 obtain ⟨rfl,hil,hF1,hF2⟩:=found_new hF hnew
 have H3:Aside (OpAt w3 w.heap.size t b n 109 node other name value/\TreeAt base w3 bt bm v ms/\Below w.heap.size w w3/\w.heap.size+1<=w3.heap.size/\(∀x∈ms.take i,SLt x.1 (t,b))/\(∀x∈ms.drop i,SLt (t,b) x.1)):=⟨H2.o.1.later hb3,H2.o.2.1.later hb3,zi H2.o.2.2.1 hb3,by have:=H2.o.2.2.2;have:=hb3.size;omega,hF1,hF2⟩
 clear hb3 H2 hF hF1 hF2 c0 c1 c2 c3 c4 c5 c6 c7 hM hR hL hnn
 clear L nn
 go_wp2_with fail
 obtain ⟨L,hL,hR⟩:=H3.o.2.1.row
 obtain ⟨nn,hnn,hM⟩:=H3.o.2.1.map
 refine (hU w3 base bt bm nn i v ms L H3.o.2.1.cell hL hR hM H3.o.2.1.fine hil zj zj).mono ?_
 rintro e w4 ⟨⟨u,rfl⟩,hM4,hk4⟩
 have hsz4:=hk4.size
 have htl:=H3.o.2.1.lt
 have htm:=H3.o.2.1.cell.ne_map hM
 have hbxm:w.heap.size≠bm:=by
  intro e
  obtain ⟨es,ck,hb⟩:=hM.block
  have:=H3.o.1.c0
  rw [e] at this
  simp [World.cell?,hb] at this
 have hT4:TreeCell w4 bt bm v:=(hk4.block bt htl.1 htm).trans H3.o.2.1.cell
 have hR4:w4.ownsRow base 261 8 v ms.length (flat encE L):=owns_same hR (fun g hg=>hk4.block g (htl.2.2 g hg) (by
  rcases hR.2 with ⟨hv,_⟩ | ⟨g',cap',cur,hv,_⟩
  ·rw [hv] at hg;cases hg
  ·subst hv;cases hg;exact row_ne_map hR hM))
 have hbB:w.heap.size<w3.heap.size:=by have:=H3.o.2.2.2.1;omega
 have hB4:w4.heap[w.heap.size]? =w3.heap[w.heap.size]? :=hk4.block _ hbB hbxm
 have O4:OpAt w4 w.heap.size t b n 109 node other name value:=by
  have h:=fun o=>vI (a:=⟨w.heap.size,o,none⟩) hB4
  exact ⟨(h 0).trans H3.o.1.c0,(h 1).trans H3.o.1.c1,(h 2).trans H3.o.1.c2,(h 3).trans H3.o.1.c3,(h 4).trans H3.o.1.c4,(h 5).trans H3.o.1.c5,(h 6).trans H3.o.1.c6,(h 7).trans H3.o.1.c7⟩
 have hK4:Keeps (fun k=>k=bt\/k=bm\/some k=v.ownBlock) w w4:=((keeps_of_below H3.o.2.2.1).mono (fun k hk e=>zj)).then hk4 (fun k _ e=>.inr (.inl e))
 obtain ⟨c0,c1,c2,c3,c4,c5,c6,c7⟩:=O4
 have c3:w4.cell? ⟨w.heap.size,3,none⟩=some (.int .u8 109):=c3
 have t1:=hT4.c1
 have z1:=hT4.fz 1
 go_wp2_with fail
 obtain ⟨B,hB⟩:=za w.heap.size
 rw [<-hB] at c0 c1 c2 c3 c4 c5 c6 c7 hbB hbxm |-
 have HB:Aside (B=w.heap.size):=hB
 clear hB
 have hbtg:∀g,v.ownBlock=some g->g≠bt/\g≠bm/\g<w4.heap.size:=fun g hg=>by
  rcases hR4.2 with ⟨hv,_⟩ | ⟨g',cap',cur,hv,_⟩
  ·rw [hv] at hg;cases hg
  subst hv;cases hg;exact ⟨row_ne_tree hR4 hT4,row_ne_map hR4 hM4,(hR4.lt _ rfl).2⟩
 have hxw:∀X:World,X=(w4.alloc (.cells #[.int .i64 t,.int .i64 b,.int .i64 node,.int .i64 other,.string name,.int .i64 0,.int .i64 0,.string ⟨#[]⟩] 261)).drew->Calls prog 186 #[v,.int .i64 (i:Int),.slice (some ⟨w4.heap.size,0,none⟩) 1 1] X
   fun e w'=>∃g' cap',e= .returned (.slice (some ⟨g',0,none⟩) (ms.length+1) cap')/\Aside (w'.ownsRow base 261 8 (.slice (some ⟨g',0,none⟩) (ms.length+1) cap') (ms.length+1) (flat encE (layIn L i (((t,b),(node,other,name)),zeroP)))/\Keeps (fun k=>some k=v.ownBlock) w4 w'/\(some g'=v.ownBlock\/w4.heap.size<=g'))/\w'.cell? ⟨bt,1,none⟩=some v/\w'.frozen? ⟨bt,1,none⟩=false/\(w'.cell? ⟨B,0,none⟩=some (.int .i64 t)/\w'.cell? ⟨B,1,none⟩=some (.int .i64 b)/\w'.cell? ⟨B,4,none⟩=some (.int .i64 node)/\w'.cell? ⟨B,5,none⟩=some (.int .i64 other)/\w'.cell? ⟨B,6,none⟩=some (.string name)/\w'.cell? ⟨bt,1,none⟩=some v):=by
  rintro X rfl
  obtain ⟨Y,hY⟩:=za ((w4.alloc (.cells #[.int .i64 t,.int .i64 b,.int .i64 node,.int .i64 other,.string name,.int .i64 0,.int .i64 0,.string ⟨#[]⟩] 261)).drew)
  have hnb:Y.heap[w4.heap.size]? =some (.cells #[.int .i64 t,.int .i64 b,.int .i64 node,.int .i64 other,.string name,.int .i64 0,.int .i64 0,.string ⟨#[]⟩] 261 (0,0)):=by rw [hY];exact heap_alloc_new w4 _
  have hYk:Keeps (fun _=>False) w4 Y:=by rw [hY];exact ((Keeps.refl _ w4).alloc _).drew
  have hYs:Y.heap.size=w4.heap.size+1:=by rw [hY];simp
  have hRY:=owns_same (w':=Y) hR4 (fun g hg=>hYk.block g (hbtg g hg).2.2 (fun e=>e))
  rw [<-hY]
  refine (layEnt_any Y base ms.length i v (flat encE L) (encE (((t,b),(node,other,name)),zeroP)) hRY zj w4.heap.size rfl (fun j u hj=> ?_) (encE_one _) (flat_one encE_one L) (fun e=>by have:=(hbtg _ e.symm).2.2;omega) ?_ (fun j=> ?_) (by have:=hK4.size;omega) hil).mono ?_
  ·simp only [World.cell?,hnb]
   rw [<-hj]
   simp [encE,zeroP]
  ·simp [World.shape?,hnb]
  ·simp [World.frozen?,hnb]
  rintro e w' ⟨v',rfl,ho,hk,hv'⟩
  obtain ⟨g',cap',rfl⟩:=ownsRow_succ ho
  have hkk:Keeps (fun k=>some k=v.ownBlock) w4 w':=(hYk.mono (fun _ _ e=>e.elim)).trans hk
  have hTb:=hkk.block bt zj (fun e=>(hbtg bt e.symm).1 rfl)
  have hT5:TreeCell w' bt bm v:=hTb.trans hT4
  rw [<-flat_lay encE_len L i (by rw [hL.len];exact hil)] at ho
  have hBb:=hkk.block B zj (fun e=>by have:=HT.o.lt.2.2 B e.symm;have:=HB.o;omega)
  have hBc:=fun o=>vI (a:=⟨B,o,none⟩) hBb
  refine ⟨g',cap',rfl,⟨ho,hkk,?_⟩,hT5.c1,hT5.fz 1,(hBc 0).trans c0,(hBc 1).trans c1,(hBc 4).trans c4,(hBc 5).trans c5,(hBc 6).trans c6,hT5.c1⟩
  rcases hv' with e | e
  ·exact .inl e
  right
  have:g'=Y.heap.size:=by simpa [Value.ownBlock] using e
  omega
 have t1a:∀o,(w4.alloc o).cell? ⟨bt,1,none⟩=some v:=fun o=>(vI (a:=⟨bt,1,none⟩) (vy w4 o bt hT4.lt)).trans t1
 have hbtB:bt≠B:=by have:=HT.o.lt.1;have:=HB.o;omega
 have hBbt:B≠bt:=fun e=>hbtB e.symm
 have hBl:B<w4.heap.size:=zj
 have hBn:B≠w4.heap.size:=zj
 have hBm:w4.heap.size≠B:=zj
 have htn:bt≠w4.heap.size:=by have:=hT4.lt;omega
 have htn':w4.heap.size≠bt:=by have:=hT4.lt;omega
 refine wp_region_Z (S:=(fun w'=>w'.cell? ⟨B,0,none⟩=some (.int .i64 t)/\w'.cell? ⟨B,1,none⟩=some (.int .i64 b)/\w'.cell? ⟨B,4,none⟩=some (.int .i64 node)/\w'.cell? ⟨B,5,none⟩=some (.int .i64 other)/\w'.cell? ⟨B,6,none⟩=some (.string name)/\w'.cell? ⟨bt,1,none⟩=some v)) (z:=20) zk ⟨c0,c1,c4,c5,c6,t1⟩ (fun hHeld=> ?_)
 refine wpAnyZ_free (i:=0) (v:= ?v0) zt rfl zk zk zk (fun _ _ _ h=>h) (Or.inl ⟨zu,?hy0⟩) hHeld ?rest0
 case hy0=>(intro w' _;go_simp;try with_reducible rfl)
 simp only [Act.put,vB,vK,vL]
 refine wpAnyZ_free (i:=1) (v:= ?v1) zt rfl zk zk zk (fun _ _ _ h=>h) (Or.inl ⟨zu,?hy1⟩) hHeld ?rest1
 case hy1=>(intro w' _;go_simp;try with_reducible rfl)
 simp only [Act.put,vB,vK,vL]
 refine wpAnyZ_free (i:=2) (v:= ?v2) zt rfl zk zk zk (fun _ _ _ h=>h) (Or.inl ⟨zu,?hy2⟩) hHeld ?rest2
 case hy2=>(intro w' _;go_simp;try with_reducible rfl)
 simp only [Act.put,vB,vK,vL]
 refine wpAnyZ_free (i:=3) (v:= ?v3) zt rfl zk zk zk (fun _ _ _ h=>h) (Or.inl ⟨zu,?hy3⟩) hHeld ?rest3
 case hy3=>(intro w' _;go_simp;try with_reducible rfl)
 simp only [Act.put,vB,vK,vL]
 refine wpAnyZ_take (i:=4) (v:= ?v4) zt zk rfl zk zk zk zk (fun _ _ _ h=>h) (Or.inl ⟨zu,?hy4⟩) hHeld ?rest4
 case hy4=>(intro w' hSw;obtain ⟨k0,k1,k4,k5,k6,k7⟩:=hSw;go_simp;try with_reducible rfl)
 simp only [Act.put,vB,vK,vL]
 refine wpAnyZ_free (i:=5) (v:= ?v5) zt rfl zk zk zk (fun _ _ _ h=>h) (Or.inl ⟨zu,?hy5⟩) hHeld ?rest5
 case hy5=>(intro w' _;go_simp;try with_reducible rfl)
 simp only [Act.put,vB,vK,vL]
 refine wpAnyZ_free (i:=6) (v:= ?v6) zt rfl zk zk zk (fun _ _ _ h=>h) (Or.inl ⟨zu,?hy6⟩) hHeld ?rest6
 case hy6=>(intro w' _;go_simp;try with_reducible rfl)
 simp only [Act.put,vB,vK,vL]
 refine wpAnyZ_take (i:=7) (v:= ?v7) zt zk rfl zk zk zk zk (fun _ _ _ h=>h) (Or.inl ⟨zu,?hy7⟩) hHeld ?rest7
 case hy7=>(intro w' hSw;obtain ⟨k0,k1,k4,k5,k6,k7⟩:=hSw;go_simp;try with_reducible rfl)
 simp only [Act.put,vB,vK,vL]
 refine wpAnyZ_free (i:=8) (v:= ?v8) zt rfl zk zk zk (fun _ _ _ h=>h) (Or.inl ⟨zu,?hy8⟩) hHeld ?rest8
 case hy8=>(intro w' _;go_simp;try with_reducible rfl)
 simp only [Act.put,vB,vK,vL]
 refine wpAnyZ_take (i:=9) (v:= ?v9) zt zk rfl zk zk zk zk (fun _ _ _ h=>h) (Or.inl ⟨zu,?hy9⟩) hHeld ?rest9
 case hy9=>(intro w' hSw;obtain ⟨k0,k1,k4,k5,k6,k7⟩:=hSw;go_simp;try with_reducible rfl)
 simp only [Act.put,vB,vK,vL]
 refine wpAnyZ_free (i:=10) (v:= ?v10) zt rfl zk zk zk (fun _ _ _ h=>h) (Or.inl ⟨zu,?hy10⟩) hHeld ?rest10
 case hy10=>(intro w' _;go_simp;try with_reducible rfl)
 simp only [Act.put,vB,vK,vL]
 refine wpAnyZ_take (i:=11) (v:= ?v11) zt zk rfl zk zk zk zk (fun _ _ _ h=>h) (Or.inl ⟨zu,?hy11⟩) hHeld ?rest11
 case hy11=>(intro w' hSw;obtain ⟨k0,k1,k4,k5,k6,k7⟩:=hSw;go_simp;try with_reducible rfl)
 simp only [Act.put,vB,vK,vL]
 refine wpAnyZ_free (i:=12) (v:= ?v12) zt rfl zk zk zk (fun _ _ _ h=>h) (Or.inl ⟨zu,?hy12⟩) hHeld ?rest12
 case hy12=>(intro w' _;go_simp;try with_reducible rfl)
 simp only [Act.put,vB,vK,vL]
 refine wpAnyZ_take (i:=13) (v:= ?v13) zt zk rfl zk zk zk zk (fun _ _ _ h=>h) (Or.inl ⟨zu,?hy13⟩) hHeld ?rest13
 case hy13=>(intro w' hSw;obtain ⟨k0,k1,k4,k5,k6,k7⟩:=hSw;go_simp;try with_reducible rfl)
 simp only [Act.put,vB,vK,vL]
 refine wpAnyZ_free (i:=14) (v:= ?v14) zt rfl zk zk zk (fun _ _ _ h=>h) (Or.inl ⟨zu,?hy14⟩) hHeld ?rest14
 case hy14=>(intro w' _;go_simp;try with_reducible rfl)
 simp only [Act.put,vB,vK,vL]
 refine wpAnyZ_free (i:=15) (v:= ?v15) zt rfl zk zk zk (fun _ _ _ h=>h) (Or.inl ⟨zu,?hy15⟩) hHeld ?rest15
 case hy15=>(intro w' _;go_simp;try with_reducible rfl)
 simp only [Act.put,vB,vK,vL]
 refine wpAnyZ_one (i:=16) zk rfl (fun K hK=> ?_)
 go_simp
 refine hK _ _ (.inl ?s16) ?n16
 case s16=>
  have hbl:=fun o=>vI (a:=⟨B,o,none⟩) (vy w4 (.cells #[.int .i64 t,.int .i64 b,.int .i64 node,.int .i64 other,.string name,.int .i64 0,.int .i64 0,.string ⟨#[]⟩] 261) B hBl)
  exact ⟨(hbl 0).trans c0,(hbl 1).trans c1,(hbl 4).trans c4,(hbl 5).trans c5,(hbl 6).trans c6,t1a _⟩
 clear hK K hHeld
 refine wpAnyZ_one (i:=17) zk rfl (fun K hK=> ?_)
 go_simp
 refine (hxw _ rfl).mono ?_
 rintro e w5 ⟨g',cap',rfl,H5,u1,u2,u3⟩
 refine hK _ _ (.inl u3) ?_
 clear hK K
 refine qn ?_
 refine wpAnyZ_free (i:=18) (v:= ?v18) zt rfl zk zk zk (fun _ _ _ h=>h) (Or.inl ⟨zu,?hy18⟩) u3 ?rest18
 case hy18=>(intro w' _;go_simp;try with_reducible rfl)
 refine qn ?_
 refine wpAnyZ_free (i:=19) (v:= ?v19) zt rfl zk zk zk (fun _ _ _ h=>h) (Or.inl ⟨zu,?hy19⟩) u3 ?rest19
 case hy19=>(intro w' _;go_simp;try with_reducible rfl)
 refine qn ?_
 refine wpAnyZ_one (i:=20) zk rfl (fun K hK=> ?_)
 go_simp
 refine hK _ _ (.inr ⟨rfl,zt⟩) ?_
 clear hK K
 refine wpAnyZ_done zk ?_ _
 obtain ⟨w6,hw6⟩:=za (w5.setCell ⟨bt,1,none⟩ (.slice (some ⟨g',0,none⟩) (ms.length+1) cap'))
 rw [<-hw6]
 have hk45:=H5.o.2.1
 have hT5:TreeCell w5 bt bm v:=(hk45.block bt hT4.lt (fun e=>(hbtg bt e.symm).1 rfl)).trans hT4
 have hM5:=hM4.same (hk45.block bm hM4.lt (fun e=>(hbtg bm e.symm).2.1 rfl))
 have hgbt:=row_ne_tree H5.o.1 hT5
 have hgbm:=row_ne_map H5.o.1 hM5
 have hk56:Keeps (fun k=>k=bt) w5 w6:=by rw [hw6];exact setCells_keeps bt [_] 1 w5
 have hT6:TreeCell w6 bt bm (.slice (some ⟨g',0,none⟩) (ms.length+1) cap'):=by rw [hw6];exact heap_setCell_same w5 bt 1 _ _ _ hT5
 have hM6:=hM5.same (hk56.block bm hM5.lt (fun e=>htm e.symm))
 have hgl5:=(H5.o.1.lt g' rfl).2
 have hR6:=row_same H5.o.1 (hk56.block g' hgl5 hgbt)
 have hlen':(insAt ms i ((t,b),(node,other,name))).length=ms.length+1:=insAt_length _ _ _
 have hL6:=layIn_to (m:=((t,b),(node,other,name))) hL hil zeroP
 have hfine':∀m∈insAt ms i ((t,b),(node,other,name)),FineP m.2:=fun m hm=>by
  rcases vz.1 ((insAt_perm ms i _).mem_iff.1 hm) with rfl | hm
  ·exact move_fine hop
  exact H3.o.2.1.fine m hm
 have hdo:=do_any w6 bt bm base g' cap' i (nn+(ms.length - i)) (layIn L i (((t,b),(node,other,name)),zeroP)) (insAt ms i ((t,b),(node,other,name))) (by rw [hlen'];exact hT6) (by rw [hlen'];exact hR6) hL6 (by rw [insAt_take hil];exact hM6) hfine' zj zj zj
 have hKF:Aside (Keeps (fun k=>k=bt\/k=bm\/some k=v.ownBlock) w w6/\TreeCell w6 bt bm (.slice (some ⟨g',0,none⟩) (ms.length+1) cap')/\(some g'=v.ownBlock\/w.heap.size<=g')/\g'≠bt/\bm≠bt/\bt<w6.heap.size):=
  ⟨(hK4.then hk45 (fun _ _ e=>.inr (.inr e))).then hk56 (fun _ _ e=>.inl e),hT6,H5.o.2.2.imp id (fun h=>by have:=hK4.size;omega),hgbt,fun e=>htm e.symm,hT6.lt⟩
 have hHi:Aside (ByStamp (insAt ms i ((t,b),(node,other,name)))/\(∀m∈insAt ms i ((t,b),(node,other,name)),FineP m.2)):=⟨insAt_by H3.o.2.1.by_ H3.o.2.2.2.2.1 H3.o.2.2.2.2.2,hfine'⟩
 clear hw6 hk45 hT5 hM5 hgbt hgbm hk56 hT6 hM6 hgl5 hR6 hL6 H5 u1 u2 u3 hxw c0 c1 c2 c3 c4 c5 c6 c7 t1 z1 t1a hfine' hK4 hR4 hT4 hM4 hk4 hB4
 go_wp2_with fail
 refine hdo.mono ?_
 clear hdo
 rintro e w7 ⟨⟨u',rfl⟩,L',n',hL',hown',hM',hn',hk'⟩
 have FIN:Aside (∃v' ms',TreeAt base w7 bt bm v' ms'/\ms'.Perm (((t,b),(node,other,name))::ms)/\Keeps (fun k=>k=bt\/k=bm\/some k=v.ownBlock) w w7/\(v'.ownBlock=v.ownBlock\/∀g,v'.ownBlock=some g->w.heap.size<=g)):=by
  have hgn:=hKF.o.2.2.2.1
  refine ⟨.slice (some ⟨g',0,none⟩) (ms.length+1) cap',insAt ms i ((t,b),(node,other,name)),⟨?_,⟨L',hL',by rw [hlen'] at hown' |-;exact hown'⟩,⟨n',zj,hM'⟩,hHi.o.1,hHi.o.2⟩,insAt_perm _ _ _,?_,?_⟩
  ·exact (hk'.block bt hKF.o.2.2.2.2.2 (fun e=>e.elim (fun e=>hKF.o.2.2.2.2.1 e.symm) (fun e=>hgn e.symm))).trans hKF.o.2.1
  ·refine hKF.o.1.then hk' (fun k hk e=> ?_)
   rcases e with e | e
   ·exact .inr (.inl e)
   rcases hKF.o.2.2.1 with h | h
   ·exact .inr (.inr (by rw [e];exact h))
   omega
  rcases hKF.o.2.2.1 with h | h
  ·exact .inl h
  exact .inr (fun g hg=>by cases hg;exact h)
 clear hL' hown' hM' hk' hKF hHi hn'
 go_wp2
 go_ret
 exact ⟨rfl,FIN.o⟩
end
section
open Go.RowKit Go.Shelf Go.Maps
open scoped Classical
attribute [local go_sem] Oper.semAt_some
def AllP (f:Sta) (ps:List Plc):Prop:=(ps.map (·.1)).Nodup/\∀p,p∈ps↔f p.1=some p
theorem AllP.places (h:AllP f ps) (hp:qs.Perm ps) (hs:qs.Pairwise (fun a b=>¬b.1<a.1)):IsPlaces f qs:=by
 refine ⟨?_,fun p=>(hp.mem_iff).trans (h.2 p)⟩
 have hn:(qs.map (·.1)).Nodup:=(hp.map _).nodup_iff.2 h.1
 have hn':qs.Pairwise (fun a b=>a.1≠b.1):=List.pairwise_map.1 hn
 exact (hs.and hn').imp (fun {a b} h=>by have h1:=h.1;have h2:=h.2;omega)
def CollP (D:DataW Unit) (f:Sta) (left:Lit->Bool) (ps:List Plc):Prop:=
 (ps.map (·.1)).Nodup/\(∀p∈ps,f p.1=some p/\left (.int .i64 p.1)=false)/\∀k,Wf k->has D (.int .i64 k)=true->left (.int .i64 k)=false->k∈ps.map (·.1)
theorem collP_start (D:DataW Unit) (f:Sta):CollP D f (has D) []:=⟨Zj,fun p hp=>by simp at hp,fun k _ h1 h2=>by rw [h1] at h2;cases h2⟩
theorem same_int (a b:Int):Lit.sameKey (.int .i64 a) (.int .i64 b)=decide (a=b):=by
 by_cases h:a=b
 ·subst h
  rw [WideAt.sameKey_self (show WideAt.IsKeyLit (.int .i64 a) from trivial)]
  simp
 rw [sameKey_ne (lit_ne h)]
 simp [h]
theorem CollP.step {left:Lit->Bool} (h:CollP D f left ps) {c:Plc} (hl:left (.int .i64 x)=true) (hf:f x=some c) (hk:c.1=x):CollP D f (fun z=>left z && !z.sameKey (.int .i64 x)) (ps++ [c]):=by
 obtain ⟨h1,h2,h3⟩:=h
 refine ⟨?_,fun p hp=> ?_,fun k hw hh hlk=> ?_⟩
 ·rw [uq,uf]
  refine ⟨h1,zm,fun a ha b hb=> ?_⟩
  simp only [ug,uS,vA] at hb
  subst hb
  intro e
  obtain ⟨p,hp,rfl⟩:=vV.1 ha
  have:=(h2 p hp).2
  rw [e,hk,hl] at this
  cases this
 ·rcases vv.1 hp with hp | hp
  ·have:=h2 p hp
   exact ⟨this.1,by show (left (.int .i64 p.1) &&_)=false;rw [this.2];rfl⟩
  simp only [vA] at hp
  subst hp
  refine ⟨by rw [hk];exact hf,?_⟩
  show (left (.int .i64 p.1) && !Lit.sameKey (.int .i64 p.1) (.int .i64 x))=false
  rw [hk,same_int]
  simp
 have hlk:(left (.int .i64 k) && !Lit.sameKey (.int .i64 k) (.int .i64 x))=false:=hlk
 rw [same_int] at hlk
 rw [uq]
 by_cases e:k=x
 ·subst e
  simp [hk]
 refine vN _ (h3 k hw hh ?_)
 simpa [e] using hlk
theorem CollP.all {left:Lit->Bool} (h:CollP D f left ps) (hr:ReadsAs D f) (G:Good f) (hl:∀kl,left kl=false):AllP f ps:=by
 refine ⟨h.1,fun p=>⟨fun hp=>(h.2.1 p hp).1,fun hp=> ?_⟩⟩
 have hw:=wf_key G hp
 have hm:=h.2.2 p.1 hw (by rw [hr.has hw,hp];rfl) (hl _)
 obtain ⟨q,hq,e⟩:=vV.1 hm
 have:=(h.2.1 q hq).1
 rw [e,hp] at this
 cases this
 exact hq
theorem at_some (hr:ReadsAs D f) (G:Good f) {c:Plc} (hw:Wf x) (hat:∀zd,D.atKey (.int .i64 x) zd=dat c):f x=some c/\c.1=x:=by
 have hh:=hr.has hw
 rw [has_true_of_atKey hat] at hh
 cases hf:f x with
 | none=>rw [hf] at hh;cases hh
 | some p=>
  have:=hr.some hw hf .nil
  rw [hat] at this
  rw [dat_inj this]
  exact ⟨rfl,G.key x p hf⟩
theorem values1_in (F:Fence) (n:Nat) (h8:F.fn 109) (hro:F.round=none) (hn:1<=n) (l Bm b nn:Nat) (D0:DataW Unit) (f:Sta) (hr:ReadsAs D0 f) (G:Good f) (J Jx:List Plc->World->Prop)
  (hY:∀pre x W,J pre W->pre.length<nn->YieldAt F (n - 1) prog l #[encP x] W fun e W'=>
   (e= .returned (.bool true)/\J (pre++ [x]) W'/\KeepsWalks W W')\/(e= .returned (.bool false)/\Jx (pre++ [x]) W'))
  (W:World) (hJ:AbidesFrom W.heap.size J) (hm:W.cell? ⟨Bm,0,none⟩=some (.map (some b))) (hown:W.ownsMap prog 3 plcR b nn D0) (h0:J [] W):
  CallsIn F n prog 109 #[.func (.yield l) #[] #[],.pointer (some ⟨Bm,0,none⟩)] W fun e W'=>(∃v,e= .returned v)/\
   ((∃xs,AllP f xs/\J xs W')\/(∃pre,True/\Jx pre W')):=by
 refine callsIn_of_wp func109 rfl h8 ?_ hro
 simp only [ntmps109,vY,vH,vT,Nat.reduceAdd,Nat.reduceSub,ul,um,uy,uo,uA,ux]
 have hsn:=hown.size_le
 gi_wp2_with (first
  | (gi_at_range;refine wpListIn_range_own _ rfl _ 132 rfl 3 98 (int_keyed underlying3) underlying132 _ b nn _ rfl hown ?_;intro w0 hrg0 hg0 hs0)
  | gi_in)
 go_frame
 gi_loopw [4] (fun _ wr=>∃(left:Lit->Bool) (cnt:Nat) (ps:List Plc),wr.ranges prog 3 plcR b W.heap.size nn D0 left cnt/\ps.length+cnt<=nn/\CollP D0 f left ps/\J ps wr)
  (fun _ wr=>wr.rangeLeft b W.heap.size)
 case atStart=>
  exact ⟨_,_,[],hrg0,by simpa using hsn,collP_start D0 f,hJ [] W w0 none h0 hg0 (fun r e=>qC)⟩
 case round=>
  obtain ⟨left,cnt,ps,hrg,hcs,hC,hJs⟩:=hrel
  gi_wp2_with (first
   | (gi_at_next;refine wpListIn_next_ranges _ rfl _ rfl 3 (int_keyed underlying3) plcR (Value.int .i64) encP (fun key kl hk=>qy) (fun v y hv=>by obtain ⟨c,rfl,_⟩:=plcR_inv hv;exact ⟨c,rfl⟩) b W.heap.size nn _ _ _ rfl hrg ?_ ?_)
   | gi_in)
  ·intro hc0 hl0
   gi_wp2
   go_end0
   exact ⟨⟨_,rfl⟩,.inl ⟨ps,hC.all hr G hl0,hJs⟩⟩
  intro x c1 c2 c3 kl yd yp w2 cnt2 hkey hlk hv hat hrg2 hlt hg2 hs2 hen
  obtain ⟨x',ex,rfl,hwx⟩:=Maps.keyOf_int_inv underlying3 hkey
  obtain rfl:x=x':=by simpa using ex
  obtain ⟨c',ec,ez⟩:=plcR_inv hv
  obtain rfl:(c1,c2,c3)=c':=encP_inj ec
  obtain rfl:yd=dat (c1,c2,c3):=(Prod.mk.inj ez).1
  obtain ⟨hfx,hcx⟩:=at_some hr G hwx hat
  have hcx:c1=x:=hcx
  subst hcx
  have hJ2:J ps w2:=hJ ps wr w2 (some W.heap.size) hJs hg2 (fun r e=>jo)
  have hJ3:J ps (w2.alloc (.cells #[.int .i64 c1,.int .i64 c2,.string c3] 98)):=hJ ps w2 _ none hJ2 (World.grownBy_alloc w2 _ none) (fun r e=>qC)
  obtain ⟨fn,tmps,assign,body,hy,hR⟩:=hY ps (c1,c2,c3) _ hJ3 zj
  unfold encP at hy hen
  dsimp only at hy hen
  have hrg3:=hrg2.alloc (.cells #[.int .i64 c1,.int .i64 c2,.string c3] 98)
  have hC2:=hC.step hlk hfx rfl
  have H3:Aside (RoundIn F (n - 1) prog l fn tmps assign body _ _):=hR
  clear hs2 hR hJ2 hJ3
  unfold encP
  dsimp only
  gi_wp2
  refine RoundIn.mono H3.o ?_
  rintro e W3 (⟨rfl,hJ4,hk4⟩ | ⟨rfl,hJx4⟩)
  ·gi_wp2
   have hrg4:=hrg3.of_walks hk4
   go_roundw
   case rel=>exact ⟨_,cnt2,ps++ [(c1,c2,c3)],hrg4,zl,hC2,hJ4⟩
   case measure=>rw [hrg4.left_eq,hrg.left_eq];exact hlt
  gi_wp2
  refine bodyPost_ret (results_none rfl _ _ _) rfl ?_
  exact ⟨⟨_,rfl⟩,.inr ⟨ps++ [(c1,c2,c3)],trivial,hJx4⟩⟩
theorem values_in (F:Fence) (n:Nat) (hf:F.fn 66) (hro:F.round=none) (mb:Option Nat) (w:World):
  CallsIn F n prog 66 #[.map mb] w fun e w'=>e= .returned (.func (.func 109) #[] #[.pointer (some ⟨w.heap.size,0,none⟩)])/\w'=w.alloc (.cells #[.map mb] 132):=by
 refine callsIn_of_wp func66 rfl hf ?_ hro
 simp only [ntmps66,vY,vH,vT,Nat.reduceAdd,Nat.reduceSub,ul,um,uy,uo,uA,ux]
 gi_wp2
 go_ret
 exact ⟨rfl,rfl⟩
theorem values_stops (F:Fence) (n:Nat) (h8:F.fn 109) (hro:F.round=none) (hn:1<=n) (Bm b nn:Nat) (f:Sta) (G:Good f) (w:World) (hBm:Bm<w.heap.size) (hm:w.cell? ⟨Bm,0,none⟩=some (.map (some b))) (hM:MapAt prog 3 w b nn f):
  SeqStopsK F n prog 109 #[.pointer (some ⟨Bm,0,none⟩)] (fun x:Plc=> #[encP x]) KeepsWalks (fun xs=>AllP f xs) (fun _=>True) nn w:=fun l J Jx W hW hJ _ hY h0=>by
 have hbl:=hM.lt
 obtain ⟨D,hown,hr⟩:=hM.same (hW.block b hbl)
 exact values1_in F n h8 hro hn l Bm b nn D f hr G J Jx hY W hJ ((hW.cell (p:=⟨Bm,0,none⟩) hBm).trans hm) hown h0
end
section
open Go.RowKit Go.Shelf Go.Maps
attribute [local go_sem] Oper.semAt_some
theorem infoPl:(prog.info? 98).map (fun i=>(i.zero,i.size,i.bytes))=some (some (.agg #[.int .i64 0,.int .i64 0,.string ⟨#[]⟩]),3,32):=zk
theorem lit_cellsP (w:World) (p:Plc) (j:Nat) (u:Value) (hj:(cellsP p)[j]? =some u):(w.alloc (.cells #[.int .i64 p.1,.int .i64 p.2.1,.string p.2.2] 98)).cell? ((⟨w.heap.size,0,none⟩:Addr).add j)=some u:=by
 rw [Addr.add_lit,vO]
 have h:=heap_alloc_new w (.cells #[.int .i64 p.1,.int .i64 p.2.1,.string p.2.2] 98)
 simp only [World.cell?,h]
 rw [<-hj]
 simp [cellsP]
theorem appendSeq_any (w:World) (Bm b nn:Nat) (f:Sta) (G:Good f) (hBm:Bm<w.heap.size) (hm:w.cell? ⟨Bm,0,none⟩=some (.map (some b))) (hM:MapAt prog 3 w b nn f) (hnn:nn<=2000000):
  Calls prog 150 #[.slice none 0 0,.func (.func 109) #[] #[.pointer (some ⟨Bm,0,none⟩)]] w fun e w'=>∃v ps,e= .returned v/\AllP f ps/\ps.length<=nn/\w'.ownsRow w.heap.size 98 3 v ps.length (flat cellsP ps)/\Below w.heap.size w w':=by
 obtain ⟨i0,hi,hz0,hz1,hz2⟩:=info_parts infoPl
 refine (callsIn_wide (n:=4)).1 ?_
 refine callsIn_of_wp_marks func150 rfl trivial ?_ rfl
 simp only [ntmps150,vY,vH,vT,Nat.reduceAdd,Nat.reduceSub,ul,um,uy,uo,uA,ux]
 gi_wp2
 obtain ⟨w1,hw1⟩:=za (w.alloc (.cells #[.slice none 0 0] 95))
 rw [<-hw1]
 have hB0:Below w.heap.size w w1:=yV
 have hs1:w1.heap.size=w.heap.size+1:=xI
 obtain ⟨B,hB⟩:=za w.heap.size
 have e1:Boxed w1 B 95 (.slice none 0 0):=qD
 rw [<-hB] at hB0 hs1 hBm |-
 have HB:Aside (B=w.heap.size):=hB
 have hBw:B<=w.heap.size:=zj
 clear hB
 have hm1:=(hB0.cell (p:=⟨Bm,0,none⟩) hBm).trans hm
 have hM1:=hM.same (hB0.block b (by have:=HB.o;have:=hM.lt;omega))
 clear hw1 hm hM
 refine wpIn_rangeFunc_ownH rfl zj (gf:=109) (lb:= #[.pointer (some ⟨Bm,0,none⟩)]) rfl trivial (enters_of func109 zk rfl)
  (values_stops Fence.wide (4 - 1) trivial rfl zj Bm b nn f G w1 zj hm1 hM1) walksK_t (walksK_b (w:=w1)) (vu _ _) (fun _=>rfl)
  (fun pre W=>((∃v,Boxed W B 95 v/\W.ownsRow B 98 3 v pre.length (flat cellsP pre)/\pre.length<=nn))/\(w1.heap.size<=W.heap.size/\Below B w W))
  (fun _ _ _=>False)
  (OwnFrom.and (Own.from (holdsRow_own B B 95 98 3 (fun pre=>pre.length) (fun pre=>flat cellsP pre) (fun pre _=>pre.length<=nn)) _) (OwnFrom.and (fun _ X Y row hs hg _=>vr hs hg.size) (ownFrom_below zj zj)))
  (fun _ _ _ _ _ hs _ _=>hs)
  ⟨⟨_,e1,ud w1 B _ _,vD _⟩,vm _,hB0⟩
  (fun x a' W=>∃Bx,w1.heap.size<=Bx/\PlcAt W Bx x/\a'= {tmps:= #[.slice none 0 0,.func (.func 109) #[] #[.pointer (some ⟨Bm,0,none⟩)],.pointer (some ⟨B,0,none⟩),undef,.slice none 0 0,.pointer (some ⟨Bx,0,none⟩),.func (.func 109) #[] #[.pointer (some ⟨Bm,0,none⟩)],.agg #[.int .i64 x.1,.int .i64 x.2.1,.string x.2.2],undef,undef,undef,undef,undef],defers:=[]})
  (fun x a'=>Own.from (fun _ X Y row hs hg hr=>ya) _)
  ?assign ?body ?done ?stop
 case assign=>
  rintro l pre x W K ⟨⟨v,hv,hrow,hpl⟩,hsz,hBW⟩ hK
  have hK':Aside _:=hK
  have hBs:B<=W.heap.size:=zj
  clear hK
  unfold encP
  gi_wp2
  refine hK'.o _ _ ((KeepsOthers.alloc _ _).from _) (KeepsOthers.alloc _ _).walks ⟨⟨v,hv.alloc _,hrow.alloc _,hpl⟩,zl,hBW.alloc hBs _⟩ ⟨W.heap.size,zj,heap_alloc_new W _,rfl⟩
 case body=>
  rintro l pre x a' W hl _ ⟨⟨v,hv,hrow,hpl⟩,hsz,hBW⟩ ⟨Bx,hBx,hE,rfl⟩ hlt
  have g1:=hv.cell
  have f0:=hE.c0
  have f1:=hE.c1
  have f2:=hE.c2
  have hBs:B<=W.heap.size:=zj
  gi_wp2_with (gi_at_builtin;refine wpListIn_append_own _ rfl _ _ 95 rfl B 98 i0 _ 3 32 underlying95 hi hz0 hz1 hz2 rfl zj _ _ _ rfl (hrow.alloc _) ⟨W.heap.size,0,none⟩ 1 1 (cellsP x) rfl rfl (lit_cellsP W x) (cellsP_one x) zw zj zl ?_;intro v' w2 hown' hgrow _;obtain ⟨g',cap',rfl⟩:=ownsRow_succ hown';obtain ⟨hv1,hv2,hr2,hk2,hb2⟩:=hv.appended zt hrow hBs zg hown' hgrow;have hc1:=hv1.cell;have hf1:=hv1.frozen)
  exact ⟨hk2.from _,hk2.walks,⟨⟨_,hv2,by rw [vw,uC,flat_append];simpa [flat] using hr2,zl⟩,jS,hBW.trans hb2⟩⟩
 case done=>
  rintro D ys W hD hall ⟨⟨v,hv,hrow,hpl⟩,hsz,hBW⟩ hK
  have g1:=hv.cell
  gi_wp2
  refine ⟨zm,.inl ⟨_,_,rfl,run_takeDeferred hK,?_⟩⟩
  refine ⟨v,by simp [results,f150,go_sem],v,ys,rfl,hall,hpl,?_,?_⟩
  ·rw [<-HB.o]
   exact ownsRow_putObj hrow _ hK rfl
  rw [<-HB.o]
  exact hBW.trans (belowK_b (w:=w) zj W D _ _ yb hK rfl rfl)
 case stop=>
  rintro D c pre W _ _ h _
  exact h.elim
def PlsAt (w:World) (v:Value) (qs:List Plc):Prop:=(v= .slice none 0 0/\qs= [])\/∃g cap,v= .slice (some ⟨g,0,none⟩) qs.length cap/\g<w.heap.size/\∀j u,(flat cellsP qs)[j]? =some u->w.cell? ⟨g,j,none⟩=some u
theorem PlsAt.later (h:PlsAt w v qs) (hb:Below w.heap.size w w'):PlsAt w' v qs:=by
 rcases h with h | ⟨g,cap,h1,h2,h3⟩
 ·exact .inl h
 exact .inr ⟨g,cap,h1,vJ h2 hb.size,fun j u hj=>(hb.cell (p:=⟨g,j,none⟩) h2).trans (h3 j u hj)⟩
theorem collect_any (w:World) (Bm b nn:Nat) (f:Sta) (G:Good f) (hBm:Bm<w.heap.size) (hm:w.cell? ⟨Bm,0,none⟩=some (.map (some b))) (hM:MapAt prog 3 w b nn f) (hnn:nn<=2000000):
  Calls prog 107 #[.func (.func 109) #[] #[.pointer (some ⟨Bm,0,none⟩)]] w fun e w'=>∃v ps,e= .returned v/\AllP f ps/\ps.length<=nn/\w'.ownsRow w.heap.size 98 3 v ps.length (flat cellsP ps)/\Below w.heap.size w w':=by
 have hc:=appendSeq_any w Bm b nn f G hBm hm hM hnn
 go_enter func107,ntmps107
 go_wp2_with fail
 refine hc.mono ?_
 clear hc
 rintro e w' ⟨v,ps,rfl,H⟩
 have HH:Aside (AllP f ps/\ps.length<=nn/\w'.ownsRow w.heap.size 98 3 v ps.length (flat cellsP ps)/\Below w.heap.size w w'):=H
 clear H
 go_wp2
 go_ret
 exact ⟨v,ps,rfl,HH.o⟩
theorem sorted_new (w:World) (Bm b nn:Nat) (f:Sta) (G:Good f) (hBm:Bm<w.heap.size) (hm:w.cell? ⟨Bm,0,none⟩=some (.map (some b))) (hM:MapAt prog 3 w b nn f) (hnn:nn<=100000):
  Calls prog 65 #[.func (.func 109) #[] #[.pointer (some ⟨Bm,0,none⟩)],.func (.func 67) #[] #[]] w fun e w'=>∃v qs,e= .returned v/\IsPlaces f qs/\qs.length<=nn/\PlsAt w' v qs/\Below w.heap.size w w'/\∀g,v.ownBlock=some g->w.heap.size<=g:=by
 have hc:=collect_any w Bm b nn f G hBm hm hM zj
 go_enter func65,ntmps65
 go_wp2_with fail
 refine hc.mono ?_
 clear hc
 rintro e w1 ⟨v,ps,rfl,hall,hpl,hown,hb⟩
 rcases hown.2 with ⟨rfl,h0⟩ | ⟨g,cap,cur,rfl,hbg,-⟩
 ·have hps:ps= []:=vM.1 h0
  have HH:Aside (IsPlaces f []/\Below w.heap.size w w1):=⟨by subst hps;exact hall.places (List.Perm.refl _) List.Pairwise.nil,hb⟩
  clear hall hown hb hps h0
  go_wp2_with (go_at_call 108;refine (sortPl_none none 0 _ _).mono ?_;rintro e w' ⟨rfl,rfl⟩)
  go_ret
  exact ⟨_,[],rfl,HH.o.1,vD _,.inl ⟨rfl,rfl⟩,HH.o.2,fun g e=>qC⟩
 have hs:=sortPl w1 w.heap.size g cap ps hown zj
 have hgl:=(hown.lt g rfl).2
 have HH:Aside (AllP f ps/\ps.length<=nn/\Below w.heap.size w w1/\w.heap.size<=g/\g<w1.heap.size):=⟨hall,hpl,hb,hbg,hgl⟩
 clear hall hown hb hpl hbg hgl
 go_wp2_with fail
 refine hs.mono ?_
 clear hs
 rintro e w2 ⟨rfl,qs,hp,hpw,hcells,hk⟩
 have H2:Aside (IsPlaces f qs/\qs.length=ps.length/\qs.length<=nn/\(∀j u,(flat cellsP qs)[j]? =some u->w2.cell? ⟨g,j,none⟩=some u)/\Below w.heap.size w w2/\g<w2.heap.size/\w.heap.size<=g):=
  ⟨HH.o.1.places hp (List.Pairwise.imp (fun {a b} h=>zj) hpw),hp.length_eq,jQ,hcells,HH.o.2.2.1.trans (hk.below (HH.o.2.2.1.size) (fun k e=>by have:=HH.o.2.2.2.1;omega)),vJ HH.o.2.2.2.2 hk.size,HH.o.2.2.2.1⟩
 clear hp hpw hcells hk HH
 go_wp2
 go_ret
 exact ⟨_,qs,rfl,H2.o.1,H2.o.2.2.1,.inr ⟨g,cap,by rw [H2.o.2.1];rfl,H2.o.2.2.2.2.2.1,H2.o.2.2.2.1⟩,H2.o.2.2.2.2.1,fun k e=>by cases e;exact H2.o.2.2.2.2.2.2⟩
theorem places_new (w:World) (bt bm nn:Nat) (v0:Value) (f:Sta) (G:Good f) (hT:TreeCell w bt bm v0) (hM:MapAt prog 3 w bm nn f) (hnn:nn<=100000):
  Calls prog 41 #[.pointer (some ⟨bt,0,none⟩)] w fun e w'=>∃v qs,e= .returned v/\IsPlaces f qs/\qs.length<=nn/\PlsAt w' v qs/\Below w.heap.size w w'/\∀g,v.ownBlock=some g->w.heap.size<=g:=by
 have t0:=hT.c0
 have hv:=callsIn_wide.1 (values_in Fence.wide 3 trivial rfl (some bm) w)
 have hb1:Below w.heap.size w (w.alloc (.cells #[.map (some bm)] 132)):=zh w _
 have hbox:Boxed (w.alloc (.cells #[.map (some bm)] 132)) w.heap.size 132 (.map (some bm)):=heap_alloc_new w _
 have hs:=sorted_new (w.alloc (.cells #[.map (some bm)] 132)) w.heap.size bm nn f G zm hbox.cell (hM.same (hb1.block bm hM.lt)) hnn
 go_enter func41,ntmps41
 go_wp2_with (go_at_call 66;refine hv.mono ?_;clear hv;rintro e w' ⟨rfl,rfl⟩)
 refine hs.mono ?_
 clear hs
 rintro e w2 ⟨v,qs,rfl,h1,h2,h3,h4,h5⟩
 have HH:Aside (IsPlaces f qs/\qs.length<=nn/\PlsAt w2 v qs/\Below w.heap.size w w2/\∀g,v.ownBlock=some g->w.heap.size<=g):=⟨h1,h2,h3,hb1.trans (h4.mono zm),fun g hg=>by have:=h5 g hg;simp at this;omega⟩
 clear h1 h2 h3 h4 h5 hb1 hbox
 go_wp2
 go_ret
 exact ⟨v,qs,rfl,HH.o⟩
