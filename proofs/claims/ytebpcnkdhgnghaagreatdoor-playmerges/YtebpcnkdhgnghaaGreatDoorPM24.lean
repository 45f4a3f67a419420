import Derived.Test.YtebpcnkdhgnghaaGreatDoorPM20
set_option linter.unusedSimpArgs false
set_option linter.unusedVariables false
set_option maxRecDepth 100000
set_option maxHeartbeats 64000000
namespace Go.Proofs.YtebpcnkdhgnghaaGreatDoor
variable {m:bU×aG} {b b' t t':Int} {L:List (bU×aG)} {S g k o p:Nat} {v:Value} {U w w':World}
section
open Go Go.RowKit
theorem mN (x y:ByteArray):(x.toList==y.toList)=decide (x=y):=by
 rw [uy,uy]
 by_cases h:x=y
 ·subst h;simp
 have:x.data.toList≠y.data.toList:=fun e=>h (wg e)
 rw [decide_eq_false h]
 exact beq_false_of_ne this
theorem ER {o:aG} (hk:k=bI m.1 L) (ho:L[k]? =some (m.1,o)):rp L m=(if CLt o.2 m.2.2 then L.set k m else L)/\ii L m=decide (CLt o.2 m.2.2):=by
 subst hk
 unfold rp ii
 rw [ho]
 exact ⟨if_pos rfl,if_pos rfl⟩
theorem Ga (hk:k=bI m.1 L) (ho:¬∃o,L[k]? =some (m.1,o)):rp L m=L.take k++m::L.drop k/\ii L m=true:=by
 subst hk
 unfold rp ii
 cases hs:L[bI m.1 L]? with
 | none=>exact ⟨rfl,rfl⟩
 | some o=>
  have hne:o.1≠m.1:=fun e=>ho ⟨o.2,by rw [hs,<-e]⟩
  exact ⟨if_neg hne,if_neg hne⟩
abbrev StampCells (U:World) (p S g o:Nat) (v:Value) (t' b' t b:Int) (w:World):Prop:=w.cell? ⟨p,0,none⟩=some v/\w.cell? ⟨g,o+3,none⟩=some (.int .i64 t')/\w.cell? ⟨g,o+4,none⟩=some (.int .i64 b')/\w.cell? ⟨S,3,none⟩=some (.int .i64 t)/\w.cell? ⟨S,4,none⟩=some (.int .i64 b)/\Below U.heap.size U w
theorem StampCells.later (h:StampCells U p S g o v t' b' t b w) (hb:Below w.heap.size w w'):StampCells U p S g o v t' b' t b w':=
 ⟨cv hb h.1,cv hb h.2.1,cv hb h.2.2.1,cv hb h.2.2.2.1,cv hb h.2.2.2.2.1,zi h.2.2.2.2.2 hb⟩
theorem StampCells.drew {U w:World} {p S g o:Nat} {v:Value} {t' b' t b:Int} (h:StampCells U p S g o v t' b' t b w):StampCells U p S g o v t' b' t b w.drew:=h.later (vG _ _).drew
theorem dZ {B:Nat} (h:Below B w w') (q:Nat):Below B w (w'.drewN q):=⟨h.os,h.tape,h.output,h.size,h.block⟩
theorem Fd (t b t' b':Int):bM t b t' b'=decide (CLt (t,b) (t',b')):=by
 unfold bM CLt
 by_cases h:t=t'
 ·rw [if_pos h]
  simp [h]
 rw [if_neg h]
 simp [h]
theorem LZ {base cap:Nat} (h:w.ownsRow base 89 5 (.slice (some ⟨g,0,none⟩) L.length cap) L.length (aI kw L)) (hk:k<L.length) (a:Int) (s c:ByteArray) (t b:Int):
  (w.setCells g (k*5) [.int .i64 a,.string s,.string c,.int .i64 t,.int .i64 b]).ownsRow base 89 5 (.slice (some ⟨g,0,none⟩) L.length cap) L.length (aI kw (L.set k ((a,s),(c,(t,b))))):=by
 have h1:=dV (enc:=kw) (k:=5) cQ L k hk ((a,s),(c,(t,b)))
 have h2:=dV (enc:=kw) (k:=5) cQ L k hk L[k]
 rw [ZZ hk] at h2
 rw [h2] at h
 rw [h1]
 have:=fg (vs:=kw ((a,s),(c,(t,b)))) h rfl
 rwa [show ((aI kw L).take (k*5)).length=k*5 by rw [vW,bX cQ];omega] at this
theorem JM (w:World) (base p:Nat) (v:Value) (L:List (bU×aG)) (a:Int) (s c:ByteArray) (t b:Int) (h:MksAt base w p v L) (hbase:base<=w.heap.size) (hL:L.length<=900):
  Calls Tryz.prog 151 #[.pointer (some ⟨p,0,none⟩),.agg #[.int .i64 a,.string s,.string c,.int .i64 t,.int .i64 b]] w fun e w'=>e= .returned (.bool (ii L ((a,s),(c,(t,b)))))/\LaidIn base w p v (rp L ((a,s),(c,(t,b)))) w':=by
 obtain ⟨ao,cap,rfl⟩:=fh h.row
 obtain ⟨S,hS⟩:∃S,Aside (w.heap.size=S):=⟨_,rfl⟩
 obtain ⟨U,hU⟩:=zc (w.alloc (.cells #[.int .i64 a,.string s,.string c,.int .i64 t,.int .i64 b] 89))
 have hb0:Below w.heap.size w U:=yA
 have hsU:U.heap.size=w.heap.size+1:=by rw [hU];simp
 have hu:U.heap[w.heap.size]? =some (.cells #[.int .i64 a,.string s,.string c,.int .i64 t,.int .i64 b] 89 (0,0)):=by rw [hU];exact heap_alloc_new w _
 rw [hS.o] at hu hsU
 have HU:Aside (Below w.heap.size w U/\U.heap.size=S+1/\U.heap[S]? =some (.cells #[.int .i64 a,.string s,.string c,.int .i64 t,.int .i64 b] 89 (0,0))/\MksAt base U p (.slice ao L.length cap) L/\base<=S):=⟨hb0,hsU,hu,h.later hb0,by have:=hS.o;omega⟩
 clear hb0 hsU hu h hbase
 go_enter Tryz.func151,Tryz.ntmps151
 go_upto_region 1 with fail
 rw [<-hU,hS.o]
 clear hU
 iterate 8 (first | go_values | go_skip | go_guarded | go_step | go_upon | go_back)
 go_cut [5] (fun s5 wx=>∃k:Nat,s5= .int .i64 (k:Int)/\k<=L.length/\Aside (k=bI (a,s) L/\Below U.heap.size U wx))
 case first=>
  go_wp2
  go_loopg [5] L.length (fun kx s5 wr=>∃(k:Nat),s5= .int .i64 (k:Int)/\k<=L.length/\L.length - k<=kx/\Aside ((∀(j:Nat) m,j<k->L[j]? =some m->KLt m.1 (a,s))/\Below U.heap.size U wr))
  case atStart=>exact ⟨0,rfl,vM _,vB _,fun j m hj=>zj,vG _ _⟩
  case round=>
   obtain ⟨k,rfl,hkl,hkx,A⟩:=hrel
   obtain ⟨u,hu⟩:=zc wr
   subst hu
   have hM:=HU.o.2.2.2.1.later A.o.2
   have p0:=hM.c0
   have hbx:u.heap[S]? =some (.cells #[.int .i64 a,.string s,.string c,.int .i64 t,.int .i64 b] 89 (0,0)):=(A.o.2.block S qh).trans HU.o.2.2.1
   have x0:u.cell? ⟨S,0,none⟩=some (.int .i64 a):=zX
   have x1:u.cell? ⟨S,1,none⟩=some (.string s):=zX
   by_cases hlt:k<L.length
   ·have hltz:decide ((k:Int)<(L.length:Int))=true:=by simp;omega
    have hltn:decide (k<L.length)=true:=decide_eq_true hlt
    have ek:((k:Int)).toNat=k:=zj
    have pk:(0:Int)<=(k:Int):=zj
    have bk:(k:Int)<(L.length:Int):=zj
    obtain ⟨⟨⟨a',s'⟩,⟨c',⟨t',b'⟩⟩⟩,hl⟩:∃l,Aside (L[k]? =some l):=⟨L[k],vF hlt⟩
    obtain ⟨blk,off,rfl,f0,f1,f2,f3,f4⟩:=(sG cQ hM.row).mark hl.o
    clear hM hbx f2 f3 f4
    by_cases h1:a'<a
    ·have d1:decide (a'<a)=true:=decide_eq_true h1
     go_wp2_with fail
     go_quiet (fail)
     go_wp2
     go_roundg (L.length - (k+1))
     case measure=>omega
     case rel=>
      refine ⟨k+1,zw,zj,vB _,fun j m hj e=> ?_,⟨A.o.2.os,A.o.2.tape,A.o.2.output,A.o.2.size,A.o.2.block⟩⟩
      rcases uB j k with q | q
      ·exact A.o.1 j m q e
      obtain rfl:j=k:=zj
      rw [hl.o] at e
      cases e
      exact .inl h1
    have d1:decide (a'<a)=false:=decide_eq_false h1
    by_cases h2:a'=a
    ·have d2:(a'==a)=true:=by simp [h2]
     by_cases h3:s'.data.toList<s.data.toList
     ·have d3:Op.bytesLess s'.toList s.toList=true:=(gZ _ _).trans (decide_eq_true h3)
      have HK:=Lib.hid (show KLt (a',s') (a,s) from .inr ⟨h2,h3⟩)
      clear h2 h3
      go_wp2_with fail
      go_quiet (fail)
      go_wp2
      go_roundg (L.length - (k+1))
      case measure=>omega
      case rel=>
       refine ⟨k+1,zw,zj,vB _,fun j m hj e=> ?_,dZ A.o.2 _⟩
       rcases uB j k with q | q
       ·exact A.o.1 j m q e
       obtain rfl:j=k:=zj
       rw [hl.o] at e
       cases e
       exact HK.o
     have d3:Op.bytesLess s'.toList s.toList=false:=(gZ _ _).trans (decide_eq_false h3)
     have HK:=Lib.hid (show ¬KLt (a',s') (a,s) from fun q=>q.elim (fun q=>h1 q) (fun q=>h3 q.2))
     clear h2 h3
     exact kg8
    have d2:(a'==a)=false:=by simp [h2]
    have HK:=Lib.hid (show ¬KLt (a',s') (a,s) from fun q=>q.elim (fun q=>h1 q) (fun q=>h2 q.1))
    clear h2
    exact kg8
   have hltz:decide ((k:Int)<(L.length:Int))=false:=zq
   have hltn:decide (k<L.length)=false:=decide_eq_false hlt
   clear hM hbx
   go_wp2_with fail
   go_quiet (fail)
   go_wp2
   go_meet
   exact ⟨k,rfl,hkl,(oK (a,s) L k hkl A.o.1 (fun m e=>by rw [List.getElem?_eq_none zj] at e;cases e)).symm,dZ A.o.2 _⟩
 obtain ⟨k,rfl,hkl,A⟩:=hcut
 obtain ⟨u,hu⟩:=zc wc
 subst hu
 have ek:((k:Int)).toNat=k:=zj
 have pk:(0:Int)<=(k:Int):=zj
 go_upto_region 4 with fail
 go_cut [87] (fun s87 wx=>∃z:Bool,s87= .bool z/\Aside ((z=true↔∃o,L[k]? =some ((a,s),o))/\Below U.heap.size U wx))
 case first=>
  have hM:=HU.o.2.2.2.1.later A.o.2
  have p0:=hM.c0
  have hbx:u.heap[S]? =some (.cells #[.int .i64 a,.string s,.string c,.int .i64 t,.int .i64 b] 89 (0,0)):=(A.o.2.block S qh).trans HU.o.2.2.1
  have x0:u.cell? ⟨S,0,none⟩=some (.int .i64 a):=zX
  have x1:u.cell? ⟨S,1,none⟩=some (.string s):=zX
  by_cases hlt:k<L.length
  ·have hltz:decide ((k:Int)<(L.length:Int))=true:=by simp;omega
   have hltn:decide (k<L.length)=true:=decide_eq_true hlt
   have bk:(k:Int)<(L.length:Int):=zj
   obtain ⟨⟨⟨a',s'⟩,⟨c',⟨t',b'⟩⟩⟩,hl⟩:∃l,Aside (L[k]? =some l):=⟨L[k],vF hlt⟩
   obtain ⟨blk,off,rfl,f0,f1,f2,f3,f4⟩:=(sG cQ hM.row).mark hl.o
   clear hM hbx f2 f3 f4
   by_cases h2:a'=a
   ·have d2:(a'==a)=true:=by simp [h2]
    by_cases h3:s'=s
    ·have d3:(s'.toList==s.toList)=true:=(mN _ _).trans (decide_eq_true h3)
     have HK:=Lib.hid (show (a',s')=(a,s) from Prod.ext h2 h3)
     clear h2 h3
     go_quiet (fail)
     go_wp2
     go_meet
     exact ⟨true,rfl,⟨fun _=>⟨_,by rw [hl.o,HK.o]⟩,fun _=>rfl⟩,dZ A.o.2 _⟩
    have d3:(s'.toList==s.toList)=false:=(mN _ _).trans (decide_eq_false h3)
    have HK:=Lib.hid (show (a',s')≠(a,s) from fun e=>h3 (Prod.mk.inj e).2)
    clear h2 h3
    exact kg9
   have d2:(a'==a)=false:=by simp [h2]
   have HK:=Lib.hid (show (a',s')≠(a,s) from fun e=>h2 (Prod.mk.inj e).1)
   clear h2
   exact kg9
  have hltz:decide ((k:Int)<(L.length:Int))=false:=zq
  have hltn:decide (k<L.length)=false:=decide_eq_false hlt
  clear hM hbx
  go_quiet (fail)
  go_wp2
  go_meet
  exact ⟨false,rfl,⟨fun e=>yE,fun ⟨o,e⟩=>by rw [List.getElem?_eq_none zj] at e;cases e⟩,dZ A.o.2 _⟩
 obtain ⟨z,rfl,Z⟩:=hcut
 obtain ⟨u2,hu2⟩:=zc wc
 subst hu2
 have hM:=HU.o.2.2.2.1.later Z.o.2
 have hbx:u2.heap[S]? =some (.cells #[.int .i64 a,.string s,.string c,.int .i64 t,.int .i64 b] 89 (0,0)):=(Z.o.2.block S qh).trans HU.o.2.2.1
 have hbw:Below w.heap.size w u2:=zi HU.o.1 Z.o.2
 cases z with
 | true=>
  obtain ⟨⟨c',t',b'⟩,hl⟩:=Z.o.1.1 rfl
  have hlt:k<L.length:=(vA.1 hl).1
  have bk:(k:Int)<(L.length:Int):=zj
  obtain ⟨hlay,hlaid⟩:=ER (m:=((a,s),(c,(t,b)))) A.o.1 hl
  obtain ⟨g,rfl⟩:∃g,ao=some ⟨g,0,none⟩:=by
   rcases hM.row.2 with ⟨h1,h2⟩ | ⟨g,cap',cur,hv,_⟩
   ·omega
   cases hv;exact ⟨g,rfl⟩
  obtain ⟨blk,off,hao,f0,f1,f2,f3,f4⟩:=(sG cQ hM.row).mark hl
  obtain ⟨rfl,rfl⟩:g=blk/\0=off:=by simpa using hao
  rw [vQ] at f0 f1 f2 f3 f4
  have HS5:StampCells U p S g (k*5) (.slice (some ⟨g,0,none⟩) L.length cap) t' b' t b u2:=⟨hM.c0,f3,f4,zX,zX,Z.o.2⟩
  have HM:Aside (rp L ((a,s),(c,(t,b)))=(if CLt (t',b') (t,b) then L.set k ((a,s),(c,(t,b))) else L)/\ii L ((a,s),(c,(t,b)))=decide (CLt (t',b') (t,b))/\L[k]? =some ((a,s),(c',(t',b')))):=⟨hlay,hlaid,hl⟩
  clear hao f0 f1 f2 f3 f4 hlay hlaid hl hM hbx hbw
  go_wp2_with fail
  go_region_held3 (StampCells U p S g (k*5) (.slice (some ⟨g,0,none⟩) L.length cap) t' b' t b)
   (first
    | with_reducible assumption
    | with_reducible exact StampCells.drew yS
    | with_reducible exact StampCells.later yS yS)
   (first | (go_at_call 27;refine (BZ _ _ _ _ _).mono ?_;rintro e wi ⟨rfl,hbi⟩))
  rename_i hHeld
  have hB3:Below U.heap.size U wi:=hHeld.2.2.2.2.2
  clear hHeld HS5 hbi
  cases hz:bM t' b' t b with
  | false=>
   have HP:Aside (ii L ((a,s),(c,(t,b)))=false/\LaidIn base w p (.slice (some ⟨g,0,none⟩) L.length cap) (rp L ((a,s),(c,(t,b)))) wi):=by
    have hd:decide (CLt (t',b') (t,b))=false:=(Fd _ _ _ _).symm.trans hz
    have hbw:Below w.heap.size w wi:=zi HU.o.1 hB3
    refine ⟨HM.o.2.1.trans hd,_,?_,(aX hbw).mono (fun i hi e=>zj),fun g hg=>.inl hg⟩
    rw [HM.o.1,if_neg (of_decide_eq_false hd)]
    exact HU.o.2.2.2.1.later hB3
   clear hB3
   go_wp2
   go_ret
   exact ⟨by rw [HP.o.1];rfl,HP.o.2⟩
  | true=>
   have hM:=HU.o.2.2.2.1.later hB3
   have hbx:wi.heap[S]? =some (.cells #[.int .i64 a,.string s,.string c,.int .i64 t,.int .i64 b] 89 (0,0)):=(hB3.block S qh).trans HU.o.2.2.1
   have p0:=hM.c0
   have x0:wi.cell? ⟨S,0,none⟩=some (.int .i64 a):=zX
   have x1:wi.cell? ⟨S,1,none⟩=some (.string s):=zX
   have x2:wi.cell? ⟨S,2,none⟩=some (.string c):=zX
   have x3:wi.cell? ⟨S,3,none⟩=some (.int .i64 t):=zX
   have x4:wi.cell? ⟨S,4,none⟩=some (.int .i64 b):=zX
   obtain ⟨blk,off,hao,f0,f1,f2,f3,f4⟩:=(sG cQ hM.row).mark HM.o.2.2
   obtain ⟨rfl,rfl⟩:g=blk/\0=off:=by simpa using hao
   rw [vQ] at f0 f1 f2 f3 f4
   have hgl:=hM.ne g rfl
   have z0:=hM.row.frozenAt (k*5)
   have z1:=hM.row.frozenAt (k*5+1)
   have z2:=hM.row.frozenAt (k*5+2)
   have z3:=hM.row.frozenAt (k*5+3)
   have z4:=hM.row.frozenAt (k*5+4)
   have HP:Aside (ii L ((a,s),(c,(t,b)))=true/\LaidIn base w p (.slice (some ⟨g,0,none⟩) L.length cap) (rp L ((a,s),(c,(t,b)))) (wi.setCells g (k*5) [.int .i64 a,.string s,.string c,.int .i64 t,.int .i64 b]).drew):=by
    have hd:decide (CLt (t',b') (t,b))=true:=(Fd _ _ _ _).symm.trans hz
    have hbw:Below w.heap.size w wi:=zi HU.o.1 hB3
    have hks:=aZ g [.int .i64 a,.string s,.string c,.int .i64 t,.int .i64 b] (k*5) wi
    have hrow:=LZ hM.row hlt a s c t b
    refine ⟨HM.o.2.1.trans hd,.slice (some ⟨g,0,none⟩) L.length cap,?_,((aX hbw).mono (fun i hi e=>zj)).then hks.drew (fun i hi e=>.inr vd),fun g hg=>.inl hg⟩
    rw [HM.o.1,if_pos (of_decide_eq_true hd)]
    refine ⟨(hks.block p hM.lt (fun e=>hgl.1 e.symm)).trans hM.cell,?_,hM.low⟩
    rw [ZY]
    exact hrow
   clear hB3 hM hbx hao hgl
   go_wp2_with fail
   go_region
   all_goals
    go_wp2
    go_ret
    exact ⟨by rw [HP.o.1];rfl,HP.o.2⟩
 | false=>
  have HN:Aside (rp L ((a,s),(c,(t,b)))=L.take k++((a,s),(c,(t,b)))::L.drop k/\ii L ((a,s),(c,(t,b)))=true):=Ga (m:=((a,s),(c,(t,b)))) A.o.1 (fun h=>by have:=Z.o.1.2 h;cases this)
  obtain ⟨v1,W1,v3,W3,⟨a1,c1,rfl⟩,⟨a3,c3,rfl⟩,r1,r3,hk1,p3,hI3,FIN⟩:=IN u2 base p k ao cap L a s c t b hM (by have:=HU.o.2.2.2.2;have:=HU.o.2.1;have:=Z.o.2.size;omega) hL hkl
  have p0:=hM.c0
  have hbx1:W1.heap[S]? =some (.cells #[.int .i64 a,.string s,.string c,.int .i64 t,.int .i64 b] 89 (0,0)):=(hk1.block S (vD.1 hbx).1 (fun e=>e)).trans hbx
  have x0:W1.cell? ⟨S,0,none⟩=some (.int .i64 a):=qk
  have x1:W1.cell? ⟨S,1,none⟩=some (.string s):=qk
  have x2:W1.cell? ⟨S,2,none⟩=some (.string c):=qk
  have x3:W1.cell? ⟨S,3,none⟩=some (.int .i64 t):=qk
  have x4:W1.cell? ⟨S,4,none⟩=some (.int .i64 b):=qk
  have HF:=Lib.hid FIN
  have HI:=Lib.hid hI3
  have HW:Aside (Below w.heap.size w u2):=hbw
  have hcase:(ao=none/\L.length=0/\cap=0)\/∃g,ao=some ⟨g,0,none⟩/\L.length<=cap:=by
   rcases hM.row.2 with ⟨h1,h2⟩ | ⟨g',cap',cur,hv,_,_,h3,_⟩
   ·simp only [Value.slice.injEq] at h1
    exact .inl ⟨h1.1,h2,h1.2.2⟩
   simp only [Value.slice.injEq] at hv
   exact .inr ⟨g',hv.1,by rw [hv.2.2];exact h3⟩
  have fin:∀(v4:Value) (W4:World),(MksAt base (W4.setCell ⟨p,0,none⟩ v4) p v4 (L.take k++((a,s),(c,(t,b)))::L.drop k)/\Keeps (fun b=>b=p) u2 (W4.setCell ⟨p,0,none⟩ v4)/\(∀g,v4.ownBlock=some g->u2.heap.size<=g))->LaidIn base w p (.slice ao L.length cap) (rp L ((a,s),(c,(t,b)))) (W4.setCell ⟨p,0,none⟩ v4):=fun v4 W4 h4=>by
   rw [HN.o.1]
   exact ⟨v4,h4.1,((aX HW.o).mono (fun i hi e=>zj)).then h4.2.1 (fun i hi e=>.inl e),fun g hg=>.inr (vI HW.o.size (h4.2.2 g hg))⟩
  have FF:=Lib.hid fin
  clear FIN hI3 hbw hM hbx hbx1 hk1 fin
  rcases hcase with ⟨rfl,hL0,rfl⟩ | ⟨g,rfl,hcap⟩
  ·obtain rfl:k=0:=by omega
   obtain ⟨v4,W4,⟨a4,n4,c4,rfl⟩,r4,p4,z4,H4⟩:=HF.o none 0 (.inl (ZQ zj)) (fun _=>rfl)
   rw [hL0] at p0 p3 r4 p4
   have HQ:=Lib.hid (FF.o _ _ H4)
   clear HF HI FF H4
   exact kb5
  by_cases hck:cap=k
  ·subst hck
   have hd0:L.drop cap= []:=Za zj
   obtain ⟨v4,W4,⟨a4,n4,c4,rfl⟩,r4,p4,z4,H4⟩:=HF.o (some ⟨g,0,none⟩) 0 (.inl hd0) (fun e=>qE)
   have HQ:=Lib.hid (FF.o _ _ H4)
   have hz:L.length - cap=0:=zj
   rw [hz] at r4
   clear HF HI FF H4 hd0 hz
   exact kb5
  obtain ⟨v4,W4,⟨a4,n4,c4,rfl⟩,r4,p4,z4,H4⟩:=HF.o _ (cap - k) HI.o (fun e=>qE)
  have HQ:=Lib.hid (FF.o _ _ H4)
  simp only [Zu,Addr.add_lit,vQ] at r4
  clear HF HI FF H4
  exact kb5
