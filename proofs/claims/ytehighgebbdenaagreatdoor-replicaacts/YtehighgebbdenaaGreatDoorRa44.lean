import Derived.Test.YtehighgebbdenaaGreatDoorRa43
set_option linter.unusedVariables false
set_option linter.unusedSimpArgs false
set_option maxRecDepth 100000
set_option maxHeartbeats 64000000
namespace Go.Proofs.YtehighgebbdenaaGreatDoor
open Go.Proofs.Tryz
variable {m:bU×aG} {b b' by_ t t':Int} {L:List (bU×aG)} {S:List OpX} {cap g i k o p:Nat} {ao:Option Addr} {v:Value} {U w w':World}
section
open Go Go.RowKit
theorem mJ (x y:ByteArray):(x.toList==y.toList)=decide (x=y):=by
 rw [uH,uH];by_cases h:x=y
 ·subst h;simp
 have:x.data.toList≠y.data.toList:=fun e=>h (wa e)
 rw [decide_eq_false h];exact beq_false_of_ne this
theorem DP {o:aG} (hk:k=bG m.1 L) (ho:L[k]? =some (m.1,o)):rZ L m=(if CLt o.2 m.2.2 then L.set k m else L)/\kW L m=decide (CLt o.2 m.2.2):=by
 subst hk;unfold rZ kW;rw [ho];exact ⟨if_pos rfl,if_pos rfl⟩
theorem GH (hk:k=bG m.1 L) (ho:¬∃o,L[k]? =some (m.1,o)):rZ L m=L.take k++m::L.drop k/\kW L m=true:=by
 subst hk;unfold rZ kW
 cases hs:L[bG m.1 L]? with
 | none=>exact ⟨rfl,rfl⟩
 | some o=>
  have hne:o.1≠m.1:=fun e=>ho ⟨o.2,by rw [hs,<-e]⟩
  exact ⟨if_neg hne,if_neg hne⟩
abbrev StampCells (U:World) (p S g o:Nat) (v:Value) (t' b' t b:Int) (w:World):Prop:=w.cell? ⟨p,0,none⟩=some v/\w.cell? ⟨g,o+3,none⟩=some (.int .i64 t')/\w.cell? ⟨g,o+4,none⟩=some (.int .i64 b')/\w.cell? ⟨S,3,none⟩=some (.int .i64 t)/\w.cell? ⟨S,4,none⟩=some (.int .i64 b)/\Below U.heap.size U w
theorem StampCells.later {S:Nat} (h:StampCells U p S g o v t' b' t b w) (hb:Below w.heap.size w w'):StampCells U p S g o v t' b' t b w':=
 ⟨dO hb h.1,dO hb h.2.1,dO hb h.2.2.1,dO hb h.2.2.2.1,dO hb h.2.2.2.2.1,zj h.2.2.2.2.2 hb⟩
theorem StampCells.drew {U w:World} {p S g o:Nat} {v:Value} {t' b' t b:Int} (h:StampCells U p S g o v t' b' t b w):StampCells U p S g o v t' b' t b w.drew:=h.later (vP _ _).drew
theorem dU {B:Nat} (h:Below B w w') (q:Nat):Below B w (w'.drewN q):=⟨h.os,h.tape,h.output,h.size,h.block⟩
theorem FY (t b t' b':Int):bL t b t' b'=decide (CLt (t,b) (t',b')):=by
 unfold bL CLt;by_cases h:t=t'
 ·rw [if_pos h];simp [h]
 rw [if_neg h];simp [h]
theorem JX {base:Nat} (h:w.ownsRow base 159 5 (.slice (some ⟨g,0,none⟩) L.length cap) L.length (aA kA L)) (hk:k<L.length) (a:Int) (s c:ByteArray) (t b:Int):
  (w.setCells g (k*5) [.int .i64 a,.string s,.string c,.int .i64 t,.int .i64 b]).ownsRow base 159 5 (.slice (some ⟨g,0,none⟩) L.length cap) L.length (aA kA (L.set k ((a,s),(c,(t,b))))):=by
 have h1:=dN (enc:=kA) (k:=5) cO L k hk ((a,s),(c,(t,b)));have h2:=dN (enc:=kA) (k:=5) cO L k hk L[k];rw [Yj hk] at h2;rw [h2] at h;rw [h1];have:=ff (vs:=kA ((a,s),(c,(t,b)))) h rfl;rwa [show ((aA kA L).take (k*5)).length=k*5 by rw [ug,bR cO];omega] at this
theorem GZ (w:World) (base p:Nat) (v:Value) (L:List (bU×aG)) (a:Int) (s c:ByteArray) (t b:Int) (h:MksAt base w p v L) (hbase:base<=w.heap.size) (hL:L.length<=900):
  Calls prog 206 #[.pointer (some ⟨p,0,none⟩),.agg #[.int .i64 a,.string s,.string c,.int .i64 t,.int .i64 b]] w fun e w'=>e= .returned (.bool (kW L ((a,s),(c,(t,b)))))/\LaidIn base w p v (rZ L ((a,s),(c,(t,b)))) w':=by
 obtain ⟨ao,cap,rfl⟩:=fD h.row
 obtain ⟨S,hS⟩:∃S,Aside (w.heap.size=S):=⟨_,rfl⟩
 obtain ⟨U,hU⟩:=zc (w.alloc (.cells #[.int .i64 a,.string s,.string c,.int .i64 t,.int .i64 b] 159));have hb0:Below w.heap.size w U:=zW
 have hsU:U.heap.size=w.heap.size+1:=by rw [hU];simp
 have hu:U.heap[w.heap.size]? =some (.cells #[.int .i64 a,.string s,.string c,.int .i64 t,.int .i64 b] 159 (0,0)):=xr;rw [hS.o] at hu hsU
 have HU:Aside (Below w.heap.size w U/\U.heap.size=S+1/\U.heap[S]? =some (.cells #[.int .i64 a,.string s,.string c,.int .i64 t,.int .i64 b] 159 (0,0))/\MksAt base U p (.slice ao L.length cap) L/\base<=S):=⟨hb0,hsU,hu,h.later hb0,by have:=hS.o;omega⟩
 clear hb0 hsU hu h hbase;go_enter func206,ntmps206;go_upto_region 1 with fail;rw [<-hU,hS.o];clear hU
 iterate 8 (first | go_values | go_skip | go_guarded | go_step | go_upon | go_back)
 go_cut [5] (fun s5 wx=>∃k:Nat,s5= .int .i64 (k:Int)/\k<=L.length/\Aside (k=bG (a,s) L/\Below U.heap.size U wx))
 case first=>
  go_wp2;go_loopg [5] L.length (fun kx s5 wr=>∃(k:Nat),s5= .int .i64 (k:Int)/\k<=L.length/\L.length - k<=kx/\Aside ((∀(j:Nat) m,j<k->L[j]? =some m->KLt m.1 (a,s))/\Below U.heap.size U wr))
  case atStart=>exact ⟨0,rfl,vV _,vM _,fun j m hj=>zo,vP _ _⟩
  case round=>
   obtain ⟨k,rfl,hkl,hkx,A⟩:=hrel;obtain ⟨u,hu⟩:=zc wr;subst hu;have hM:=HU.o.2.2.2.1.later A.o.2;have p0:=hM.c0;have hbx:u.heap[S]? =some (.cells #[.int .i64 a,.string s,.string c,.int .i64 t,.int .i64 b] 159 (0,0)):=(A.o.2.block S qL).trans HU.o.2.2.1;have x0:u.cell? ⟨S,0,none⟩=some (.int .i64 a):=ya;have x1:u.cell? ⟨S,1,none⟩=some (.string s):=ya;by_cases hlt:k<L.length
   ·have hltz:decide ((k:Int)<(L.length:Int))=true:=by simp;omega
    have hltn:decide (k<L.length)=true:=decide_eq_true hlt;have ek:((k:Int)).toNat=k:=zo;have pk:(0:Int)<=(k:Int):=zo;have bk:(k:Int)<(L.length:Int):=zo
    obtain ⟨⟨⟨a',s'⟩,⟨c',⟨t',b'⟩⟩⟩,hl⟩:∃l,Aside (L[k]? =some l):=⟨L[k],vN hlt⟩
    obtain ⟨blk,off,rfl,f0,f1,f2,f3,f4⟩:=(tM cO hM.row).mark hl.o;clear hM hbx f2 f3 f4;by_cases h1:a'<a
    ·have d1:decide (a'<a)=true:=decide_eq_true h1;go_wp2_with fail;go_quiet (fail);go_wp2;go_roundg (L.length - (k+1))
     case measure=>omega
     case rel=>
      refine ⟨k+1,zD,zo,vM _,fun j m hj e=> ?_,⟨A.o.2.os,A.o.2.tape,A.o.2.output,A.o.2.size,A.o.2.block⟩⟩
      rcases uJ j k with q | q
      ·exact A.o.1 j m q e
      obtain rfl:j=k:=zo;rw [hl.o] at e
      cases e
      exact .inl h1
    have d1:decide (a'<a)=false:=decide_eq_false h1;by_cases h2:a'=a
    ·have d2:(a'==a)=true:=by simp [h2]
     by_cases h3:s'.data.toList<s.data.toList
     ·have d3:Op.bytesLess s'.toList s.toList=true:=(gQ _ _).trans (decide_eq_true h3);have HK:=Lib.hid (show KLt (a',s') (a,s) from .inr ⟨h2,h3⟩);clear h2 h3;go_wp2_with fail;go_quiet (fail);go_wp2;go_roundg (L.length - (k+1))
      case measure=>omega
      case rel=>
       refine ⟨k+1,zD,zo,vM _,fun j m hj e=> ?_,dU A.o.2 _⟩
       rcases uJ j k with q | q
       ·exact A.o.1 j m q e
       obtain rfl:j=k:=zo;rw [hl.o] at e
       cases e
       exact HK.o
     have d3:Op.bytesLess s'.toList s.toList=false:=(gQ _ _).trans (decide_eq_false h3);have HK:=Lib.hid (show ¬KLt (a',s') (a,s) from fun q=>q.elim (fun q=>h1 q) (fun q=>h3 q.2));clear h2 h3;exact ki1
    have d2:(a'==a)=false:=by simp [h2]
    have HK:=Lib.hid (show ¬KLt (a',s') (a,s) from fun q=>q.elim (fun q=>h1 q) (fun q=>h2 q.1));clear h2;exact ki1
   have hltz:decide ((k:Int)<(L.length:Int))=false:=zr;have hltn:decide (k<L.length)=false:=decide_eq_false hlt;clear hM hbx;go_wp2_with fail;go_quiet (fail);go_wp2;go_meet;exact ⟨k,rfl,hkl,(oC (a,s) L k hkl A.o.1 (fun m e=>by rw [ZN zo] at e;cases e)).symm,dU A.o.2 _⟩
 obtain ⟨k,rfl,hkl,A⟩:=hcut;obtain ⟨u,hu⟩:=zc wc;subst hu;have ek:((k:Int)).toNat=k:=zo;have pk:(0:Int)<=(k:Int):=zo;go_upto_region 4 with fail;go_cut [87] (fun s87 wx=>∃z:Bool,s87= .bool z/\Aside ((z=true↔∃o,L[k]? =some ((a,s),o))/\Below U.heap.size U wx))
 case first=>
  have hM:=HU.o.2.2.2.1.later A.o.2;have p0:=hM.c0;have hbx:u.heap[S]? =some (.cells #[.int .i64 a,.string s,.string c,.int .i64 t,.int .i64 b] 159 (0,0)):=(A.o.2.block S qL).trans HU.o.2.2.1;have x0:u.cell? ⟨S,0,none⟩=some (.int .i64 a):=ya;have x1:u.cell? ⟨S,1,none⟩=some (.string s):=ya;by_cases hlt:k<L.length
  ·have hltz:decide ((k:Int)<(L.length:Int))=true:=by simp;omega
   have hltn:decide (k<L.length)=true:=decide_eq_true hlt;have bk:(k:Int)<(L.length:Int):=zo
   obtain ⟨⟨⟨a',s'⟩,⟨c',⟨t',b'⟩⟩⟩,hl⟩:∃l,Aside (L[k]? =some l):=⟨L[k],vN hlt⟩
   obtain ⟨blk,off,rfl,f0,f1,f2,f3,f4⟩:=(tM cO hM.row).mark hl.o;clear hM hbx f2 f3 f4;by_cases h2:a'=a
   ·have d2:(a'==a)=true:=by simp [h2]
    by_cases h3:s'=s
    ·have d3:(s'.toList==s.toList)=true:=(mJ _ _).trans (decide_eq_true h3);have HK:=Lib.hid (show (a',s')=(a,s) from Prod.ext h2 h3);clear h2 h3;go_quiet (fail);go_wp2;go_meet;exact ⟨true,rfl,⟨fun _=>⟨_,by rw [hl.o,HK.o]⟩,fun _=>rfl⟩,dU A.o.2 _⟩
    have d3:(s'.toList==s.toList)=false:=(mJ _ _).trans (decide_eq_false h3);have HK:=Lib.hid (show (a',s')≠(a,s) from fun e=>h3 (Prod.mk.inj e).2);clear h2 h3;exact ki2
   have d2:(a'==a)=false:=by simp [h2]
   have HK:=Lib.hid (show (a',s')≠(a,s) from fun e=>h2 (Prod.mk.inj e).1);clear h2;exact ki2
  have hltz:decide ((k:Int)<(L.length:Int))=false:=zr;have hltn:decide (k<L.length)=false:=decide_eq_false hlt;clear hM hbx;go_quiet (fail);go_wp2;go_meet;exact ⟨false,rfl,⟨fun e=>yL,fun ⟨o,e⟩=>by rw [ZN zo] at e;cases e⟩,dU A.o.2 _⟩
 obtain ⟨z,rfl,Z⟩:=hcut;obtain ⟨u2,hu2⟩:=zc wc;subst hu2;have hM:=HU.o.2.2.2.1.later Z.o.2;have hbx:u2.heap[S]? =some (.cells #[.int .i64 a,.string s,.string c,.int .i64 t,.int .i64 b] 159 (0,0)):=(Z.o.2.block S qL).trans HU.o.2.2.1;have hbw:Below w.heap.size w u2:=zj HU.o.1 Z.o.2
 cases z with
 | true=>
  obtain ⟨⟨c',t',b'⟩,hl⟩:=Z.o.1.1 rfl;have hlt:k<L.length:=(vL.1 hl).1;have bk:(k:Int)<(L.length:Int):=zo;obtain ⟨hlay,hlaid⟩:=DP (m:=((a,s),(c,(t,b)))) A.o.1 hl
  obtain ⟨g,rfl⟩:∃g,ao=some ⟨g,0,none⟩:=by
   rcases hM.row.2 with ⟨h1,h2⟩ | ⟨g,cap',cur,hv,_⟩
   ·omega
   cases hv;exact ⟨g,rfl⟩
  obtain ⟨blk,off,hao,f0,f1,f2,f3,f4⟩:=(tM cO hM.row).mark hl
  obtain ⟨rfl,rfl⟩:g=blk/\0=off:=by simpa using hao
  rw [vY] at f0 f1 f2 f3 f4
  have HS5:StampCells U p S g (k*5) (.slice (some ⟨g,0,none⟩) L.length cap) t' b' t b u2:=⟨hM.c0,f3,f4,ya,ya,Z.o.2⟩
  have HM:Aside (rZ L ((a,s),(c,(t,b)))=(if CLt (t',b') (t,b) then L.set k ((a,s),(c,(t,b))) else L)/\kW L ((a,s),(c,(t,b)))=decide (CLt (t',b') (t,b))/\L[k]? =some ((a,s),(c',(t',b')))):=⟨hlay,hlaid,hl⟩
  clear hao f0 f1 f2 f3 f4 hlay hlaid hl hM hbx hbw;go_wp2_with fail
  go_region_held3 (StampCells U p S g (k*5) (.slice (some ⟨g,0,none⟩) L.length cap) t' b' t b)
   (first
    | with_reducible assumption
    | with_reducible exact StampCells.drew jp
    | with_reducible exact StampCells.later jp jp)
   (first | (go_at_call 57;refine (CN _ _ _ _ _).mono ?_;rintro e wi ⟨rfl,hbi⟩))
  rename_i hHeld;have hB3:Below U.heap.size U wi:=hHeld.2.2.2.2.2;clear hHeld HS5 hbi
  cases hz:bL t' b' t b with
  | false=>
   have HP:Aside (kW L ((a,s),(c,(t,b)))=false/\LaidIn base w p (.slice (some ⟨g,0,none⟩) L.length cap) (rZ L ((a,s),(c,(t,b)))) wi):=by
    have hd:decide (CLt (t',b') (t,b))=false:=(FY _ _ _ _).symm.trans hz;have hbw:Below w.heap.size w wi:=zj HU.o.1 hB3;refine ⟨HM.o.2.1.trans hd,_,?_,(aW hbw).mono (fun i hi e=>zo),fun g hg=>.inl hg⟩;rw [HM.o.1,if_neg (of_decide_eq_false hd)];exact HU.o.2.2.2.1.later hB3
   clear hB3;go_wp2;go_ret;exact ⟨by rw [HP.o.1];rfl,HP.o.2⟩
  | true=>
   have hM:=HU.o.2.2.2.1.later hB3;have hbx:wi.heap[S]? =some (.cells #[.int .i64 a,.string s,.string c,.int .i64 t,.int .i64 b] 159 (0,0)):=(hB3.block S qL).trans HU.o.2.2.1;have p0:=hM.c0;have x0:wi.cell? ⟨S,0,none⟩=some (.int .i64 a):=ya;have x1:wi.cell? ⟨S,1,none⟩=some (.string s):=ya;have x2:wi.cell? ⟨S,2,none⟩=some (.string c):=ya;have x3:wi.cell? ⟨S,3,none⟩=some (.int .i64 t):=ya;have x4:wi.cell? ⟨S,4,none⟩=some (.int .i64 b):=ya;obtain ⟨blk,off,hao,f0,f1,f2,f3,f4⟩:=(tM cO hM.row).mark HM.o.2.2
   obtain ⟨rfl,rfl⟩:g=blk/\0=off:=by simpa using hao
   rw [vY] at f0 f1 f2 f3 f4;have hgl:=hM.ne g rfl;have z0:=hM.row.frozenAt (k*5);have z1:=hM.row.frozenAt (k*5+1);have z2:=hM.row.frozenAt (k*5+2);have z3:=hM.row.frozenAt (k*5+3);have z4:=hM.row.frozenAt (k*5+4)
   have HP:Aside (kW L ((a,s),(c,(t,b)))=true/\LaidIn base w p (.slice (some ⟨g,0,none⟩) L.length cap) (rZ L ((a,s),(c,(t,b)))) (wi.setCells g (k*5) [.int .i64 a,.string s,.string c,.int .i64 t,.int .i64 b]).drew):=by
    have hd:decide (CLt (t',b') (t,b))=true:=(FY _ _ _ _).symm.trans hz;have hbw:Below w.heap.size w wi:=zj HU.o.1 hB3;have hks:=aZ g [.int .i64 a,.string s,.string c,.int .i64 t,.int .i64 b] (k*5) wi;have hrow:=JX hM.row hlt a s c t b;refine ⟨HM.o.2.1.trans hd,.slice (some ⟨g,0,none⟩) L.length cap,?_,((aW hbw).mono (fun i hi e=>zo)).then hks.drew (fun i hi e=>.inr vg),fun g hg=>.inl hg⟩;rw [HM.o.1,if_pos (of_decide_eq_true hd)];refine ⟨(hks.block p hM.lt (fun e=>hgl.1 e.symm)).trans hM.cell,?_,hM.low⟩;rw [Zt];exact hrow
   clear hB3 hM hbx hao hgl;go_wp2_with fail;go_region
   all_goals
    go_wp2;go_ret;exact ⟨by rw [HP.o.1];rfl,HP.o.2⟩
 | false=>
  have HN:Aside (rZ L ((a,s),(c,(t,b)))=L.take k++((a,s),(c,(t,b)))::L.drop k/\kW L ((a,s),(c,(t,b)))=true):=GH (m:=((a,s),(c,(t,b)))) A.o.1 (fun h=>by have:=Z.o.1.2 h;cases this);obtain ⟨v1,W1,v3,W3,⟨a1,c1,rfl⟩,⟨a3,c3,rfl⟩,r1,r3,hk1,p3,hI3,FIN⟩:=Hm u2 base p k ao cap L a s c t b hM (by have:=HU.o.2.2.2.2;have:=HU.o.2.1;have:=Z.o.2.size;omega) hL hkl;have p0:=hM.c0;have hbx1:W1.heap[S]? =some (.cells #[.int .i64 a,.string s,.string c,.int .i64 t,.int .i64 b] 159 (0,0)):=(hk1.block S (vO.1 hbx).1 (fun e=>e)).trans hbx;have x0:W1.cell? ⟨S,0,none⟩=some (.int .i64 a):=qm;have x1:W1.cell? ⟨S,1,none⟩=some (.string s):=qm;have x2:W1.cell? ⟨S,2,none⟩=some (.string c):=qm;have x3:W1.cell? ⟨S,3,none⟩=some (.int .i64 t):=qm;have x4:W1.cell? ⟨S,4,none⟩=some (.int .i64 b):=qm;have HF:=Lib.hid FIN;have HI:=Lib.hid hI3;have HW:Aside (Below w.heap.size w u2):=hbw
  have hcase:(ao=none/\L.length=0/\cap=0)\/∃g,ao=some ⟨g,0,none⟩/\L.length<=cap:=by
   rcases hM.row.2 with ⟨h1,h2⟩ | ⟨g',cap',cur,hv,_,_,h3,_⟩
   ·simp only [Value.slice.injEq] at h1;exact .inl ⟨h1.1,h2,h1.2.2⟩
   simp only [Value.slice.injEq] at hv;exact .inr ⟨g',hv.1,by rw [hv.2.2];exact h3⟩
  have fin:∀(v4:Value) (W4:World),(MksAt base (W4.setCell ⟨p,0,none⟩ v4) p v4 (L.take k++((a,s),(c,(t,b)))::L.drop k)/\Keeps (fun b=>b=p) u2 (W4.setCell ⟨p,0,none⟩ v4)/\(∀g,v4.ownBlock=some g->u2.heap.size<=g))->LaidIn base w p (.slice ao L.length cap) (rZ L ((a,s),(c,(t,b)))) (W4.setCell ⟨p,0,none⟩ v4):=fun v4 W4 h4=>by
   rw [HN.o.1];exact ⟨v4,h4.1,((aW HW.o).mono (fun i hi e=>zo)).then h4.2.1 (fun i hi e=>.inl e),fun g hg=>.inr (uf HW.o.size (h4.2.2 g hg))⟩
  have FF:=Lib.hid fin;clear FIN hI3 hbw hM hbx hbx1 hk1 fin
  rcases hcase with ⟨rfl,hL0,rfl⟩ | ⟨g,rfl,hcap⟩
  ·obtain rfl:k=0:=by omega
   obtain ⟨v4,W4,⟨a4,n4,c4,rfl⟩,r4,p4,z4,H4⟩:=HF.o none 0 (.inl (Yd zo)) (fun _=>rfl);rw [hL0] at p0 p3 r4 p4;have HQ:=Lib.hid (FF.o _ _ H4);clear HF HI FF H4;exact kb7
  by_cases hck:cap=k
  ·subst hck;have hd0:L.drop cap= []:=Zk zo;obtain ⟨v4,W4,⟨a4,n4,c4,rfl⟩,r4,p4,z4,H4⟩:=HF.o (some ⟨g,0,none⟩) 0 (.inl hd0) (fun e=>qt);have HQ:=Lib.hid (FF.o _ _ H4);have hz:L.length - cap=0:=zo;rw [hz] at r4;clear HF HI FF H4 hd0 hz;exact kb7
  obtain ⟨v4,W4,⟨a4,n4,c4,rfl⟩,r4,p4,z4,H4⟩:=HF.o _ (cap - k) HI.o (fun e=>qt);have HQ:=Lib.hid (FF.o _ _ H4);simp only [Zs,Addr.add_lit,vY] at r4;clear HF HI FF H4;exact kb7
end
section
open Go Go.RowKit Go.Maps
def kF (L:List (bU×aG)) (x:OpX):List (bU×aG):=if an x=0/\x.2.2.2.1=115 then rZ L (Iu x,oW x) else L
def nz (L:List (bU×aG)) (x:OpX):Bool:=if an x=0/\x.2.2.2.1=115 then kW L (Iu x,oW x) else false
theorem Lists.set {f:cA} (h:Lists f L) (x:OpX):Lists (kC f x) (kF L x)/\nz L x=FR f x:=by
 unfold kC kF nz FR;by_cases hx:an x=0/\x.2.2.2.1=115
 ·simp only [if_pos hx];exact ⟨h.lay _,h.laid _⟩
 simp only [if_neg hx];exact ⟨h,trivial⟩
theorem En (L:List (bU×aG)) (x:OpX):(kF L x).length<=L.length+1:=by
 unfold kF;split
 ·exact Fd _ _
 omega
theorem sF {base:Nat} (h:MksAt base w p v L) (hb:Below w.heap.size w w'):LaidIn base w p v L w':=
 ⟨v,h.later hb,(aW hb).mono (fun i hi e=>zo),fun g hg=>.inl hg⟩
theorem GT (w:World) (base p:Nat) (v:Value) (L:List (bU×aG)) (t b n:Int) (k:Nat) (node other:Int) (name value:ByteArray) (h:MksAt base w p v L) (hbase:base<=w.heap.size) (hL:L.length<=900) (hsn:name.size<=1000000) (hsv:value.size<=1000000):
  Calls prog 150 #[.pointer (some ⟨p,0,none⟩),.agg #[.int .i64 t,.int .i64 b,.int .i64 n,.int .u8 (k:Int),.int .i64 node,.int .i64 other,.string name,.string value]] w fun e w'=>e= .returned (.tuple #[.bool (nz L (t,b,n,k,node,other,name,value)),.int .i64 ((iK (t,b,n,k,node,other,name,value):Nat):Int)])/\LaidIn base w p v (kF L (t,b,n,k,node,other,name,value)) w':=by
 obtain ⟨w1,hw1⟩:=zc (w.alloc (.cells #[.int .i64 t,.int .i64 b,.int .i64 n,.int .u8 (k:Int),.int .i64 node,.int .i64 other,.string name,.string value] 38));have O1:OpAt w1 w.heap.size t b n k node other name value:=xM;have B1:Below w.heap.size w w1:=xw;have hro:=mS t b n k node other name value w1 hsn hsv
 obtain ⟨er,her⟩:∃er,Aside (opE t b n k node other name.data.toList value.data.toList=er):=⟨_,rfl⟩
 rw [her.o] at hro
 have H1:Aside (OpAt w1 w.heap.size t b n k node other name value/\Below w.heap.size w w1/\MksAt base w p v L/\base<=w.heap.size):=⟨O1,B1,h,hbase⟩
 obtain ⟨S,hS⟩:∃S,Aside (w.heap.size=S):=⟨_,rfl⟩
 clear O1 B1 h hbase;by_cases h0:er=0
 ·have d0:((er:Int)==0)=true:=by simp [h0]
  by_cases hk:k=115
  ·have dk:((k:Int) !=115)=false:=by simp;omega
   have e0:=her.o.trans h0
   have hx:an (t,b,n,k,node,other,name,value)=0/\k=115:=⟨e0,hk⟩
   have e1:nz L (t,b,n,k,node,other,name,value)=kW L ((node,name),(value,(t,b))):=by unfold nz;rw [if_pos hx];rfl
   have e2:iK (t,b,n,k,node,other,name,value)=0:=by unfold iK;rw [if_pos (show an (t,b,n,k,node,other,name,value)=0 from e0)];exact if_pos hk
   have e3:kF L (t,b,n,k,node,other,name,value)=rZ L ((node,name),(value,(t,b))):=by unfold kF;rw [if_pos hx];rfl
   rw [e1,e2,e3];have dg:decide (0<er)=false:=xK;clear e0 e1 e2 e3 hx h0 hk;go_enter func150,ntmps150;go_wp2_with fail;rw [<-hw1,hS.o];clear hw1;refine hro.mono ?_;clear hro;rintro e w2 ⟨rfl,hb2⟩;obtain ⟨c0,c1,c2,c3,c4,c5,c6,c7⟩:=H1.o.1.later hb2;rw [hS.o] at c0 c1 c2 c3 c4 c5 c6 c7;have hbw:Below w.heap.size w w2:=zj H1.o.2.1 hb2;have hlay:=GZ w2 base p v L node name value t b (H1.o.2.2.1.later hbw) (uf H1.o.2.2.2 hbw.size) hL;have H2:Aside (Below w.heap.size w w2):=hbw;clear hb2 hbw;go_wp2_with fail;refine hlay.mono ?_;clear hlay;rintro e w3 ⟨rfl,v',h1,h2,h3⟩
   have HP:Aside (LaidIn base w p v (rZ L ((node,name),(value,(t,b)))) w3):=⟨v',h1,((aW H2.o).mono (fun i hi e=>zo)).then h2 (fun i hi e=>e),fun g hg=>(h3 g hg).imp (fun e=>e) (fun e=>uf H2.o.size e)⟩
   clear h1 h2 h3 H2 c0 c1 c2 c3 c4 c5 c6 c7;go_wp2;go_ret2;exact ⟨rfl,HP.o⟩
  have hx:¬(an (t,b,n,k,node,other,name,value)=0/\k=115):=fun h=>hk h.2
  have e1:nz L (t,b,n,k,node,other,name,value)=false:=by unfold nz;rw [if_neg hx]
  have e2:iK (t,b,n,k,node,other,name,value)=5:=by unfold iK;rw [if_pos (show an (t,b,n,k,node,other,name,value)=0 from her.o.trans h0)];exact if_neg hk
  have e3:kF L (t,b,n,k,node,other,name,value)=L:=by unfold kF;rw [if_neg hx]
  rw [e1,e2,e3];have dk:((k:Int) !=115)=true:=zr;clear e1 e2 e3 hx h0;go_enter func150,ntmps150;go_wp2_with fail;rw [<-hw1,hS.o];clear hw1;refine hro.mono ?_;clear hro;rintro e w2 ⟨rfl,hb2⟩;have c3:=(H1.o.1.later hb2).c3;rw [hS.o] at c3;exact kk2
 have d0:((er:Int)==0)=false:=xK;have dg:decide (0<er)=true:=zr
 have hx:¬(an (t,b,n,k,node,other,name,value)=0/\k=115):=fun h=>h0 (her.o.symm.trans h.1)
 have e1:nz L (t,b,n,k,node,other,name,value)=false:=by unfold nz;rw [if_neg hx]
 have e2:iK (t,b,n,k,node,other,name,value)=er:=by unfold iK;rw [if_neg (show ¬an (t,b,n,k,node,other,name,value)=0 from fun e=>h0 (her.o.symm.trans e))];exact her.o
 have e3:kF L (t,b,n,k,node,other,name,value)=L:=by unfold kF;rw [if_neg hx]
 rw [e1,e2,e3];clear e1 e2 e3 hx;go_enter func150,ntmps150;go_wp2_with fail;rw [<-hw1,hS.o];clear hw1;refine hro.mono ?_;clear hro;rintro e w2 ⟨rfl,hb2⟩;exact kk2
theorem mp (h:L[i]? =some m):shown (L.take (i+1))=shown (L.take i)++(if m.2.1.size≠0 then [Hd m] else []):=by
 rw [uS,h];unfold shown;rw [Za,uI];congr 1;by_cases hm:m.2.1.size≠0
 ·rw [if_pos hm];simp [It,hm]
 rw [if_neg hm];simp only [ne_eq,Decidable.not_not] at hm;simp [It,hm]
end
section
open Go Go.RowKit Go.Lib Go.Sort
theorem Ec (M:List Ltr):co (M.map fX)=co M:=by unfold co;rw [lG]
theorem FI (M:List Ltr):(co M).length<=M.length:=by unfold co aK;rw [uz];exact Zd _ _
theorem rJ {m:Nat} (w:World) (nd:Int) (h:MRp w m by_ ao cap S) (hsh:Shp ao cap) (hW:WellK S) (hnd:S.Nodup) (hn:S.length<=400):
  Calls prog 27 #[.pointer (some ⟨m,0,none⟩),.int .i64 nd] w fun e w'=>∃s,e= .returned (.string s)/\Aside (mT S nd s/\s.size<=400/\Below w.heap.size w w'):=by
 have hkn:=iE w nd h hW.ok zo;obtain ⟨zk,hzk⟩:=ze (bT S nd);rw [<-hzk.o] at hkn
 have H0:Aside (MRp w m by_ ao cap S/\Shp ao cap/\WellK S/\S.Nodup):=⟨h,hsh,hW,hnd⟩
 clear h hsh hW hnd;go_enter func27,ntmps27;go_wp2_with fail;refine hkn.mono ?_;clear hkn;rintro e w1 ⟨rfl,H1⟩
 cases zk with
 | false=>
  have HT:Aside (mT S nd ⟨#[]⟩):=.inl ⟨fun k=>(by have:=knownB_iff.2 k;rw [<-hzk.o] at this;cases this),rfl⟩;go_wp2;go_ret;exact ⟨⟨#[]⟩,rfl,HT.o,zu,H1.o⟩
 | true=>
  have hk:Aside (KnownN S nd):=knownB_iff.1 hzk.o.symm;obtain ⟨c0,c1,cf⟩:=(H0.o.1.later H1.o).c;have hln:=nL w1 ao cap S nd (H0.o.2.1.at (H0.o.1.later H1.o).ops) H0.o.2.2.1 H0.o.2.2.2 hn;go_wp2_with fail;refine hln.mono ?_;clear hln c0 c1 cf;rintro e w2 ⟨p,v,M,base,rfl,H2⟩;have htx:=Dj w2 base p v M H2.o.1 (by have:=H2.o.2.2.1;omega);go_wp2_with fail;refine htx.mono ?_;clear htx;rintro e w3 ⟨rfl,hb3⟩
  have HF:Aside (mT S nd ⟨(co M).toArray⟩/\(⟨(co M).toArray⟩:ByteArray).size<=400/\Below w.heap.size w w3):=by
   refine ⟨.inr ⟨hk.o,_,H2.o.2.1,?_⟩,?_,H1.o.trans ((zj H2.o.2.2.2 hb3).mono H1.o.size)⟩
   ·rw [Ec]
   show (co M).toArray.size<=400
   have:=FI M;have:=H2.o.2.2.1;simp;omega
  clear hb3;go_wp2;go_ret;exact ⟨_,rfl,HF.o⟩
structure LM (w:World) (p i:Nat) (S:List OpX) (v:Value) (L:List (bU×aG)) (wr:World):Prop where
 mks:MksAt (p+1) wr p v L
 lists:Lists (dh (S.take i)) L
 len:L.length<=i
 below:Below w.heap.size w wr
 size:p+1<=wr.heap.size
theorem nU {x:OpX} (hx:S[i]? =some x):dh (S.take (i+1))=kC (dh (S.take i)) x:=by
 have hi:=(vL.1 hx).1;rw [uK hi,(vL.1 hx).2];exact ib _ _
theorem Bb {m:Nat} (w:World) (h:MRp w m by_ ao cap S) (hok:∀x∈S,an x=0) (hn:S.length<=400):
  Calls prog 79 #[.pointer (some ⟨m,0,none⟩)] w fun e w'=>∃p v L base,e= .returned (.pointer (some ⟨p,0,none⟩))/\Aside (MksAt base w' p v L/\Lists (dh S) L/\L.length<=S.length/\Below w.heap.size w w'):=by
 obtain ⟨p,hp⟩:=ze w.heap.size;obtain ⟨U,hU⟩:=ze (w.alloc (.cells #[.slice none 0 0] 157))
 have H0:Aside (MRp w m by_ ao cap S/\∀x∈S,an x=0):=⟨h,hok⟩
 have HL0:Aside (LM w p 0 S (.slice none 0 0) [] U):=by
  rw [hU.o,hp.o];exact ⟨⟨heap_alloc_new w _,un _ _ _ _,Nat.lt_succ_self _⟩,by simpa [dh,fF,lH] using BR,vM _,zh w _,zv⟩
 clear h hok;go_enter func79,ntmps79;go_upto_region 2 with fail;rw [<-hU.o,<-hp.o];go_wp2;go_loopg [4] S.length (fun kx s4 wr=>∃(i:Nat) (v:Value) (L:List (bU×aG)),s4= .int .i64 (i:Int)/\i<=S.length/\S.length - i<=kx/\Aside (LM w p i S v L wr))
 case atStart=>exact ⟨0,_,[],rfl,vV _,vM _,HL0.o⟩
 case round=>
  obtain ⟨i,v,L,rfl,hi,hix,A⟩:=hrel;obtain ⟨u,hu⟩:=zc wr;subst hu;obtain ⟨c0,c1,cf⟩:=(H0.o.1.later A.o.below).c;by_cases hlt:i<S.length
  ·have d1:decide ((i:Int)<(S.length:Int))=true:=by simp;omega
   have d1n:decide (i<S.length)=true:=zr
   obtain ⟨x,hx⟩:∃x,Aside (S[i]? =some x):=⟨S[i],vN hlt⟩
   have hex:=H0.o.2 x (vQ hx.o);obtain ⟨b1,o1,e1,E1⟩:=(H0.o.1.later A.o.below).ops.one hx.o;obtain ⟨xt,xb,xn,xk,xd,xo,xs,xv⟩:=x;have hst:=aq hex;dsimp only at E1;subst e1;have wi:((i:Int)).toNat=i:=zo;have pi:(0:Int)<=(i:Int):=zo;have bi:(i:Int)<(S.length:Int):=zo;obtain ⟨q0,q1,q2,q3,q4,q5,q6,q7⟩:=E1;by_cases hk:xk=115
   ·have dk:((xk:Int)==115)=true:=by simp;omega
    have dkn:(xk==115)=true:=zr
    have hsn:xs.size<=1000000:=by have h12:xs.data.toList.length<=12:=hst.2.2.2.2.2.2.2.2.2.2.2.2.1;rw [uw] at h12;show xs.data.size<=_;omega
    have hsv:xv.size<=1000000:=by have h12:xv.data.toList.length<=12:=hst.2.2.2.2.2.2.2.2.2.2.2.2.2;rw [uw] at h12;show xv.data.size<=_;omega
    have hms:=GT u (p+1) p v L xt xb xn xk xd xo xs xv A.o.mks A.o.size qv hsn hsv;clear hst hex hk;go_wp2_with fail;refine hms.mono ?_;clear hms q0 q1 q2 q3 q4 q5 q6 q7 c0 c1 cf;rintro e w2 ⟨rfl,v',hm2,hk2,hg2⟩
    have HN:Aside (LM w p (i+1) S v' (kF L (xt,xb,xn,xk,xd,xo,xs,xv)) w2):=by
     refine ⟨hm2,by rw [nU hx.o];exact (A.o.lists.set _).1,by have:=En L (xt,xb,xn,xk,xd,xo,xs,xv);have:=A.o.len;omega,A.o.below.trans (hk2.below A.o.below.size (fun k e=> ?_)),by have:=hk2.size;have:=A.o.size;omega⟩
     rcases e with e | e
     ·rw [e,hp.o];exact vM _
     have:=(A.o.mks.row.lt k e.symm).1;have:=hp.o;omega
    clear hm2 hk2 hg2;go_wp2;go_roundg (S.length - (i+1))
    case measure=>omega
    case rel=>exact ⟨i+1,_,_,zD,zo,vM _,HN.o⟩
   have dk:((xk:Int)==115)=false:=zr;have dkn:(xk==115)=false:=zr
   have HN:Aside (LM w p (i+1) S v L u):=⟨A.o.mks,by rw [nU hx.o];unfold kC;rw [if_neg (fun q=>hk q.2)];exact A.o.lists,qv,A.o.below,A.o.size⟩
   clear hst hex hk;go_wp2;go_roundg (S.length - (i+1))
   case measure=>omega
   case rel=>exact ⟨i+1,_,_,zD,zo,vM _,HN.o⟩
  have d1:decide ((i:Int)<(S.length:Int))=false:=zr;have d1n:decide (i<S.length)=false:=zr
  have HF:Aside (MksAt (p+1) u p v L/\Lists (dh S) L/\L.length<=S.length/\Below w.heap.size w u):=by
   have h1:=A.o.lists;rw [uc zo] at h1;exact ⟨A.o.mks,h1,qv,A.o.below⟩
  clear A;go_wp2;go_ret;exact ⟨p,v,L,_,rfl,HF.o⟩
end
section
open Go.RowKit
theorem oe (u:Nat):(Lib.decDigits u).length<=u+1:=by
 induction u using Nat.strongRecOn with
 | ind u ih=>
  by_cases h:u<10
  ·rw [Lib.decDigits,dif_pos h];simp
  rw [Lib.decDigits,dif_neg h];have:=ih (u / 10) zo;simp;omega
theorem Dt (u:Nat) (hu:u<=9223372036854775808):∀(w:World),
  Calls prog 149 #[.int .i64 (-(u:Int))] w fun e w'=>e= .returned (.string ⟨(Lib.decDigits u).toArray⟩)/\Below w.heap.size w w':=by
 induction u using Nat.strongRecOn with
 | ind u ih=>
  intro w;have IH:=Lib.hid ih;clear ih;by_cases h:u<10
  ·have hd:decide (-10< -(u:Int))=true:=by simp;omega
   have HE:Hid (Lib.decDigits u= [Hj (48+u)]):=Lib.hid (by rw [Lib.decDigits,dif_pos h];rfl);go_enter func149,ntmps149;go_wp2_with fail;refine (ng (48+u) w zo).mono ?_;rintro e w1 ⟨rfl,hb⟩;go_wp2;go_ret;exact ⟨by rw [HE.o];rfl,hb⟩
  have hd:decide (-10< -(u:Int))=false:=zr;have HE:Hid (Lib.decDigits u=Lib.decDigits (u / 10)++ [Hj (48+u % 10)]):=Lib.hid (by rw [Lib.decDigits,dif_neg h];rfl);have hlen:=Lib.hid (oe (u / 10));go_enter func149,ntmps149;go_wp2_with fail;refine (IH.o (u / 10) zo zo w).mono ?_;rintro e w1 ⟨rfl,hb1⟩;go_wp2_with fail;refine (ng (48+u % 10) w1 zo).mono ?_;rintro e w2 ⟨rfl,hb2⟩;have B2:Below w.heap.size w w2:=zj hb1 hb2;have hadd:=lJ (Lib.decDigits (u / 10)) [Hj (48+u % 10)] (by have:=hlen.o;simp;omega);clear hb1 hb2;go_wp2;go_ret;exact ⟨by rw [HE.o];rfl,B2⟩
theorem EQ (n:Int) (h:n<0):Lib.itoa n=45::Lib.decDigits n.natAbs:=by rw [Lib.itoa,if_pos h]
theorem Ey (n:Int) (h:0<=n):Lib.itoa n=Lib.decDigits n.natAbs:=by
 rw [Lib.itoa,if_neg zo];congr 1;omega
theorem fU (n:Int) (w:World) (h0: -9223372036854775808<=n) (h1:n<=9223372036854775807):
  Calls prog 78 #[.int .i64 n] w fun e w'=>e= .returned (.string ⟨(Lib.itoa n).toArray⟩)/\Below w.heap.size w w':=by
 by_cases h:n<0
 ·obtain ⟨u,rfl⟩:∃u:Nat,n= -(u:Int):=⟨n.natAbs,zo⟩
  have HE:Hid (Lib.itoa (-(u:Int))=45::Lib.decDigits u):=Lib.hid (by rw [EQ _ h];simp);have hd:decide (-(u:Int)<0)=true:=qz
  have hadd:=lJ [45] (Lib.decDigits u) (by
   have:=Lib.itoa_length_le _ h0 h1
   rw [HE.o] at this
   simp at this |-
   omega)
  exact kj3
 obtain ⟨u,rfl⟩:∃u:Nat,n=(u:Int):=⟨n.natAbs,zo⟩
 have HE:Hid (Lib.itoa (u:Int)=Lib.decDigits u):=Lib.hid (by rw [Ey _ zo];simp);have hd:decide ((u:Int)<0)=false:=zv;exact kj3
end
section
open Go.RowKit
theorem cW (x y:ByteArray) (h:x.size+y.size<=9223372036854775807):∃F:ByteArray,F.data.toList=x.data.toList++y.data.toList/\F.size=x.size+y.size/\∀w,(Op.stringOp .add x y).run prog w= .ok (.string F) w:=by
 refine ⟨x++y,zv,zv,fun w=> ?_⟩;rw [run_string_add_sum w x y h]
