import Derived.Test.YtehighgebbdenaaGreatDoorRa23
set_option maxRecDepth 100000
set_option maxHeartbeats 64000000
namespace Go.Proofs.YtehighgebbdenaaGreatDoor
open Go.Proofs.Tryz
variable {s:ByteArray}
section
open Go.RowKit Go.Maps
theorem Ll:(prog.info? 152).map (fun i=>(i.zero,i.size,i.bytes))=some (some (.agg #[.int .i64 0,.string ⟨#[]⟩,.string ⟨#[]⟩]),3,40):=zq
theorem fG (h:s.size=0):s.toList.isEmpty=true:=by
 rw [uH];have:s.data.toList.length=0:=qz;rw [uh.1 this];rfl
theorem gm (h:s.size≠0):s.toList.isEmpty=false:=by
 rw [uH];have:s.data.toList.length≠0:=qz
 cases hs:s.data.toList with
 | nil=>rw [hs] at this;simp at this
 | cons a r=>rfl
theorem Ba (w:World) (a:Int) (s c:ByteArray) (j:Nat) (u:Value) (hj:(bK (a,s,c))[j]? =some u):(w.alloc (.cells #[.int .i64 a,.string s,.string c] 152)).cell? ((⟨w.heap.size,0,none⟩:Addr).add j)=some u:=by
 rw [Addr.add_lit,vY];have h:=heap_alloc_new w (.cells #[.int .i64 a,.string s,.string c] 152);simp only [World.cell?,h];rw [<-hj];simp [bK]
theorem Dc (w:World) (bc bm n:Nat) (f:cA) (hC:CellsAt w bc bm n f) (hn:n<=100000):
  Calls prog 77 #[.pointer (some ⟨bc,0,none⟩)] w fun e w'=>∃ao cap qs,e= .returned (.slice ao qs.length cap)/\IsMarks f qs/\qs.length<=n/\InRow bK w' ao qs/\Below w.heap.size w w'/\∀g o,ao=some ⟨g,o,none⟩->w.heap.size<=g:=by
 obtain ⟨i0,hi,hz0,hz1,hz2⟩:=info_parts Ll;have hall:=Jy w bc bm hC.c0;obtain ⟨⟨D,hown,hr⟩,hg⟩:=hC.map;have hsn:=hown.size_le;have hlt:=hC.lt;clear hC;go_enter func77,ntmps77
 go_wp2_with (first
  | (go_at_call 144;refine hall.mono ?_;clear hall;rintro e w' ⟨rfl,hw'⟩;have hw2:=hw'.symm;subst hw2)
  | (at_range;refine wpList_range_own _ rfl _ 191 rfl 234 236 lawK underlying191 _ bm n D rfl hown ?_;intro w0 hrg0 hg0 hs0)
  | go_in)
 go_frame;have hb0:Below w.heap.size w w0:=(vP _ w).grown hg0 zg (by intro k hk;cases hk);obtain ⟨r,hr0⟩:=ze w.heap.size
 rw [<-hr0.o] at hrg0 |-
 have H0:Aside (w0.ranges prog 234 Bh bm r n D (has D) (size D)/\Below w.heap.size w w0/\ReadsC D f/\GoodC f/\bm<w.heap.size):=⟨hrg0,hb0,hr,hg,hlt.2⟩
 clear hrg0 hg0 hs0 hb0 hr hg hlt hown
 go_loopw [3] (fun s3 wr=>∃(left:Lit->Bool) (cnt:Nat) (ps:List Mrk) (v:Value),v=s3/\Aside (wr.ranges prog 234 Bh bm r n D left cnt/\ps.length+cnt<=n/\CollM f left ps/\wr.ownsRow (r+1) 152 3 v ps.length (aA bK ps)/\Below w.heap.size w wr/\r<wr.heap.size))
  (fun _ wr=>wr.rangeLeft bm r)
 case atStart=>exact ⟨_,_,[],_,rfl,⟨H0.o.1,by simpa using hsn,sR H0.o.2.2.1 H0.o.2.2.2.1,un _ _ _ _,H0.o.2.1,H0.o.1.lt⟩⟩
 case round=>
  obtain ⟨left,cnt,ps,v,rfl,A⟩:=hrel;obtain ⟨u,hu⟩:=zc wr;subst hu;have hrg:=A.o.1
  go_wp2_with (first
   | (at_next;refine wpList_next_ranges _ rfl _ rfl 234 lawK Bh od sn (fun key kl hk=>by obtain ⟨x,_,hx,_⟩:=EE hk;exact ⟨x,hx⟩) (fun v y hv=>by obtain ⟨c,rfl,_⟩:=no hv;exact ⟨c,rfl⟩) bm r n _ _ _ rfl hrg ?_ ?_)
   | go_in)
  ·intro hc0 hl0;have hall:=A.o.2.2.1.all hl0;have hpn:ps.length<=n:=jK;have hown:=A.o.2.2.2.1;have hbel:=A.o.2.2.2.2.1;have hr1:=hr0.o
   rcases hown.2 with ⟨rfl,h0⟩ | ⟨g,cap,cur,rfl,hbg,-⟩
   ·have hps:ps= []:=uh.1 h0
    have HH:Aside (IsMarks f []/\Below w.heap.size w u):=⟨by subst hps;exact hall.marks (List.Perm.refl _) List.Pairwise.nil,hbel⟩
    clear hall hown hbel hps h0 hc0 hl0 hr1;go_wp2_with (go_at_call 145;refine (si none 0 _ _).mono ?_;rintro e w' ⟨rfl,rfl⟩);go_ret;exact ⟨none,0,[],rfl,HH.o.1,vV _,.inl rfl,HH.o.2,fun g o e=>yL⟩
   have hs:=KV u (r+1) g cap ps hown zo;have hgl:=(hown.lt g rfl).2
   have HH:Aside (AllM f ps/\ps.length<=n/\Below w.heap.size w u/\w.heap.size<=g/\g<u.heap.size):=⟨hall,hpn,hbel,zo,hgl⟩
   clear hall hown hbel hpn hbg hgl hc0 hl0 hr1;go_wp2_with fail;refine hs.mono ?_;clear hs;rintro e w2 ⟨rfl,qs,hp,hpw,hcells,hk⟩
   have H2:Aside (IsMarks f qs/\qs.length=ps.length/\qs.length<=n/\(∀j u,(aA bK qs)[j]? =some u->w2.cell? ⟨g,j,none⟩=some u)/\Below w.heap.size w w2/\w.heap.size<=g):=
    ⟨HH.o.1.marks hp hpw,hp.length_eq,jR,hcells,HH.o.2.2.1.trans (hk.below (HH.o.2.2.1.size) (fun k e=>by have:=HH.o.2.2.2.1;omega)),HH.o.2.2.2.1⟩
   clear hp hpw hcells hk HH;go_wp2;go_ret;exact ⟨_,cap,qs,by rw [H2.o.2.1];rfl,H2.o.1,H2.o.2.2.1,.inr ⟨g,0,rfl,fun j u hj=>by rw [vY];exact H2.o.2.2.2.1 j u hj⟩,H2.o.2.2.2.2.1,fun g' o e=>by cases e;exact H2.o.2.2.2.2.2⟩
  intro a nm c t b kl yd yp w2 cnt2 hkey hlk hv hat hrg2 hlt hg2 hs2 hen;obtain ⟨x',hwx,ex,rfl⟩:=EE hkey;obtain rfl:(a,nm)=x':=wS ex;obtain ⟨c',ec,ez⟩:=no hv;obtain rfl:(c,t,b)=c':=Fo ec;obtain rfl:yd=wA (c,t,b):=(Prod.mk.inj ez).1;have hfx:=H0.o.2.2.1.got hwx hat;have hk2:Keeps (fun k=>k=r) u w2:=(aP hg2).mono (fun k _ e=>by cases e;rfl);have hb2:Below w.heap.size w w2:=A.o.2.2.2.2.1.trans (hk2.below A.o.2.2.2.2.1.size (fun k e=>by have:=hr0.o;omega));have ho2:w2.ownsRow (r+1) 152 3 v ps.length (aA bK ps):=dP A.o.2.2.2.1 (fun g hg=>hk2.block g (A.o.2.2.2.1.lt g hg).2 (by have:=(A.o.2.2.2.1.lt g hg).1;omega))
  unfold od sn at hen |-
  dsimp only at hen |-
  obtain ⟨S,hS⟩:∃S,Aside (w2.heap.size=S):=⟨_,rfl⟩
  by_cases hc:c.size=0
  ·have hC2:=A.o.2.2.1.skip H0.o.2.2.2.1 hwx hfx hc;have hce:=fG hc
   have H2:Aside (w2.ranges prog 234 Bh bm r n D (fun z=>left z && !z.sameKey (eH (a,nm))) cnt2/\ps.length+cnt2<=n/\CollM f (fun z=>left z && !z.sameKey (eH (a,nm))) ps/\w2.ownsRow (r+1) 152 3 v ps.length (aA bK ps)/\Below w.heap.size w w2/\cnt2<cnt):=⟨hrg2,jK,hC2,ho2,hb2,hlt⟩
   clear hC2 hrg2 hlt hg2 hs2 hk2 hb2 ho2 hfx hat hv hkey hlk ec ez ex;go_wp2;obtain ⟨h1,h2,h3,h4,h5,h6⟩:=H2.o;refine ⟨⟨_,cnt2,ps,v,rfl,(h1.alloc _).alloc _,h2,h3,(h4.alloc _).alloc _,(h5.alloc h5.size _).alloc (by have:=h5.size;simp;omega) _,((h1.alloc _).alloc _).lt⟩,?_⟩;rw [((h1.alloc _).alloc _).left_eq,hrg.left_eq];exact h6
  have hC2:=A.o.2.2.1.step H0.o.2.2.2.1 hwx hlk hfx hc;have hce:=gm hc;obtain ⟨W3,hW3⟩:=zc ((w2.alloc (.cells #[.int .i64 a,.string nm] 234)).alloc (.cells #[.string c,.int .i64 t,.int .i64 b] 236))
  have hb3:Below w2.heap.size w2 W3:=by rw [hW3];exact (zh w2 _).alloc zv _
  have hs3:W3.heap.size=w2.heap.size+2:=by rw [hW3];simp
  have q0:W3.heap[w2.heap.size]? =some (.cells #[.int .i64 a,.string nm] 234 (0,0)):=by
   rw [hW3,vZ _ _ _ zv];exact heap_alloc_new w2 _
  have q1:W3.heap[w2.heap.size+1]? =some (.cells #[.string c,.int .i64 t,.int .i64 b] 236 (0,0)):=by
   have:=heap_alloc_new (w2.alloc (.cells #[.int .i64 a,.string nm] 234)) (.cells #[.string c,.int .i64 t,.int .i64 b] 236);rw [uP] at this;rw [hW3];exact this
  have hrg3:W3.ranges prog 234 Bh bm r n D (fun z=>left z && !z.sameKey (eH (a,nm))) cnt2:=by rw [hW3];exact (hrg2.alloc _).alloc _
  have ho3:W3.ownsRow (r+1) 152 3 v ps.length (aA bK ps):=by rw [hW3];exact (ho2.alloc _).alloc _
  have H2:Aside (W3.ranges prog 234 Bh bm r n D (fun z=>left z && !z.sameKey (eH (a,nm))) cnt2/\ps.length+1+cnt2<=n/\CollM f (fun z=>left z && !z.sameKey (eH (a,nm))) (ps++ [(a,nm,c)])/\W3.ownsRow (r+1) 152 3 v ps.length (aA bK ps)/\Below w.heap.size w W3/\cnt2<cnt):=⟨hrg3,jK,hC2,ho3,zj hb2 hb3,hlt⟩
  clear hC2 hrg2 hlt hg2 hs2 hk2 hb2 ho2 hfx hat hv hkey hlk ec ez ex hrg3 ho3 hb3;go_upto_region 6 with fail;rw [<-hW3]
  rw [hS.o] at q0 q1 hs3 |-
  have f0:W3.cell? ⟨S,0,none⟩=some (.int .i64 a):=by simp [World.cell?,q0]
  have f1:W3.cell? ⟨S,1,none⟩=some (.string nm):=by simp [World.cell?,q0]
  have f2:W3.cell? ⟨S+1,0,none⟩=some (.string c):=by simp [World.cell?,q1]
  obtain ⟨X,hX⟩:∃X,Aside (W3.heap.size=X):=⟨_,rfl⟩
  clear q0 q1 hW3 hen hs3
  have hpn:ps.length+1<=n:=by have:=H2.o.2.1;omega
  have hbs:r+1<=W3.heap.size:=H2.o.1.lt;obtain ⟨va,vc,rfl⟩:=fD H2.o.2.2.2.1;go_wp2_with (at_builtin;refine wpList_append_own _ rfl _ _ 149 rfl (r+1) 152 i0 _ 3 40 underlying149 hi hz0 hz1 hz2 rfl zo _ _ _ rfl (H2.o.2.2.2.1.alloc _) ⟨W3.heap.size,0,none⟩ 1 1 (bK (a,nm,c)) rfl rfl (Ba W3 a nm c) (nK _) zH zo zr ?_);intro v2 u2 hown hgrow hnil;clear hnil f0 f1 f2
  have hrow:∀g,(Value.slice va ps.length vc).ownBlock=some g->r+1<=g:=fun g hg=>(H2.o.2.2.2.1.lt g hg).1
  have hbm:=H0.o.2.2.2.2;have hr1:=hr0.o;have h5:=H2.o.2.2.2.2.1;have hrg4:u2.ranges prog 234 Bh bm r n D (fun z=>left z && !z.sameKey (eH (a,nm))) cnt2:=(H2.o.1.alloc _).kept hgrow (fun e=>by have:=hrow bm e.symm;omega) (fun e=>by have:=hrow r e.symm;omega)
  have R4:Aside (u2.ranges prog 234 Bh bm r n D (fun z=>left z && !z.sameKey (eH (a,nm))) cnt2/\(ps++ [(a,nm,c)]).length+cnt2<=n/\CollM f (fun z=>left z && !z.sameKey (eH (a,nm))) (ps++ [(a,nm,c)])/\u2.ownsRow (r+1) 152 3 v2 (ps++ [(a,nm,c)]).length (aA bK (ps++ [(a,nm,c)]))/\Below w.heap.size w u2/\r<u2.heap.size):=by
   refine ⟨hrg4,by have:=H2.o.2.1;simp;omega,H2.o.2.2.1,?_,(h5.alloc h5.size _).grown hgrow (by have:=h5.size;simp;omega) (fun k hk=>by have:=hrow k hk;omega),hrg4.lt⟩;rw [ub,bX];simpa [aA] using hown
  have hm:u2.rangeLeft bm r<u.rangeLeft bm r:=by rw [hrg4.left_eq,hrg.left_eq];exact H2.o.2.2.2.2.2
  clear hown hgrow hrow hrg4 h5 hr1 hbm;go_wp2;exact ⟨⟨_,_,_,_,rfl,R4⟩,hm⟩
end
section
open Go.RowKit Go.Lib Go.Sort
def Ic (B:Nat) (ad:Nat->Addr) (w:World) (c:Nat->Nat) (br:Nat) (by_:Int) (R:Rws) (l:List OpX) (e:Ending) (w':World):Prop:=∃a c',aB (aR R) l a/\Acts w c w' c'/\(match a with
 | .inl (i,cd)=>RepOwn B w' c' br by_ R/\∃v,e= .returned (.tuple #[.int .i64 0,v])/\((i= -1/\v=eV ad cd/\cd≠0)\/(0<=i/\wZ ad w' v i cd))
 | .inr fresh=>e= .returned (.tuple #[.int .i64 (fresh.length:Int),.nilIface])/\∃R',RepOwn B w' c' br by_ R'/\∀x,x∈aR R'↔x∈aR R++fresh)
theorem lR (R:Rws) {i:Nat} (hi:i<4):(R i).length<=(aR R).length:=by
 have h4:i=0\/i=1\/i=2\/i=3:=zo;unfold aR
 rcases h4 with rfl | rfl | rfl | rfl<;>simp<;>omega
theorem wT {B:Nat} {ad:Nat->Addr} (w:World) (c:Nat->Nat) (br:Nat) (by_:Int) (R:Rws) (la:Option Addr) (lc:Nat) (l:List OpX) (h:RepOwn B w c br by_ R) (hE:EnvE B ad w) (hin:OpsIn w la l) (hs:oL l) (hn:(aR R).length+l.length<=140):
  Calls prog 10 #[.pointer (some ⟨br,0,none⟩),.slice la l.length lc] w (Ic B ad w c br by_ R l):=by
 obtain ⟨T,kv,bt,bx,bc,A,hM0,hperm,hK,hb0,hb4⟩:=h.rep;obtain ⟨ao,cap,hM⟩:=hM0.norm
 have hrl:∀i,i<4->(R i).length<=140:=fun i hi=>yJ
 have k2:w.cell? ⟨br,2,none⟩=some (.slice (ao 0) (R 0).length (cap 0)):=hM.cell.c2;have k3:w.cell? ⟨br,3,none⟩=some (.slice (ao 1) (R 1).length (cap 1)):=hM.cell.c3;have k4:w.cell? ⟨br,4,none⟩=some (.slice (ao 2) (R 2).length (cap 2)):=hM.cell.c4;have k5:w.cell? ⟨br,5,none⟩=some (.slice (ao 3) (R 3).length (cap 3)):=hM.cell.c5;have hsift:=Fu w ao cap R la lc l hE.op4 hE.c6 (KnownAt.of_rows hM.rows) hK.num (fun i hi=>by have:=hrl i hi;omega) hin hs zo;unfold kV at hsift
 have H0:Aside (RepMid w c br T by_ (kvs ao cap R) bt bx bc R A/\A.Perm (aR R)/\RowsK R/\RepOwn B w c br by_ R/\EnvE B ad w/\0<=by_/\by_<4):=⟨hM,hperm,hK,h,hE,hb0,hb4⟩
 clear hM hM0 hperm hK h hE hin hs;go_enter func10,ntmps10;go_wp2_with fail;refine hsift.mono ?_;clear hsift;rintro e w1 ⟨hso,hb1⟩
 cases hsf:bp (aR R) 0 [] l with
 | inl ic=>
  obtain ⟨i,cd⟩:=ic;rw [hsf] at hso;obtain ⟨v,rfl,blk,rfl,hblk⟩:=hso
  have HF:Aside (bp (aR R) 0 [] l= .inl (i,cd)/\Below w.heap.size w w1/\w1.heap[blk]? =some (.cells #[.int .i64 (i:Int),eV ad cd] 198 (0,0))):=⟨hsf,hb1,hblk⟩
  clear hsf hb1 hblk;go_wp2;go_ret2;refine ⟨.inl ((i:Int),cd),c,?_,Acts.of_below c HF.o.2.1,H0.o.2.2.2.1.later HF.o.2.1,_,rfl,.inr ⟨Int.natCast_nonneg _,blk,rfl,HF.o.2.2⟩⟩;unfold aB;rw [HF.o.1]
 | inr fresh=>
  rw [hsf] at hso;obtain ⟨v,rfl,hrow⟩:=hso;obtain ⟨fa,fc,rfl⟩:=fD hrow;obtain ⟨g1,g2,g3,g4,g5⟩:=dE (dV _) hsf
  have hfl:fresh.length<=l.length:=by simpa using g5
  have hops:OpsIn w1 fa fresh:=by
   rcases dI hrow with ⟨_,q⟩ | ⟨b,o,cp,q1,q2⟩
   ·exact .inl q
   exact .inr ⟨b,o,(Value.slice.inj q1).1,q2⟩
  have hM1:=H0.o.1.later hb1
  have H1:Aside (bp (aR R) 0 [] l= .inr fresh/\Below w.heap.size w w1/\FreshK (aR R) fresh/\w1.ownsRow w.heap.size 38 8 (.slice fa fresh.length fc) fresh.length (cellsOf fresh)/\RepMid w1 c br T by_ (kvs ao cap R) bt bx bc R A/\EnvE B ad w1):=⟨hsf,hb1,g1,hrow,hM1,H0.o.2.2.2.2.1.later hb1⟩
  have hwith:=FG w1 c ao cap R fa fc fresh H1.o.2.2.2.2.2 H0.o.2.2.2.1.low hM1.rows hops g1.ok (fun k hk=>H0.o.2.2.2.1.high k (uf hb1.size hk)) zo (fun i hi=>by have:=hrl i hi;omega);have k2':w1.cell? ⟨br,2,none⟩=some (.slice (ao 0) (R 0).length (cap 0)):=hM1.cell.c2;have k3':w1.cell? ⟨br,3,none⟩=some (.slice (ao 1) (R 1).length (cap 1)):=hM1.cell.c3;have k4':w1.cell? ⟨br,4,none⟩=some (.slice (ao 2) (R 2).length (cap 2)):=hM1.cell.c4;have k5':w1.cell? ⟨br,5,none⟩=some (.slice (ao 3) (R 3).length (cap 3)):=hM1.cell.c5;unfold kV at hwith;clear hsf hrow g1 g2 g3 g4 g5 hops hM1 k2 k3 k4 k5 hb1;go_wp2_with fail;refine hwith.mono ?_;clear hwith k2' k3' k4' k5';rintro e w2 ⟨F,hFp,hFs,c2,hk2,hhue2,hold2,hout⟩;have hgo:=pM F R true H0.o.2.2.1.num (H1.o.2.2.1.perm hFp) hFs (by simp [H0.o.2.2.1.nofall])
  have hmemF:∀x,x∈aR R++F↔x∈aR R++fresh:=fun x=>by simp only [vW,hFp.mem_iff]
  have hM2:RepMid w2 c2 br T by_ (kvs ao cap R) bt bx bc R A:=by
   have hm:=H1.o.2.2.2.2.1
   have kp:∀j,j≠0->¬(10<=j/\j<14)->mt c j w1 c2 w2:=fun j _ hj=>⟨fun k hk e=>hk2.block k hk (fun q=>hj (by rw [<-e];exact q)),hhue2⟩
   exact ⟨hm.cell.same ((kp 1 zo zo).block _ hm.cell.lt hm.hue),(hhue2 _ hm.cell.lt).trans hm.hue,hold2,hm.tree.kept (kp 2 zo zo),hm.text.kept (kp 3 zo zo) (fun nd _=>kp _ yw yw),hm.marks.kept (kp 4 zo zo),hm.time⟩
  have H2:Aside (RepMid w2 c2 br T by_ (kvs ao cap R) bt bx bc R A/\Keeps (fun k=>c k≠0) w w2/\(∀k,k<w.heap.size->c2 k=c k)/\EnvE B ad w2/\(∀x,x∈aR R++F↔x∈aR R++fresh)/\F.Perm fresh/\OpsIn w2 fa fresh/\(∀a,fa=some a->w.heap.size<=a.block\/fresh= [])):=by
   have hrow2:=H1.o.2.2.2.1
   have hfa:∀g,(Value.slice fa fresh.length fc).ownBlock=some g->c g=0:=fun g hg=>H0.o.2.2.2.1.high g (hrow2.lt g hg).1
   have hkw:Keeps (fun k=>c k≠0) w w2:=((aW H1.o.2.1).mono (fun k hk e=>absurd hk zo)).then hk2 (fun k _ e=>zo)
   refine ⟨hM2,hkw,fun k hk=>hhue2 k (um hk H1.o.2.1.size),H0.o.2.2.2.2.1.mono (hkw.below H0.o.2.2.2.2.1.size (fun k e=>H0.o.2.2.2.1.low k e)),hmemF,hFp,?_,?_⟩
   ·rcases dI (cY hrow2 (fun g hg=>hk2.block g (hrow2.lt g hg).2 (fun q=>by have:=hfa g hg;omega))) with ⟨_,q⟩ | ⟨b,o,cp,q1,q2⟩
    ·exact .inl q
    exact .inr ⟨b,o,(Value.slice.inj q1).1,q2⟩
   intro a ha
   rcases hrow2.2 with ⟨_,q⟩ | ⟨g,cp,cur,q1,q2,_⟩
   ·exact .inr (uh.1 q)
   have:=(Value.slice.inj q1).1;rw [ha] at this
   cases this
   exact .inl q2
  have KC:Aside (∀w3,Below w2.heap.size w2 w3->∃c',Acts w c w3 c'/\RepOwn B w3 c' br by_ R):=fun w3 hb3=>DJ (H2.o.1.later hb3) H0.o.2.1 H0.o.2.2.1 H0.o.2.2.2.2.2 (H2.o.2.1.then (aW hb3) (fun k hk e=>by have:=H2.o.2.1.size;omega)) H2.o.2.2.1 H0.o.2.2.2.1.low H0.o.2.2.2.2.1.size
  clear hk2 hhue2 hold2 hM2 hmemF
  rcases hgo with ⟨hnone,hgap⟩ | ⟨R',z',hsome,hngap,hN',hmem',hz',hlen',hext'⟩
  ·rw [hnone] at hout;subst hout;have HG:Aside (Gap (aR R++fresh)):=hgap.congr H2.o.2.2.2.2.1;have ev:eV ad 9= .iface 399 (.pointer (some (ad 8))):=rfl;rw [ev];clear hnone hgap ev;go_wp2;go_ret2;obtain ⟨c',a1,a2⟩:=KC.o _ (zh w2 _);refine ⟨.inl (-1,9),c',?_,a1,a2,_,rfl,.inl ⟨rfl,rfl,zu⟩⟩;unfold aB;rw [H1.o.1];exact .inl ⟨HG.o,rfl⟩
  cases z' with
  | false=>
   rw [hsome] at hout;have hout:e= .returned (.tuple #[.agg #[.slice none 0 0,.slice none 0 0,.slice none 0 0,.slice none 0 0],eV ad 3]):=hout;subst hout
   have HG:Aside (¬Gap (aR R++fresh)/\Falls (aR R++fresh)):=⟨fun q=>hngap (q.congr (fun x=>(H2.o.2.2.2.2.1 x).symm)),by
    refine Classical.byContradiction (fun q=> ?_)
    have:=hz'.2 (fun k=>q (k.congr H2.o.2.2.2.2.1))
    cases this⟩
   have ev:eV ad 3= .iface 399 (.pointer (some (ad 2))):=rfl;rw [ev];clear hsome hngap ev hN' hmem' hz' hlen' hext';go_wp2;go_ret2;obtain ⟨c',a1,a2⟩:=KC.o _ (zh w2 _);refine ⟨.inl (-1,3),c',?_,a1,a2,_,rfl,.inl ⟨rfl,rfl,zu⟩⟩;unfold aB;rw [H1.o.1];exact .inr (.inl ⟨HG.o.1,HG.o.2,rfl⟩)
  | true=>
   rw [hsome] at hout;obtain ⟨ao',cap',rfl,hnew⟩:=hout
   have hNF:¬Falls (aR R++fresh):=fun q=>(hz'.1 rfl) (q.congr (fun x=>(H2.o.2.2.2.2.1 x).symm))
   have hNG:¬Gap (aR R++fresh):=fun q=>hngap (q.congr (fun x=>(H2.o.2.2.2.2.1 x).symm))
   have hmem:∀x,x∈aR R'↔x∈aR R++fresh:=fun x=>(hmem' x).trans (H2.o.2.2.2.2.1 x)
   have hRN:RowsN R':=⟨hN',fun x hx y hy e1 e2=>Classical.byContradiction (fun q=>hNF ⟨x,(hmem x).1 hx,y,(hmem y).1 hy,e1,e2,q⟩)⟩
   have hl':(aR R').length<=140:=by have:=H2.o.2.2.2.2.2.1.length_eq;omega
   have hrl':∀i,i<4->(R' i).length<=1000:=fun i hi=>by have:=lR R' hi;omega
   have hokF:∀x∈F,an x=0:=fun x hx=>H1.o.2.2.1.ok x (H2.o.2.2.2.2.2.1.mem_iff.1 hx)
   have hpm:(aR R').Perm (aR R++fresh):=(lp F R true R' true hokF hsome).trans (H2.o.2.2.2.2.2.1.append_left _);obtain ⟨U,hU⟩:=zc (w2.alloc (.cells #[.slice (ao' 0) (R' 0).length (cap' 0),.slice (ao' 1) (R' 1).length (cap' 1),.slice (ao' 2) (R' 2).length (cap' 2),.slice (ao' 3) (R' 3).length (cap' 3)] 65))
   have hbU:Below w2.heap.size w2 U:=by rw [hU];exact zh w2 _
   obtain ⟨Q,hQ⟩:=zc w2.heap.size
   have hkb:KBox U Q ao' cap' R':=by rw [hU,hQ];exact KBox.new w2 ao' cap' R'
   have hnU:RowsAt U c2 (kvs ao' cap' R') R':=hnew.kept (fun i _=>⟨fun k hk _=>hbU.block k hk,fun _ _=>rfl⟩)
   obtain ⟨zb,hzb⟩:∃zb:Bool,zb=true↔∀x∈fresh,RefOk (aR R') x:=⟨@decide _ (Classical.propDecidable _),@decide_eq_true_iff _ (Classical.propDecidable _)⟩
   have hbears:=pX U ao' cap' R' fa fc fresh (H2.o.2.2.2.2.2.2.1.later hbU) (fun x hx=>(hmem x).2 (uL _ hx)) zb hzb ((H2.o.2.2.2.1.later hbU).op4) (KnownAt.of_rows hnU) hRN hrl' zo
   have H3:Aside (RepMid U c2 br T by_ (kvs ao cap R) bt bx bc R A/\RowsAt U c2 (kvs ao' cap' R') R'/\RowsN R'/\(∀x,x∈aR R'↔x∈aR R++fresh)/\(aR R').Perm (aR R++fresh)/\¬Gap (aR R++fresh)/\¬Falls (aR R++fresh)/\(zb=true↔∀x∈fresh,RefOk (aR R') x)/\Below w2.heap.size w2 U/\KBox U Q ao' cap' R'/\Q=w2.heap.size):=⟨H2.o.1.later hbU,hnU,hRN,hmem,hpm,hNG,hNF,hzb,hbU,hkb,hQ⟩
   have HU:Aside (U=w2.alloc (.cells #[.slice (ao' 0) (R' 0).length (cap' 0),.slice (ao' 1) (R' 1).length (cap' 1),.slice (ao' 2) (R' 2).length (cap' 2),.slice (ao' 3) (R' 3).length (cap' 3)] 65)/\Q=w2.heap.size):=⟨hU,hQ⟩
   have k0:=hkb.at (i:=0) zo;have k1:=hkb.at (i:=1) zo;have k2:=hkb.at (i:=2) zo;have k3:=hkb.at (i:=3) zo
   unfold kV at hbears |-
   clear hnew hNF hNG hRN hpm hokF hU hQ hbU hkb hnU hzb hsome hngap hN' hmem' hz' hlen' hext' hmem;go_upto_region 7 with fail;rw [<-HU.o.1,<-HU.o.2];go_wp2_with fail;refine hbears.mono ?_;clear hbears;rintro e w3 ⟨rfl,hb3⟩;have hM3:=H3.o.1.later hb3;have hkb3:=H3.o.2.2.2.2.2.2.2.2.2.1.later hb3;have E3:=(H2.o.2.2.2.1.later H3.o.2.2.2.2.2.2.2.2.1).later hb3
   have H4:Aside (RepMid w3 c2 br T by_ (kvs ao cap R) bt bx bc R A/\RowsAt w3 c2 (kvs ao' cap' R') R'/\Below w2.heap.size w2 w3/\KBox w3 Q ao' cap' R'/\EnvE B ad w3):=⟨hM3,H3.o.2.1.kept (fun i _=>⟨fun k hk _=>hb3.block k hk,fun _ _=>rfl⟩),zj H3.o.2.2.2.2.2.2.2.2.1 hb3,hkb3,E3⟩
   clear k0 k1 k2 k3
   cases zb with
   | false=>
    have eg:=E3.c5
    have HN:Aside (∃x∈aR R++fresh,¬RefOk (aR R++fresh) x):=by
     refine Classical.byContradiction (fun q=> ?_);have:=H3.o.2.2.2.2.2.2.2.1.2 (fun x hx=>Classical.byContradiction (fun k=>q ⟨x,uL _ hx,fun k'=>k (k'.mono (fun y hy=>(H3.o.2.2.2.1 y).2 hy))⟩))
     cases this
    clear hM3 hkb3 E3 hb3;go_wp2_with fail;go_quiet (fail);go_wp2;go_ret2;obtain ⟨c',a1,a2⟩:=KC.o _ (below_drewN H4.o.2.2.1 _);refine ⟨.inl (-1,6),c',?_,a1,a2,_,rfl,.inl ⟨rfl,rfl,zu⟩⟩;unfold aB;rw [H1.o.1];exact .inr (.inr (.inl ⟨H3.o.2.2.2.2.2.1,H3.o.2.2.2.2.2.2.1,HN.o,rfl⟩))
   | true=>
    have hall:∀x∈fresh,RefOk (aR R') x:=H3.o.2.2.2.2.2.2.2.1.1 rfl;have hRN:=H3.o.2.2.1;have hmem:=H3.o.2.2.2.1
    have hW:WellK (aR R'):=⟨hRN.num.ok,hRN.num.one,hRN.num.gap,hRN.up,fun x hx=>by
     rcases vW.1 ((hmem x).1 hx) with q | q
     ·exact (H0.o.2.2.1.well.refs x q).mono (fun y hy=>(hmem y).2 (uF _ hy))
     ·exact hall x q⟩
    have HW:Aside (RowsK R'):=⟨hRN.num,hW⟩
    have dn:decide ((400:Int)<((aR R').length:Int))=false:=zr;have dn':decide (400<(aR R').length)=false:=zr;have hcount:=mN w3 ao' cap' R' hrl';unfold kV at hcount;have k0:=hkb3.at (i:=0) zo;have k1:=hkb3.at (i:=1) zo;have k2:=hkb3.at (i:=2) zo;have k3:=hkb3.at (i:=3) zo;clear hM3 hkb3 E3 hall hRN hmem hW hb3;go_wp2_with fail;refine hcount.mono ?_;clear hcount k0 k1 k2 k3;rintro e w4 ⟨rfl,hb4'⟩;have hM4:=H4.o.1.later hb4';have hkb4:=H4.o.2.2.2.1.later hb4';have k0:=hkb4.at (i:=0) zo;have k1:=hkb4.at (i:=1) zo;have k2:=hkb4.at (i:=2) zo;have k3:=hkb4.at (i:=3) zo;have q2:=hM4.cell.c2;have q3:=hM4.cell.c3;have q4:=hM4.cell.c4;have q5:=hM4.cell.c5;have qf:=hM4.cell.fz;obtain ⟨w5,hw5⟩:=zc ((((w4.setCell ⟨br,2,none⟩ (.slice (ao' 0) (R' 0).length (cap' 0))).setCell ⟨br,3,none⟩ (.slice (ao' 1) (R' 1).length (cap' 1))).setCell ⟨br,4,none⟩ (.slice (ao' 2) (R' 2).length (cap' 2))).setCell ⟨br,5,none⟩ (.slice (ao' 3) (R' 3).length (cap' 3)))
    have hk5:Keeps (fun k=>k=br) w4 w5:=by rw [hw5];exact aZ br [.slice (ao' 0) (R' 0).length (cap' 0),.slice (ao' 1) (R' 1).length (cap' 1),.slice (ao' 2) (R' 2).length (cap' 2),.slice (ao' 3) (R' 3).length (cap' 3)] 2 w4
    have hp5:RepPart w5 c2 br T by_ (kvs ao' cap' R') bt bx bc R' A:=by
     have kp:∀i,i≠1->mt c2 i w4 c2 w5:=fun i hi=>⟨fun k hk e=>hk5.block k hk (fun q=>by have q':k=br:=q;rw [q',hM4.hue] at e;omega),fun _ _=>rfl⟩
     have hr4:RowsAt w4 c2 (kvs ao' cap' R') R':=H4.o.2.1.kept (fun i _=>⟨fun k hk _=>hb4'.block k hk,fun _ _=>rfl⟩);refine ⟨?_,hM4.hue,hr4.kept (fun i _=>kp _ zo),hM4.tree.kept (kp 2 zo),hM4.text.kept (kp 3 zo) (fun nd _=>kp _ yw),hM4.marks.kept (kp 4 zo)⟩;have hh:=af br [.slice (ao' 0) (R' 0).length (cap' 0),.slice (ao' 1) (R' 1).length (cap' 1),.slice (ao' 2) (R' 2).length (cap' 2),.slice (ao' 3) (R' 3).length (cap' 3)] 2 w4 _ _ hM4.cell;unfold RepCell;rw [hw5];refine Eq.trans hh ?_;simp [EZ,kvs]
    have hkw5:Keeps (fun k=>c k≠0) w w5:=((H2.o.2.1.then (aW H4.o.2.2.1) (fun k hk e=>by have:=H2.o.2.1.size;omega)).then (aW hb4') (fun k hk e=>by have:=H2.o.2.1.size;have:=H4.o.2.2.1.size;omega)).then hk5 (fun k hk e=>by have e':k=br:=e;have:=H2.o.2.2.1 k hk;rw [e'] at this |-;rw [<-this,H2.o.1.hue];decide)
    have hops5:OpsIn w5 fa fresh:=by
     have ho:=(H2.o.2.2.2.2.2.2.1.later H4.o.2.2.1).later hb4'
     rcases ho with q | ⟨bb,oo,e1,e2⟩
     ·exact .inl q
     refine .inr ⟨bb,oo,e1,fun j u hj=> ?_⟩;have hcell:=e2 j u hj;have hbl:=vR w4 ⟨bb,oo+j,none⟩ hcell
     rw [uk (a:=⟨bb,oo+j,none⟩) (hk5.block bb hbl (fun q=>by
      have q':bb=br:=q
      rcases H2.o.2.2.2.2.2.2.2 _ e1 with q2 | q2
      ·have:=H0.o.1.cell.lt;dsimp only at q2;omega
      ·rw [q2] at hj;simp [cellsOf] at hj))]
     exact hcell
    have H5:Aside (RepPart w5 c2 br T by_ (kvs ao' cap' R') bt bx bc R' A/\Keeps (fun k=>c k≠0) w w5/\OpsIn w5 fa fresh/\EnvE B ad w5):=⟨hp5,hkw5,hops5,H0.o.2.2.2.2.1.mono (hkw5.below H0.o.2.2.2.2.1.size (fun k e=>H0.o.2.2.2.1.low k e))⟩
    have HW5:Aside (w5=(((w4.setCell ⟨br,2,none⟩ (.slice (ao' 0) (R' 0).length (cap' 0))).setCell ⟨br,3,none⟩ (.slice (ao' 1) (R' 1).length (cap' 1))).setCell ⟨br,4,none⟩ (.slice (ao' 2) (R' 2).length (cap' 2))).setCell ⟨br,5,none⟩ (.slice (ao' 3) (R' 3).length (cap' 3))):=hw5
    have hsort:=nP w5 (.slice fa fresh.length fc) fresh (by
     rcases H1.o.2.2.2.1.2 with ⟨e1,e2⟩ | ⟨g,cp,cur,e1,_⟩
     ·exact .inl ⟨e1,uh.1 e2⟩
     ·rcases hops5 with q | ⟨bb,oo,e4,e5⟩
      ·exact .inr ⟨g,0,fc,by rw [(Value.slice.inj e1).1],fun j u hj=>by rw [q] at hj;simp [cellsOf] at hj⟩
      ·exact .inr ⟨bb,oo,fc,by rw [e4],e5⟩) zo
    clear hw5 hk5 hp5 hkw5 hops5 hM4 hkb4 hb4';go_upto_region 12 with fail;rw [<-HW5.o];clear q2 q3 q4 q5 qf k0 k1 k2 k3;go_wp2_with fail;refine hsort.mono ?_;clear hsort;rintro e w6 ⟨v6,ys,rfl,hy6,hst,hb6,hnew6⟩
    obtain ⟨va,vc,rfl,hin6⟩:∃va vc,v6= .slice va ys.length vc/\OpsIn w6 va ys:=by
     rcases hy6 with ⟨rfl,rfl⟩ | ⟨bb,oo,cp,rfl,e2⟩
     ·exact kp2
     exact ⟨_,_,rfl,.inr ⟨bb,oo,rfl,e2⟩⟩
    obtain ⟨hyp,hys⟩:=cr hst;have hmem:=H3.o.2.2.2.1
    have hmy:∀x∈ys,x∈aR R':=fun x hx=>(hmem x).2 (uL _ (hyp.mem_iff.1 hx))
    have hyc:ys.Pairwise (fun a b=>CLt (stO a) (stO b)):=iq hys (rf H3.o.2.2.1 hmy (H1.o.2.2.1.perm hyp).one);have hylen:ys.length=fresh.length:=hyp.length_eq;obtain ⟨c6,hc6⟩:=zc (rQ w w5 c c2);have hsz56:=hb6.size;have hszw:=H5.o.2.1.size
    have H6:Aside (RepPart w6 c6 br T by_ (kvs ao' cap' R') bt bx bc R' A/\Acts w c w6 c6/\(∀k,c6 k≠0->B<=k)/\(∀k,w6.heap.size<=k->c6 k=0)/\OpsIn w6 va ys/\(∀a,va=some a->c6 a.block=0)/\(∀k o,ys[k]? =some o->StepOk (aR R++ys.take k) o)/\ys.Perm fresh/\du A T):=by
     have hz5:∀k,w5.heap.size<=k->c6 k=0:=fun k hk=>by
      rw [hc6];unfold rQ;rw [if_neg zo,if_neg zo]
     refine ⟨(H5.o.1.kept (fun i _=>⟨fun _ _ _=>rfl,fun k hk=>by rw [hc6];exact wU H2.o.2.2.1 hk⟩)).later hb6,⟨H5.o.2.1.then (aW hb6) (fun k hk e=>zo),fun k hk=>by rw [hc6];exact if_pos hk⟩,fun k q=> ?_,fun k hk=>hz5 k zo,hin6,fun a ha=> ?_,fun k o hko=> ?_,hyp,H0.o.1.time⟩
     ·rw [hc6] at q;unfold rQ at q;by_cases e:k<w.heap.size
      ·rw [if_pos e] at q;exact H0.o.2.2.2.1.low k q
      have:=H0.o.2.2.2.2.1.size;omega
     ·rw [ha] at hnew6;exact hz5 _ (hnew6 a.block rfl)
     refine lF HW.o.well (fun x=> ?_) H0.o.2.2.1.well.refs hyc (fun x hx hx'=> ?_) hko
     ·rw [hmem x,vW];exact ⟨fun q=>q.imp id (fun q=>hyp.mem_iff.2 q),fun q=>q.imp id (fun q=>hyp.mem_iff.1 q)⟩
     exact H1.o.2.2.1.off x (hyp.mem_iff.1 hx) x hx' ⟨rfl,rfl⟩
    have hAl:A.length+ys.length<=140:=by have:=H0.o.2.1.length_eq;omega
    clear hy6 hst hb6 hnew6 hin6 hyp hys hmem hmy hyc hc6 hsz56 hszw;go_wp2;go_loopg [51] ys.length (fun kx s51 wr=>∃(k:Nat) (TT:Int) (cc:Nat->Nat),s51= .int .i64 (k:Int)/\k<=ys.length/\ys.length - k<=kx/\Aside (RepPart wr cc br TT by_ (kvs ao' cap' R') bt bx bc R' ((ys.take k).reverse++A)/\du ((ys.take k).reverse++A) TT/\Acts w c wr cc/\(∀k,cc k≠0->B<=k)/\(∀k,wr.heap.size<=k->cc k=0)/\OpsIn wr va ys/\(∀a,va=some a->cc a.block=0)))
    case atStart=>exact ⟨0,T,c6,rfl,vV _,vM _,by simpa using H6.o.1,by simpa using H6.o.2.2.2.2.2.2.2.2,H6.o.2.1,H6.o.2.2.1,H6.o.2.2.2.1,H6.o.2.2.2.2.1,H6.o.2.2.2.2.2.1⟩
    case round=>
     obtain ⟨k,TT,cc,rfl,hkl,hkx,L⟩:=hrel;by_cases hlt:k<ys.length
     ·have d1:decide ((k:Int)<(ys.length:Int))=true:=by simp;omega
      have wk:((k:Int)).toNat=k:=zo;have pk:(0:Int)<=(k:Int):=zo;have bk:(k:Int)<(ys.length:Int):=zo
      obtain ⟨⟨t,b,n,kd,nd,o,s,v⟩,hx⟩:∃x,Aside (ys[k]? =some x):=⟨ys[k],vN hlt⟩
      have hstep0:=H6.o.2.2.2.2.2.2.1 k _ hx.o;have hpA:(aR R++ys.take k).Perm ((ys.take k).reverse++A):=(Zw).trans (((List.reverse_perm _).symm.append_right _).trans (H0.o.2.1.symm.append_left _));have hstep:=hstep0.perm hpA;obtain ⟨blk,off,hao,hc⟩:=L.o.2.2.2.2.2.1.get hx.o;subst hao;have r0:=hc 0 _ rfl;have r1:=hc 1 _ rfl;have r2:=hc 2 _ rfl;have r3:=hc 3 _ rfl;have r4:=hc 4 _ rfl;have r5:=hc 5 _ rfl;have r6:=hc 6 _ rfl;have r7:=hc 7 _ rfl;simp only [Zg] at r0;clear hc
      have hbU:∀ob,Below wr.heap.size wr (wr.alloc ob):=fun ob=>(vP _ wr).alloc zg ob
      have Ewr:=H0.o.2.2.2.2.1.mono (L.o.2.2.1.keeps.below H0.o.2.2.2.2.1.size (fun k e=>H0.o.2.2.2.1.low k e));have happ:=Dh (wr.alloc (.cells #[.int .i64 t,.int .i64 b,.int .i64 n,.int .u8 (kd:Int),.int .i64 nd,.int .i64 o,.string s,.string v] 38)) cc br TT by_ (kvs ao' cap' R') bt bx bc R' ((ys.take k).reverse++A) (t,b,n,kd,nd,o,s,v) (L.o.1.later (hbU _)) hstep (Ewr.later (hbU _)) L.o.2.2.2.1 (fun q hq=>L.o.2.2.2.2.1 q (by simp at hq;omega)) zr;have ht1:1<=t:=(ir hstep.ok).1;unfold aD at happ;dsimp only at happ
      have HTK:Aside ((ys.take (k+1)).reverse=(t,b,n,kd,nd,o,s,v)::(ys.take k).reverse):=by
       show (ys.take (k+1)).reverse=_
       rw [uS,hx.o];simp
      clear hstep0 hstep hpA Ewr;go_wp2_with fail;refine happ.mono ?_;clear happ r0 r1 r2 r3 r4 r5 r6 r7;rintro e w7 ⟨⟨u,rfl⟩,c7,p1,p2,p3,p4⟩
      have LN:Aside (RepPart w7 c7 br (if TT<t then t else TT) by_ (kvs ao' cap' R') bt bx bc R' ((ys.take (k+1)).reverse++A)/\du ((ys.take (k+1)).reverse++A) (if TT<t then t else TT)/\Acts w c w7 c7/\(∀k,c7 k≠0->B<=k)/\(∀k,w7.heap.size<=k->c7 k=0)/\OpsIn w7 (some ⟨blk,off,none⟩) ys/\(∀a,some (⟨blk,off,none⟩:Addr)=some a->c7 a.block=0)):=by
       have hbk:blk<wr.heap.size:=by
        obtain ⟨b2,o2,e2,hc2⟩:=L.o.2.2.2.2.2.1.get hx.o
        cases e2
        exact vR wr ⟨blk,off+k*8+0,none⟩ (hc2 0 _ rfl)
       have hc0:cc blk=0:=L.o.2.2.2.2.2.2 _ rfl;refine ⟨by rw [HTK.o];exact p1,by rw [HTK.o];exact Bq L.o.2.1 _ ht1,(L.o.2.2.1.trans (Acts.of_below cc (hbU _))).trans p2,p3,p4,?_,fun a ha=> ?_⟩
       ·rcases L.o.2.2.2.2.2.1.later (hbU _) with q | ⟨bb,oo,e1,e2⟩
        ·exact .inl q
        cases e1
        refine .inr ⟨blk,off,rfl,fun j u hj=> ?_⟩;rw [uk (a:=⟨blk,off+j,none⟩) (p2.keeps.block blk zr (fun q=>q hc0))];exact e2 j u hj
       cases ha
       rw [p2.hue blk zr];exact hc0
      clear p1 p2 p3 p4;go_wp2;go_roundg (ys.length - (k+1))
      case measure=>omega
      case rel=>exact ⟨k+1,_,c7,zD,zo,vM _,LN.o⟩
     have d1:decide ((k:Int)<(ys.length:Int))=false:=zr;obtain rfl:k=ys.length:=zo;go_wp2;go_ret2;refine ⟨.inr fresh,cc,?_,L.o.2.2.1,rfl,R',⟨⟨TT,_,bt,bx,bc,_,⟨L.o.1.cell,L.o.1.hue,L.o.1.rows,L.o.1.tree,L.o.1.text,L.o.1.marks,L.o.2.1⟩,?_,HW.o,H0.o.2.2.2.2.2⟩,L.o.2.2.2.1,L.o.2.2.2.2.1⟩,H3.o.2.2.2.1⟩
     ·unfold aB;rw [H1.o.1];refine .inr (.inr (.inr (.inr ⟨HW.o.well.congr H3.o.2.2.2.1,zo,rfl⟩)))
     rw [Zu];refine ((List.reverse_perm ys).append_right A).trans (Zw.trans ?_);exact ((H0.o.2.1.append_right ys).trans (H6.o.2.2.2.2.2.2.2.1.append_left _)).trans H3.o.2.2.2.2.1.symm
