import Derived.Test.YtpdbnnimdkfajaaGreatDoorVS43
set_option linter.unusedSimpArgs false
set_option linter.unusedVariables false
set_option maxRecDepth 100000
set_option maxHeartbeats 64000000
namespace Go.Proofs.YtpdbnnimdkfajaaGreatDoor
open Go.Proofs.Tryz
variable {B n:Nat} {br:Nat→Nat} {v:Value} {w w' wr:World}
section
open Go.RowKit Go.Lib Go.Sort Go.Maps
open scoped Classical
abbrev Trn:=Int×Int×OpX
def encTr (t:Trn):List Value:=[.int .i64 t.1,.int .i64 t.2.1]++encX t.2.2
theorem encTr_len (t:Trn):(encTr t).length=10:=rfl
def TrnOk (t:Trn):Prop:=t.2.2.2.2.2.2.2.2.1.size<=60/\t.2.2.2.2.2.2.2.2.2.size<=60/\t.2.2.2.2.2.1<256/\(-9223372036854775808<=nodeO t.2.2/\nodeO t.2.2<=9223372036854775807)/\(-9223372036854775808<=otherO t.2.2/\otherO t.2.2<=9223372036854775807)
def TrnBlk (w:World) (b:Nat) (t:Trn):Prop:=w.heap[b]? =some (.cells #[.int .i64 t.1,.int .i64 t.2.1,.int .i64 t.2.2.1,.int .i64 t.2.2.2.1,.int .i64 t.2.2.2.2.1,.int .u8 (t.2.2.2.2.2.1:Int),.int .i64 t.2.2.2.2.2.2.1,.int .i64 t.2.2.2.2.2.2.2.1,.string t.2.2.2.2.2.2.2.2.1,.string t.2.2.2.2.2.2.2.2.2] 166 (0,0))
theorem TrnBlk.lt {b:Nat} {t:Trn} (h:TrnBlk w b t):b<w.heap.size:=(jk.1 h).1
theorem TrnBlk.later {b:Nat} {t:Trn} (h:TrnBlk w b t) (hb:Below w.heap.size w w'):TrnBlk w' b t:=(hb.block b h.lt).trans h
theorem TrnBlk.cells {b:Nat} {t:Trn} (h:TrnBlk w b t):w.cell? ⟨b,0,none⟩=some (.int .i64 t.1)/\w.cell? ⟨b,1,none⟩=some (.int .i64 t.2.1)/\w.cell? ⟨b,2,none⟩=some (.int .i64 t.2.2.1)/\w.cell? ⟨b,3,none⟩=some (.int .i64 t.2.2.2.1)/\w.cell? ⟨b,4,none⟩=some (.int .i64 t.2.2.2.2.1)/\w.cell? ⟨b,5,none⟩=some (.int .u8 (t.2.2.2.2.2.1:Int))/\w.cell? ⟨b,6,none⟩=some (.int .i64 t.2.2.2.2.2.2.1)/\w.cell? ⟨b,7,none⟩=some (.int .i64 t.2.2.2.2.2.2.2.1)/\w.cell? ⟨b,8,none⟩=some (.string t.2.2.2.2.2.2.2.2.1)/\w.cell? ⟨b,9,none⟩=some (.string t.2.2.2.2.2.2.2.2.2):=by
 unfold TrnBlk at h
 refine ⟨?_,?_,?_,?_,?_,?_,?_,?_,?_,?_⟩<;>simp [World.cell?,h]
def CrowdT (B:Nat) (w:World) (g cap:Nat) (br:Nat->Nat) (K:Nat->Rws) (i:Nat) (P:Nat) (t:Trn) (wr:World):Prop:=Crowd B w g cap br K i [P] wr/\TrnBlk wr P t
def CrowdO (B:Nat) (w:World) (g cap:Nat) (br:Nat->Nat) (K:Nat->Rws) (i:Nat) (P:Nat) (t:Trn) (Q:Nat) (wr:World):Prop:=Crowd B w g cap br K i [P] wr/\TrnBlk wr P t/\OpBlk wr Q t.2.2
def CrowdZ (B:Nat) (w:World) (g cap:Nat) (br:Nat->Nat) (P:Nat) (t:Trn) (Z:Nat) (y:OpX) (wr:World):Prop:=∃K j,Crowd B w g cap br K j [Z,P] wr/\TrnBlk wr P t/\OpBlk wr Z y
structure StartN (B:Nat) (w:World) (n:Nat) (br:Nat->Nat) (v:Value) (wr:World):Prop where
 folk:∃c,Folk B wr n c br (fun r=>(r:Int)) (fun _ _=>[])/\∀g,v.ownBlock=some g->∀r,r<n->c r g=0
 row:wr.ownsRow B 25 1 v n (ptrs br n)
 below:Below B w wr
theorem Folk.still {c:Nat->Nat->Nat} {by_:Nat->Int} {R:Nat->Rws} {S:Nat->Prop} (h:Folk B w n c br by_ R) (hk:Keeps S w w') (hS:∀k,S k->∀r,r<n->c r k=0):Folk B w' n c br by_ R:=
 ⟨fun r hr=>⟨(h.rep r hr).rep.kept (fun i hi=>⟨fun k hkl e=>hk.block k hkl (fun q=>hi (by rw [<-e,hS k q r hr])),fun _ _=>rfl⟩),(h.rep r hr).low,fun k hkl=>(h.rep r hr).high k (jw hk.size hkl)⟩,h.apart⟩
theorem StartN.next {B:Nat} {w wr w1 w2:World} {n:Nat} {br:Nat->Nat} {v v2:Value} {c0:Nat->Nat} {br0:Nat} {o:Obj} (h:StartN B w n br v wr) (hB:B<=wr.heap.size) (h0:RepOwn wr.heap.size w1 c0 br0 (n:Int) (fun _=>[])) (hb:Below wr.heap.size wr w1)
  (hown:w2.ownsRow B 25 1 v2 (n+1) (ptrs br n++ [.pointer (some ⟨br0,0,none⟩)])) (hgrow:(w1.alloc o).grownBy w2 v.ownBlock) (hcase:(∃g cap,v= .slice (some ⟨g,0,none⟩) n cap/\v2= .slice (some ⟨g,0,none⟩) (n+1) cap)\/(v2.ownBlock=some (w1.alloc o).heap.size/\(w1.alloc o).grownBy w2 none)):StartN B w (n+1) (setAt br n br0) v2 w2:=by
 obtain ⟨c,hf,hg⟩:=h.folk
 have hf1:=hf.add hB h0 hb
 have hz:∀g,v.ownBlock=some g->∀r,r<n+1->setAt c n c0 r g=0:=fun g hv r hr=>by
  by_cases e:r=n
  ·subst e
   rw [setAt_is]
   have:=(h.row.lt g hv).2
   by_cases q:c0 g=0
   ·exact q
   have:=h0.low g q;omega
  rw [setAt_ne _ _ e];exact hg g hv r zi
 have hk1:Keeps (fun k=>v.ownBlock=some k) w1 w2:=((Keeps.refl _ w1).alloc o).trans ((keeps_of_grown hgrow).mono (fun k _ hk=>by rw [<-hk]))
 have hf2:=hf1.still hk1 (fun k hk r hr=>hz k hk r hr)
 have eR:setAt (fun _ _=>[]:Nat->Rws) n (fun _=>[])=fun _ _=>[]:=by funext r;unfold setAt;split<;>rfl
 rw [eR] at hf2
 refine ⟨⟨setAt c n c0,hf2.congr (fun r hr=> ?_),fun g hv r hr=> ?_⟩,?_,h.below.trans (hb.mono hB |>.trans ?_)⟩
 ·by_cases e:r=n
  ·subst e;rw [setAt_is]
  rw [setAt_ne _ _ e]
 ·rcases hcase with ⟨g',cp,e1,e2⟩ | ⟨e1,_⟩
  ·rw [e2] at hv
   exact hz g (by rw [e1];exact hv) r hr
  rw [hv] at e1
  cases e1
  exact (hf1.rep r hr).high _ zm
 ·rw [ptrs_succ,setAt_is,ptrs_congr (br:=setAt br n br0) (br':=br) (fun r hr=>setAt_ne _ _ zi)]
  exact hown
 exact hk1.below (jw hB hb.size) (fun k hk=>(h.row.lt k hk).1)
theorem StartN.crowd (h:StartN B w 4 br v wr) (hB:B<=w.heap.size):∃g cap,v= .slice (some ⟨g,0,none⟩) 4 cap/\Crowd B w g cap br (fun _ _=>[]) 0 [] wr:=by
 obtain ⟨c,hf,hg⟩:=h.folk
 rcases h.row.2 with ⟨_,h0⟩ | ⟨g,cap,cur,rfl,_⟩
 ·cases h0
 refine ⟨g,cap,rfl,⟨c,hf,fun r hr k hk=>(show k=g by simpa using hk)▸hg g rfl r hr⟩,h.row,h.below,hB,?_,⟨[],jj _,fun r hr x hx=>by simp [allR] at hx⟩,fun k hk=>by simp at hk⟩
 have:(fun r=>allR ((fun _ _=>[]:Nat->Rws) r))=fun _=>[]:=by funext r;simp [allR]
 rw [this]
 exact folk_start 4
theorem played_any {ad:Nat->Addr} (w:World) (la:Option Addr) (lc:Nat) (l:List Trn) (hE0:EnvT B ad w) (hcy:Aside (Cyc ad)) (hin:InRow encTr w la l) (hl:l.length<=60) (hok:∀t∈l,TrnOk t):
  Calls prog 30 #[.slice la l.length lc] w fun e w'=>∃g cap br K,e= .returned (.slice (some ⟨g,0,none⟩) 4 cap)/\Aside (Crowd w.heap.size w g cap br K l.length [] w'):=by
 obtain ⟨i0,hi,hz0,hz1,hz2⟩:=info_parts infoPR
 obtain ⟨S,hS⟩:=za w.heap.size
 have hE:EnvT S ad w:=by rw [hS];exact hE0.up hE0.env.size ze
 rw [<-hS]
 have HE:Aside (EnvT S ad w/\InRow encTr w la l/\S=w.heap.size):=⟨hE,hin,hS⟩
 have H0:Aside (StartN S w 0 (fun _=>0) (.slice none 0 0) w):=⟨⟨fun _ _=>0,Folk.none _ _ _ _ _ _,fun g hg=>by cases hg⟩,jQ _ _ _ _,by rw [hS];exact jo _ w⟩
 clear hE hE0 hin hS
 go_enter func30,ntmps30
 go_wp2
 go_loopg [3,4] 4 (fun kx s3 s4 wr=>∃(n:Nat) (v:Value) (br:Nat->Nat),v=s3/\s4= .int .i64 (n:Int)/\n<=4/\4 - n<=kx/\Aside (StartN S w n br v wr))
 case atStart=>exact ⟨0,_,_,rfl,rfl,zi,zi,H0.o⟩
 case round=>
  obtain ⟨n,v,br,rfl,rfl,hn4,hnx,A⟩:=hrel
  clear H0
  by_cases hlt:n<4
  ·have d1:decide ((n:Int)<4)=true:=by simp;omega
   have hB:S<=wr.heap.size:=by have:=A.o.below.size;have:=HE.o.2.2;omega
   have hnew:=rnew_ok wr (n:Int) zi zi
   obtain ⟨u,hu⟩:=za wr
   subst hu
   go_wp2_with fail
   refine hnew.mono ?_
   clear hnew
   rintro e w1 ⟨c0,br0,rfl,hR1,hb1⟩
   obtain ⟨v2,w2,hrun,hown,hgrow,hcase⟩:=append_in (P:=prog) (w1.alloc (.cells #[.pointer (some ⟨br0,0,none⟩)] 25)) S 79 79 25 i0 _ 1 8 underlying79 hi hz0 hz1 hz2 rfl zi v n (ptrs br n) ((ownsHeld A.o.row (fun k hk=>hb1.block k (A.o.row.lt k hk).2)).alloc _) ⟨w1.heap.size,0,none⟩ 1 1 zi [.pointer (some ⟨br0,0,none⟩)] rfl
    (World.news_of_block (cs:= #[.pointer (some ⟨br0,0,none⟩)]) (t:=25) (fr:=(0,0)) (heap_alloc_new w1 _)) (by simp [Value.oneCell']) zD zi (by have:=hb1.size;rw [jI];omega)
   have HN:Aside (StartN S w (n+1) (setAt br n br0) v2 w2):=A.o.next hB hR1 hb1 hown hgrow hcase
   obtain ⟨g2,cp2,rfl⟩:=ownsRow_succ hown
   clear hR1 hb1 hown hgrow hcase A
   go_wp2_with (at_builtin;refine Lib.wpList_append_run _ rfl _ _ _ _ rfl _ _ rfl rfl _ _ hrun ?_)
   go_roundg (4 - (n+1))
   case measure=>omega
   case rel=>exact ⟨n+1,_,setAt br n br0,rfl,zw,zi,zi,HN.o⟩
  have d1:decide ((n:Int)<4)=false:=zk
  obtain rfl:n=4:=zi
  obtain ⟨g,cap,rfl,hC⟩:=A.o.crowd (by have:=HE.o.2.2;omega)
  have HC:Aside (Crowd S w g cap br (fun _ _=>[]) 0 [] wr):=hC
  clear hC A
  go_wp2
  clear d1
  go_loopg [7] l.length (fun kx s7 wr=>∃(k:Nat) (K:Nat->Rws),s7= .int .i64 (k:Int)/\k<=l.length/\l.length - k<=kx/\Aside (Crowd S w g cap br K k [] wr))
  case atStart=>exact ⟨0,_,rfl,js _,jj _,HC.o⟩
  case round=>
   obtain ⟨k,K0,rfl,hk,hkx,A⟩:=hrel
   clear HC
   by_cases hlt:k<l.length
   ·have d2:decide ((k:Int)<(l.length:Int))=true:=by simp;omega
    have wk:((k:Int)).toNat=k:=zi
    have pk:(0:Int)<=(k:Int):=zi
    have bk:(k:Int)<(l.length:Int):=zi
    obtain ⟨⟨ba,fr,t,b,n,kd,nd,o,s,v⟩,hx⟩:∃x,Aside (l[k]? =some x):=⟨l[k],ji hlt⟩
    have hOk:=hok _ (jm hx.o)
    have hbw:Below w.heap.size w wr:=by have:=A.o.below;rwa [HE.o.2.2] at this
    obtain ⟨blk,off,hao,hc⟩:=(HE.o.2.1.later hbw).get encTr_len hx.o
    subst hao
    have r0:=hc 0 _ rfl
    have r1:=hc 1 _ rfl
    have r2:=hc 2 _ rfl
    have r3:=hc 3 _ rfl
    have r4:=hc 4 _ rfl
    have r5:=hc 5 _ rfl
    have r6:=hc 6 _ rfl
    have r7:=hc 7 _ rfl
    have r8:=hc 8 _ rfl
    have r9:=hc 9 _ rfl
    simp only [vk] at r0
    obtain ⟨P,hP⟩:=zc wr.heap.size
    obtain ⟨U,hU⟩:=zc (wr.alloc (.cells #[.int .i64 ba,.int .i64 fr,.int .i64 t,.int .i64 b,.int .i64 n,.int .u8 (kd:Int),.int .i64 nd,.int .i64 o,.string s,.string v] 166))
    have hbU:Below wr.heap.size wr U:=by rw [hU.o];exact zg wr _
    have T0:TrnBlk U P (ba,fr,t,b,n,kd,nd,o,s,v):=by rw [hU.o,hP.o];exact heap_alloc_new wr _
    have HC:Aside (Crowd S w g cap br K0 k [P] U/\TrnBlk U P (ba,fr,t,b,n,kd,nd,o,s,v)/\TrnOk (ba,fr,t,b,n,kd,nd,o,s,v)):=⟨A.o.guard hbU (by rw [hP.o];exact jj _) T0.lt,T0,hOk⟩
    obtain ⟨j0,j1,j2,j3,j4,j5,j6,j7,j8,j9⟩:=T0.cells
    dsimp only at j0 j1 j2 j3 j4 j5 j6 j7 j8 j9
    obtain ⟨u,hu⟩:=za wr
    subst hu
    clear hbU T0 hOk hbw hc A
    go_upto_region 13 with fail
    rw [<-hU.o,<-hP.o]
    clear r0 r1 r2 r3 r4 r5 r6 r7 r8 r9
    by_cases hba:0<=ba/\ba<4
    ·obtain ⟨a,rfl⟩:∃a:Nat,ba=(a:Int):=⟨ba.toNat,zi⟩
     have ha4:a<4:=zi
     have e1:decide ((a:Int)<0)=false:=zm
     have e2:decide ((4:Int)<=(a:Int))=false:=zk
     have e3:decide (4<=a)=false:=zk
     have wa:((a:Int)).toNat=a:=zi
     have pa:(0:Int)<=(a:Int):=zi
     have qa:(a:Int)<4:=zi
     clear hba
     have n1:¬((a:Int)<0):=zi
     go_upto_region 14 with fail
     obtain ⟨zf,hzf⟩:∃zf:Bool,Aside (zf=true↔0<=fr/\fr<4):=⟨decide (0<=fr/\fr<4),by show decide (0<=fr/\fr<4)=true↔_;exact decide_eq_true_iff⟩
     go_cut [59] (fun s59 wx=>s59= .bool zf/\wx=U)
     case first=>
      by_cases hf0:0<=fr
      ·have g1:decide (0<=fr)=true:=by simp;omega
       have g3:decide (fr<4)=zf:=by
        rw [uk,decide_eq_true_iff,hzf.o]
        omega
       go_wp2
       go_meet
       exact ⟨rfl,rfl⟩
      have g1:decide (0<=fr)=false:=zk
      have g3:zf=false:=by
       rw [Bool.eq_false_iff,ne_eq,hzf.o]
       omega
      subst g3
      go_wp2
      go_meet
      exact ⟨rfl,rfl⟩
     case rest=>
     obtain ⟨rfl,rfl⟩:=hcut
     obtain ⟨U1,hU1⟩:=za wc
     subst hU1
     go_upto_if 59 with fail
     go_cut [9,10,11] (fun _ _ _ wx=>∃(K':Nat->Rws),Aside (Crowd S w g cap br K' k [P] wx/\TrnBlk wx P ((a:Int),fr,t,b,n,kd,nd,o,s,v)))
     case first=>
      by_cases hfr:0<=fr/\fr<4
      ·obtain rfl:zf=true:=hzf.o.2 hfr
       obtain ⟨f,rfl⟩:∃f:Nat,fr=(f:Int):=⟨fr.toNat,zi⟩
       have hf4:f<4:=zi
       have wf:((f:Int)).toNat=f:=zi
       have pf:(0:Int)<=(f:Int):=zi
       have qf:(f:Int)<4:=zi
       clear hfr
       have CS0:CrowdT S w g cap br K0 k P ((a:Int),(f:Int),t,b,n,kd,nd,o,s,v) U1.drew:=⟨HC.o.1.later (jo _ U1).drew,HC.o.2.1.later (jo _ U1).drew⟩
       have hvec:=crowd_vec CS0.1 zi ha4
       go_upto_region 15 with fail
       refine wp_region_H (S:=(fun w'=>CrowdT S w g cap br K0 k P ((a:Int),(f:Int),t,b,n,kd,nd,o,s,v) w')) zj CS0 (fun hHeld=> ?_)
       refine tk 0 hHeld ?_
       refine tk 1 hHeld ?_
       refine tk 2 hHeld ?_ (hy:=Or.inl ⟨zu,by intro w' hSw;obtain ⟨q1,-⟩:=(TrnBlk.cells hSw.2).2;dsimp only at q1;clear hSw;go_simp;try with_reducible rfl⟩)
       refine tk 3 hHeld ?_
       refine tk 4 hHeld ?_ (hy:=Or.inl ⟨zu,by intro w' hSw;have q2:=hSw.1.cell hf4;clear hSw;go_simp;try with_reducible rfl⟩)
       refine tk 5 hHeld ?_
       refine tk 6 hHeld ?_
       refine tk 7 hHeld ?_ (hy:=Or.inl ⟨zu,by intro w' hSw;obtain ⟨q0,-⟩:=TrnBlk.cells hSw.2;dsimp only at q0;clear hSw;go_simp;try with_reducible rfl⟩)
       refine tk 8 hHeld ?_
       refine tk 9 hHeld ?_ (hy:=Or.inl ⟨zu,yT⟩)
       refine wpAnyH_one (i:=10) zj rfl (fun K hK=> ?_)
       go_simp
       refine hvec.mono ?_
       clear hvec
       rintro e w3 ⟨rfl,hb3⟩
       have C3:CrowdT S w g cap br K0 k P ((a:Int),(f:Int),t,b,n,kd,nd,o,s,v) w3:=⟨CS0.1.later hb3,CS0.2.later hb3⟩
       have hdf:=crowd_diff C3.1 zi ha4 hf4
       refine hK _ _ C3 ?_
       clear hK K hb3 CS0
       refine qn ?_
       refine wpAnyH_one (i:=11) zj rfl (fun K hK=> ?_)
       go_simp
       refine hdf.mono ?_
       clear hdf
       rintro e w4 ⟨ax,xc,xs,rfl,HX⟩
       have C4:CrowdT S w g cap br K0 k P ((a:Int),(f:Int),t,b,n,kd,nd,o,s,v) w4:=⟨C3.1.later HX.o.2.2.2.2,C3.2.later HX.o.2.2.2.2⟩
       refine hK _ _ C4 ?_
       clear hK K C3
       refine qn ?_
       refine wpAnyH_one (i:=12) zj rfl (fun K hK=> ?_)
       go_simp
       refine hK _ _ C4 ?_
       clear hK K
       refine wpAnyH_done zj ?_ _
       refine qn ?_
       have hjn:=crowd_join C4.1 HE.o.1 zi ha4 hf4 ax xc xs HX.o.1 HX.o.2.1 HX.o.2.2.1 HX.o.2.2.2.1
       have hc1:=C4.1.cell ha4
       obtain ⟨y0,y1,-⟩:=C4.2.cells
       dsimp only at y0 y1
       have HC4:Aside (TrnBlk w4 P ((a:Int),(f:Int),t,b,n,kd,nd,o,s,v)):=C4.2
       clear C4 HX
       go_wp2_with fail
       refine hjn.mono ?_
       clear hjn
       rintro e w5 ⟨m,R',rfl,H5⟩
       clear hc1 y0 y1
       go_wp2
       go_meet
       exact ⟨_,H5.o.1,(H5.o.2.2 P zm).trans HC4.o⟩
      obtain rfl:zf=false:=by
       rw [Bool.eq_false_iff,ne_eq,hzf.o]
       exact hfr
      go_wp2
      go_meet
      exact ⟨K0,HC.o.1,HC.o.2.1⟩
     obtain ⟨K1,HC1⟩:=hcut
     obtain ⟨x0_,x1_,y2,y3,y4,y5,y6,y7,y8,y9⟩:=HC1.o.2.cells
     dsimp only at x0_ x1_ y2 y3 y4 y5 y6 y7 y8 y9
     clear j0 j1 j2 j3 j4 j5 j6 j7 j8 j9
     obtain ⟨V,hV⟩:=zc (wc.alloc (.cells #[.int .i64 t,.int .i64 b,.int .i64 n,.int .u8 (kd:Int),.int .i64 nd,.int .i64 o,.string s,.string v] 38))
     obtain ⟨Q,hQ⟩:=zc wc.heap.size
     have hbV:Below wc.heap.size wc V:=by rw [hV.o];exact zg wc _
     have O0:OpBlk V Q (t,b,n,kd,nd,o,s,v):=by rw [hV.o,hQ.o];exact OpBlk.new wc (t,b,n,kd,nd,o,s,v)
     have HV:Aside (Crowd S w g cap br K1 k [P] V/\TrnBlk V P ((a:Int),fr,t,b,n,kd,nd,o,s,v)/\OpBlk V Q (t,b,n,kd,nd,o,s,v)):=⟨HC1.o.1.later hbV,HC1.o.2.later hbV,O0⟩
     clear hbV O0
     go_upto_region 20 with fail
     rw [<-hV.o,<-hQ.o]
     clear y2 y3 y4 y5 y6 y7 y8 y9 x0_ x1_
     have CS0:CrowdO S w g cap br K1 k P ((a:Int),fr,t,b,n,kd,nd,o,s,v) Q V.drew:=⟨HV.o.1.later (jo _ V).drew,HV.o.2.1.later (jo _ V).drew,HV.o.2.2.later (jo _ V).drew⟩
     have hmk:=fun (W:World) (hW:CrowdO S w g cap br K1 k P ((a:Int),fr,t,b,n,kd,nd,o,s,v) Q W)=>crowd_make hW.1 HE.o.1 hcy zi ha4 (t,b,n,kd,nd,o,s,v) (by have:=HC.o.2.2.1;show s.size<=1000000;dsimp only at this;omega) (by have:=HC.o.2.2.2.1;show v.size<=1000000;dsimp only at this;omega) HC.o.2.2.2.2.1 HC.o.2.2.2.2.2.1 HC.o.2.2.2.2.2.2
     unfold encO at hmk
     dsimp only at hmk
     have HMK:=Lib.hid hmk
     clear hmk
     go_cut [13,14] (fun s13 s14 wx=>∃(Z cd:Nat) (y:OpX),s13= .pointer (some ⟨Z,0,none⟩)/\s14=eV ad cd/\Aside (Crowd S w g cap br K1 k [Z,P] wx/\TrnBlk wx P ((a:Int),fr,t,b,n,kd,nd,o,s,v)/\OpBlk wx Z y/\((cd≠0/\y=zeroO)\/(cd=0/\∃T,timeO (allR (K1 a)) T/\NextOp (K1 a) a T y))))
     case first=>
      refine wp_region_H (S:=(fun w'=>CrowdO S w g cap br K1 k P ((a:Int),fr,t,b,n,kd,nd,o,s,v) Q w')) zj CS0 (fun hHeld=> ?_)
      refine tk 0 hHeld ?_
      refine tk 1 hHeld ?_
      refine tk 2 hHeld ?_ (hy:=Or.inl ⟨zu,by intro w' hSw;obtain ⟨q0,-⟩:=TrnBlk.cells hSw.2.1;dsimp only at q0;clear hSw;go_simp;try with_reducible rfl⟩)
      refine tk 3 hHeld ?_
      refine tk 4 hHeld ?_ (hy:=Or.inl ⟨zu,yT⟩)
      refine tk 5 hHeld ?_ (hy:=Or.inl ⟨zu,by intro w' hSw;obtain ⟨o0,o1,o2,o3,o4,o5,o6,o7,-⟩:=OpBlk.cells hSw.2.2;dsimp only at o0 o1 o2 o3 o4 o5 o6 o7;clear hSw;go_simp;try with_reducible rfl⟩)
      refine wpAnyH_two (i:=6) (j:=10) zj rfl rfl (fun K hK=> ?ca) (fun K hK=> ?al)
      case ca=>
       go_simp
       refine (HMK.o V.drew CS0).mono ?_
       rintro e w6 ⟨y,cd,rfl,H6⟩
       have C6:CrowdO S w g cap br K1 k P ((a:Int),fr,t,b,n,kd,nd,o,s,v) Q w6:=⟨CS0.1.later H6.o.1,CS0.2.1.later H6.o.1,CS0.2.2.later H6.o.1⟩
       refine hK _ _ C6 ?_
       clear hK K CS0
       obtain ⟨t',b',m',kd',nd',o',s',v'⟩:=y
       obtain ⟨er,her⟩:=zc (eV ad cd)
       rw [<-her.o]
       unfold encO
       dsimp only
       refine qn ?_
       refine tk 7 C6 ?_
       refine tk 8 C6 ?_
       refine tk 9 C6 ?_
       obtain ⟨X,hX⟩:=zc (w6.alloc (.cells #[.int .i64 0,.int .i64 0,.int .i64 0,.int .u8 0,.int .i64 0,.int .i64 0,.string ⟨#[]⟩,.string ⟨#[]⟩] 38))
       have hbX:Below w6.heap.size w6 X:=by rw [hX.o];exact zg w6 _
       have ZX:OpBlk X w6.heap.size zeroO:=by rw [hX.o];exact OpBlk.new w6 zeroO
       have CX:CrowdO S w g cap br K1 k P ((a:Int),fr,t,b,n,kd,nd,o,s,v) Q X:=⟨C6.1.later hbX,C6.2.1.later hbX,C6.2.2.later hbX⟩
       refine wpAnyH_one (i:=10) zj rfl (fun K hK=> ?_)
       go_simp
       rw [<-hX.o]
       refine hK _ _ CX ?_
       clear hK K
       refine qn ?_
       obtain ⟨z0,z1,z2,z3,z4,z5,z6,z7,zf'⟩:=ZX.cells
       unfold zeroO at z0 z1 z2 z3 z4 z5 z6 z7
       dsimp only at z0 z1 z2 z3 z4 z5 z6 z7
       have hb7:Below w6.heap.size w6 (X.setCells w6.heap.size 0 (encX (t',b',m',kd',nd',o',s',v'))):=hbX.trans ((setCells_keeps w6.heap.size _ 0 X).below hbX.size (fun q e=>zi))
       have C7:CrowdO S w g cap br K1 k P ((a:Int),fr,t,b,n,kd,nd,o,s,v) Q (X.setCells w6.heap.size 0 (encX (t',b',m',kd',nd',o',s',v'))):=⟨C6.1.later hb7,C6.2.1.later hb7,C6.2.2.later hb7⟩
       have O7:=opBlk_put ZX (t',b',m',kd',nd',o',s',v')
       refine wpAnyH_one (i:=11) zj rfl (fun K hK=> ?_)
       go_simp
       refine hK _ _ C7 ?_
       clear hK K z0 z1 z2 z3 z4 z5 z6 z7 zf'
       refine qn ?_
       refine tk 12 C7 ?_
       refine wpAnyH_done zj ?_ _
       refine qn ?_
       go_wp2
       go_meet
       exact ⟨_,cd,_,rfl,her.o,C6.1.guard hb7 ze O7.lt,C7.2.1,O7,H6.o.2.2⟩
      case al=>
       obtain ⟨X,hX⟩:=zc ((V.alloc (.cells #[.int .i64 0,.int .i64 0,.int .i64 0,.int .u8 0,.int .i64 0,.int .i64 0,.string ⟨#[]⟩,.string ⟨#[]⟩] 38)).drew)
       obtain ⟨ZB,hZB⟩:=zc V.drew.heap.size
       have hbX:Below V.drew.heap.size V.drew X:=by rw [hX.o];exact (jo _ V.drew).alloc ze _
       have ZX:OpBlk X ZB zeroO:=by rw [hX.o,hZB.o];exact OpBlk.new V.drew zeroO
       have CX:CrowdO S w g cap br K1 k P ((a:Int),fr,t,b,n,kd,nd,o,s,v) Q X:=⟨CS0.1.later hbX,CS0.2.1.later hbX,CS0.2.2.later hbX⟩
       have hlow:Below V.drew.heap.size V.drew X:=hbX
       go_simp
       rw [show V.heap.size=ZB from hZB.o.symm,<-hX.o]
       refine hK _ _ CX ?_
       clear hK K
       refine qn ?_
       refine wpAnyH_one (i:=6) zj rfl (fun K hK=> ?_)
       go_simp
       refine (HMK.o X CX).mono ?_
       rintro e w6 ⟨y,cd,rfl,H6⟩
       have C6:CrowdO S w g cap br K1 k P ((a:Int),fr,t,b,n,kd,nd,o,s,v) Q w6:=⟨CX.1.later H6.o.1,CX.2.1.later H6.o.1,CX.2.2.later H6.o.1⟩
       refine hK _ _ C6 ?_
       clear hK K
       obtain ⟨t',b',m',kd',nd',o',s',v'⟩:=y
       obtain ⟨er,her⟩:=zc (eV ad cd)
       rw [<-her.o]
       unfold encO
       dsimp only
       refine qn ?_
       refine tk 7 C6 ?_
       refine tk 8 C6 ?_
       refine tk 9 C6 ?_
       have Z6:=ZX.later H6.o.1
       obtain ⟨z0,z1,z2,z3,z4,z5,z6,z7,zf'⟩:=Z6.cells
       unfold zeroO at z0 z1 z2 z3 z4 z5 z6 z7
       dsimp only at z0 z1 z2 z3 z4 z5 z6 z7
       have hb7:Below V.drew.heap.size V.drew (w6.setCells ZB 0 (encX (t',b',m',kd',nd',o',s',v'))):=(zh hlow H6.o.1).trans ((setCells_keeps ZB _ 0 w6).below (jw hlow.size H6.o.1.size) (fun q e=>by have:=hZB.o;omega))
       have C7:CrowdO S w g cap br K1 k P ((a:Int),fr,t,b,n,kd,nd,o,s,v) Q (w6.setCells ZB 0 (encX (t',b',m',kd',nd',o',s',v'))):=⟨CS0.1.later hb7,CS0.2.1.later hb7,CS0.2.2.later hb7⟩
       have O7:=opBlk_put Z6 (t',b',m',kd',nd',o',s',v')
       refine wpAnyH_one (i:=11) zj rfl (fun K hK=> ?_)
       go_simp
       refine hK _ _ C7 ?_
       clear hK K z0 z1 z2 z3 z4 z5 z6 z7 zf'
       refine qn ?_
       refine tk 12 C7 ?_
       refine wpAnyH_done zj ?_ _
       refine qn ?_
       go_wp2
       go_meet
       exact ⟨_,cd,_,rfl,her.o,CS0.1.guard hb7 (by rw [hZB.o];exact jj _) O7.lt,C7.2.1,O7,H6.o.2.2⟩
     obtain ⟨Z,cd,y,rfl,rfl,HR⟩:=hcut
     obtain ⟨X,hX⟩:=za wc
     subst hX
     by_cases hcd:cd=0
     ·subst hcd
      have hev:eV ad 0= .nilIface:=rfl
      rw [hev]
      obtain ⟨T,hT,hN⟩:∃T,timeO (allR (K1 a)) T/\NextOp (K1 a) a T y:=by
       rcases HR.o.2.2.2 with ⟨q,_⟩ | ⟨_,q⟩
       ·exact absurd rfl q
       exact q
      have HN:Aside (timeO (allR (K1 a)) T/\NextOp (K1 a) a T y):=⟨hT,hN⟩
      clear hT hN hev
      go_upto_region 22 with fail
      obtain ⟨t',b',m',kd',nd',o',s',v'⟩:=y
      have CS1:CrowdZ S w g cap br P ((a:Int),fr,t,b,n,kd,nd,o,s,v) Z (t',b',m',kd',nd',o',s',v') X.drew:=⟨K1,k,HR.o.1.later (jo _ X).drew,HR.o.2.1.later (jo _ X).drew,HR.o.2.2.1.later (jo _ X).drew⟩
      obtain ⟨Y,hY⟩:=zc ((X.alloc (.cells #[.int .i64 t',.int .i64 b',.int .i64 m',.int .u8 (kd':Int),.int .i64 nd',.int .i64 o',.string s',.string v'] 38)).drew)
      have hbY:Below X.heap.size X Y:=by rw [hY.o];exact (zg X _).drew
      have CY:Crowd S w g cap br K1 k [Z,P] Y/\TrnBlk Y P ((a:Int),fr,t,b,n,kd,nd,o,s,v)/\OpBlk Y Z (t',b',m',kd',nd',o',s',v'):=⟨HR.o.1.later hbY,HR.o.2.1.later hbY,HR.o.2.2.1.later hbY⟩
      have hinY:OpsIn Y (some ⟨X.heap.size,0,none⟩) [(t',b',m',kd',nd',o',s',v')]:=by
       refine .inr ⟨X.heap.size,0,rfl,fun j u hj=> ?_⟩
       rw [hY.o]
       have:=lit_cellsO X (t',b',m',kd',nd',o',s',v') 38 j u (by simpa [cellsOf,flat] using hj)
       rw [Addr.add_lit] at this
       exact this
      have hjn:=crowd_own CY.1 HE.o.1 zi ha4 (some ⟨X.heap.size,0,none⟩) 1 T (t',b',m',kd',nd',o',s',v') hinY HN.o.1 HN.o.2
      have hjn2:=hjn.mono (R':=fun e w'=>∃(R':Rws),e= .returned (.tuple #[.int .i64 1,.nilIface])/\Aside (Crowd S w g cap br (setAt K1 a R') (k+1) [Z,P] w')/\CrowdZ S w g cap br P ((a:Int),fr,t,b,n,kd,nd,o,s,v) Z (t',b',m',kd',nd',o',s',v') w') (fun e w' q=>by
       obtain ⟨R',he,q⟩:=q
       exact ⟨R',he,q.o.1,_,_,q.o.1,(q.o.2 P zm).trans CY.2.1,(q.o.2 Z zm).trans CY.2.2⟩)
      have CYZ:CrowdZ S w g cap br P ((a:Int),fr,t,b,n,kd,nd,o,s,v) Z (t',b',m',kd',nd',o',s',v') Y:=⟨_,_,CY⟩
      clear hjn hinY hbY CY
      refine wp_region_H (S:=(fun w'=>CrowdZ S w g cap br P ((a:Int),fr,t,b,n,kd,nd,o,s,v) Z (t',b',m',kd',nd',o',s',v') w')) zj CS1 (fun hHeld=> ?_)
      refine tk 0 hHeld ?_
      refine tk 1 hHeld ?_
      refine tk 2 hHeld ?_ (hy:=Or.inl ⟨zu,by intro w' hSw;obtain ⟨_,_,_,qt,_⟩:=hSw;obtain ⟨q0,-⟩:=TrnBlk.cells qt;dsimp only at q0;clear qt;go_simp;try with_reducible rfl⟩)
      refine tk 3 hHeld ?_
      refine tk 4 hHeld ?_ (hy:=Or.inl ⟨zu,by intro w' hSw;obtain ⟨_,_,qc,_⟩:=hSw;have q2:=qc.cell ha4;clear qc;go_simp;try with_reducible rfl⟩)
      refine tk 5 hHeld ?_ (hy:=Or.inl ⟨zu,by intro w' hSw;obtain ⟨_,_,_,_,qo⟩:=hSw;obtain ⟨o0,o1,o2,o3,o4,o5,o6,o7,-⟩:=OpBlk.cells qo;dsimp only at o0 o1 o2 o3 o4 o5 o6 o7;clear qo;go_simp;try with_reducible rfl⟩)
      refine wpAnyH_one (i:=6) zj rfl (fun K hK=> ?_)
      go_simp
      rw [<-hY.o]
      refine hK _ _ CYZ ?_
      clear hK K CS1
      refine qn ?_
      refine wpAnyH_one (i:=7) zj rfl (fun K hK=> ?_)
      go_simp
      refine hjn2.mono ?_
      clear hjn2
      rintro e w9 ⟨R9,rfl,HC9,C9⟩
      refine hK _ _ C9 ?_
      clear hK K CYZ
      refine qn ?_
      refine tk 8 C9 ?_
      refine tk 9 C9 ?_
      refine tk 10 C9 ?_
      refine tk 11 C9 ?_
      refine wpAnyH_done zj ?_ _
      refine qn ?_
      clear C9
      go_wp2
      go_roundg (l.length - (k+1))
      case measure=>omega
      case rel=>exact ⟨k+1,_,zw,zi,jj _,HC9.o.less zm⟩
     have hev:eV ad cd= .iface 399 (.pointer (some (ad (cd - 1)))):=if_neg hcd
     rw [hev]
     clear hev hcd
     go_wp2
     go_roundg (l.length - (k+1))
     case measure=>omega
     case rel=>exact ⟨k+1,K1,zw,zi,jj _,(HR.o.1.up zi).less zm⟩
    have HU:Aside (Crowd S w g cap br K0 k [P] U):=HC.o.1
    by_cases hneg:ba<0
    ·have e1:decide (ba<0)=true:=by simp;omega
     go_wp2
     go_roundg (l.length - (k+1))
     case measure=>omega
     case rel=>exact ⟨k+1,K0,zw,zi,jj _,(HU.o.up zi).less zm⟩
    have e1:decide (ba<0)=false:=zk
    have e2:decide (4<=ba)=true:=zk
    go_wp2
    go_roundg (l.length - (k+1))
    case measure=>omega
    case rel=>exact ⟨k+1,K0,zw,zi,jj _,(HU.o.up zi).less zm⟩
   have d2:decide ((k:Int)<(l.length:Int))=false:=zk
   obtain rfl:k=l.length:=zi
   have HA:Aside (Crowd S w g cap br K0 l.length [] wr):=A.o
   clear A
   go_wp2
   go_ret
   exact ⟨g,cap,br,K0,rfl,HA.o⟩
