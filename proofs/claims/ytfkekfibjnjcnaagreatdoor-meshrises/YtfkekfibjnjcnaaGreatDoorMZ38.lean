import Derived.Test.YtfkekfibjnjcnaaGreatDoorMZ37
set_option linter.unusedSimpArgs false
set_option linter.unusedVariables false
set_option maxRecDepth 100000
set_option maxHeartbeats 64000000
namespace Go.Proofs.YtfkekfibjnjcnaaGreatDoor
open Go.Proofs.Tryz
variable {N N0:List NoteX} {G:List OpX} {g i k m n:Nat} {st st0:Nat→DSt} {D0:Nat→List OpX} {K K0:Nat→Rws} {x:NoteX} {w wr:World}
section
open Go.RowKit Go.Lib
open scoped Classical
def asksRow (K:Nat->Rws) (a m:Nat):List NoteX:=((List.range m).filter (fun b=>decide (b≠a))).map (fun b=>askN a b (vecR (K a)))
def asksAll (K:Nat->Rws) (n m:Nat):List NoteX:=(List.range m).flatMap (fun a=>asksRow K a n)
theorem asksRow_same (K:Nat->Rws) (a:Nat):asksRow K a (a+1)=asksRow K a a:=by
 unfold asksRow
 rw [Zg,uD]
 simp
theorem asksRow_succ (K:Nat->Rws) {a:Nat} (h:a≠m):asksRow K a (m+1)=asksRow K a m++ [askN a m (vecR (K a))]:=by
 unfold asksRow
 rw [Zg,uD,uq]
 have this:decide (m≠a)=true:=decide_eq_true (fun e=>h e.symm)
 have hf: [m].filter (fun b=>decide (b≠a))= [m]:=by rw [List.filter_cons,if_pos this];rfl
 rw [hf]
 rfl
theorem asksAll_succ (K:Nat->Rws) (n m:Nat):asksAll K n (m+1)=asksAll K n m++asksRow K m n:=by
 unfold asksAll
 rw [Zg,List.flatMap_append]
 simp
theorem asksRow_len (K:Nat->Rws) (a m:Nat):(asksRow K a m).length<=m:=by
 unfold asksRow
 rw [ue]
 exact vr (uH _ _) zm
theorem asksAll_len (K:Nat->Rws) (n:Nat):∀m,(asksAll K n m).length<=m*n
 | 0=>by simp [asksAll]
 | m+1=>by
  rw [asksAll_succ,vw]
  have h1:=asksAll_len K n m
  have h2:=asksRow_len K m n
  rw [Zb]
  omega
theorem mem_asks :x∈asksAll K n m↔∃a b,a<m/\b<n/\a≠b/\x=askN a b (vecR (K a)):=by
 unfold asksAll asksRow
 simp only [List.mem_flatMap,List.mem_range,vV,Zh]
 constructor
 ·rintro ⟨a,ha,b,⟨hb,hne⟩,rfl⟩
  exact ⟨a,b,ha,hb,fun e=>(of_decide_eq_true hne) e.symm,rfl⟩
 rintro ⟨a,b,ha,hb,hne,rfl⟩
 exact ⟨a,ha,b,⟨hb,decide_eq_true (fun e=>hne e.symm)⟩,rfl⟩
def left:List NoteX->Nat
 | []=>0
 | x::t=>(if x.2.2.1=true then 2 else 1)+left t
theorem left_append:∀(a b:List NoteX),left (a++b)=left a+left b
 | [],b=>by simp [left]
 | x::a,b=>by
  show _+left (a++b)=_+left a+left b
  rw [left_append a b]
  omega
structure Rnd (n:Nat) (G:List OpX) (K0 K:Nat->Rws) (N:List NoteX):Prop where
 parts:∃A C,N=A++C/\(A≠ []->K=K0)/\(∀x∈A,∃a b,a<n/\b<n/\a≠b/\x=askN a b (vecR (K0 a)))/\∀x∈C,x.2.2.1=false/\x.1<n/\x.2.1<n/\DiffOf (K0 x.1) (vecR (K0 x.2.1)) (opsN x)
 short:N.length<=16
 grows:∀r,r<n->∀x∈allR (K0 r),x∈allR (K r)
 told:∀a b,a<n->b<n->a≠b->askN a b (vecR (K0 a))∈N\/(∃x∈N,x.2.2.1=false/\x.1=b/\x.2.1=a)\/∀y∈allR (K0 b),y∈allR (K a)
theorem Rnd.start (hn:n<=4):Rnd n G K K (asksAll K n n):=by
 refine ⟨⟨asksAll K n n,[],zm,fun _=>rfl,fun x hx=>mem_asks.1 hx,fun x hx=>zO⟩,?_,fun r _ x hx=>hx,fun a b ha hb hne=>.inl (mem_asks.2 ⟨a,b,ha,hb,hne,rfl⟩)⟩
 have:=asksAll_len K n n
 have:n*n<=4*4:=Nat.mul_le_mul hn hn
 omega
theorem Rnd.next {K':Nat->Rws} {N':List NoteX} {v:Value} (h:Rnd n G K0 K N) (h0:MeshI n i G K0 D0 st0 N0) (hne:N≠ []) (hd:DelRel G K K' st N N' 0 v) (hN':N'.length<=30):Rnd n G K0 K' N'/\left N'<left N:=by
 obtain ⟨A,C,rfl,hA0,hA,hC⟩:=h.parts
 rcases hd with ⟨q,_⟩ | ⟨k,x,hk,hx,hd⟩
 ·exfalso
  apply q
  have:0<(A++C).length:=uN.2 hne
  exact ⟨zj,zj⟩
 obtain rfl:k=0:=zj
 have hl:=h.short
 rcases hd with ⟨hask,_,rfl,F,hF,hN⟩ | ⟨hask,rfl,hH,_⟩
 ·
  cases A with
  | nil=>
   exfalso
   cases C with
   | nil=>simp at hx
   | cons y t=>
    have:y=x:=jF
    subst this
    have:=(hC y zm).1
    rw [hask] at this
    cases this
  | cons y A'=>
   have hyx:y=x:=jF
   subst hyx
   obtain ⟨a,b,ha,hb,hab,rfl⟩:=hA _ vW
   have hK:K'=K0:=hA0 zm
   have he:(askN a b (vecR (K0 a))::A'++C).eraseIdx 0=A'++C:=rfl
   rw [he] at hN
   have hF':DiffOf (K0 b) (vecR (K0 a)) F:=by have q:=hF;rw [hK] at q;exact q
   rcases hN with ⟨hno,rfl⟩ | ⟨_,_,ao,cap,rfl⟩
   ·refine ⟨⟨⟨A',C,rfl,fun _=>hK,fun x hx=>hA x (vF _ hx),hC⟩,jU,h.grows,fun a' b' ha' hb' hne'=> ?_⟩,?_⟩
    ·rcases h.told a' b' ha' hb' hne' with q | q | q
     ·rcases vz.1 (show askN a' b' (vecR (K0 a'))∈askN a b (vecR (K0 a))::(A'++C) from q) with e | q
      ·have e1:a'=a:=by have:=congrArg (·.1) e;exact this
       have e2:b'=b:=by have:=congrArg (·.2.1) e;exact this
       subst e1
       subst e2
       right;right
       intro y hy
       rcases hno with hF0 | h30
       ·obtain ⟨ys,y1,y2⟩:=hF'
        have hd:=diff_is (h0.rows a' ha') (h0.rows b' hb') (h0.inv.compat (fun z hz=>h0.inv.sub a' ha' z hz) (fun z hz=>h0.inv.sub b' hb' z hz)) y1
        rw [<-y2,hF0] at hd
        rw [hK]
        by_cases hm:y∈allR (K0 a')
        ·exact hm
        have:=(hd.2.2 y).2 ⟨hy,hm⟩
        simp at this
       simp at hl h30
       omega
      exact .inl q
     ·obtain ⟨z,hz,z1,z2⟩:=q
      rcases vz.1 (show z∈askN a b (vecR (K0 a))::(A'++C) from hz) with e | hz
      ·rw [e] at z1
       cases z1
      exact .inr (.inl ⟨z,hz,z1,z2⟩)
     exact .inr (.inr q)
    show left (A'++C)<(if (askN a b (vecR (K0 a))).2.2.1=true then 2 else 1)+left (A'++C)
    rw [if_pos (show (askN a b (vecR (K0 a))).2.2.1=true from rfl)]
    omega
   refine ⟨⟨⟨A',C++ [(b,a,false,fun _=>0,ao,cap,F)],by rw [vR];rfl,fun _=>hK,fun x hx=>hA x (vF _ hx),fun x hx=> ?_⟩,jU,h.grows,fun a' b' ha' hb' hne'=> ?_⟩,?_⟩
   ·rcases vv.1 hx with q | q
    ·exact hC x q
    rw [vA.1 q]
    exact ⟨rfl,hb,ha,hF'⟩
   ·rcases h.told a' b' ha' hb' hne' with q | q | q
    ·rcases vz.1 (show askN a' b' (vecR (K0 a'))∈askN a b (vecR (K0 a))::(A'++C) from q) with e | q
     ·have e1:a'=a:=by have:=congrArg (·.1) e;exact this
      have e2:b'=b:=by have:=congrArg (·.2.1) e;exact this
      subst e1
      subst e2
      exact .inr (.inl ⟨_,ub _ (vA.2 rfl),rfl,rfl,rfl⟩)
     exact .inl (vN _ q)
    ·obtain ⟨z,hz,z1,z2⟩:=q
     rcases vz.1 (show z∈askN a b (vecR (K0 a))::(A'++C) from hz) with e | hz
     ·rw [e] at z1
      cases z1
     exact .inr (.inl ⟨z,vN _ hz,z1,z2⟩)
    exact .inr (.inr q)
   rw [left_append]
   show left (A'++C)+left [((b,a,false,fun _=>0,ao,cap,F):NoteX)]<(if (askN a b (vecR (K0 a))).2.2.1=true then 2 else 1)+left (A'++C)
   rw [if_pos (show (askN a b (vecR (K0 a))).2.2.1=true from rfl)]
   have:left [((b,a,false,fun _=>0,ao,cap,F):NoteX)]=1:=by simp [left]
   omega
 ·
  cases A with
  | cons y A'=>
   exfalso
   have:y=x:=jF
   subst this
   obtain ⟨a,b,_,_,_,rfl⟩:=hA _ vW
   cases hask
  | nil=>
   cases C with
   | nil=>exact absurd rfl hne
   | cons y C'=>
    have:y=x:=jF
    subst this
    obtain ⟨c1,hb,ha,hF⟩:=hC y zm
    have he:(([]:List NoteX)++y::C').eraseIdx 0=C':=rfl
    rw [he]
    obtain ⟨hr,hg,hsub,hfit⟩:=hH
    have hfits:Fits G (allR (K y.2.1)) (opsN y):=by
     obtain ⟨ys,y1,y2⟩:=hF
     have hd:=diff_is (h0.rows _ ha) (h0.rows _ hb) (h0.inv.compat (fun z hz=>h0.inv.sub _ ha z hz) (fun z hz=>h0.inv.sub _ hb z hz)) y1
     rw [<-y2] at hd
     refine ⟨allR (K0 y.1),(h0.rows _ hb).well,fun z hz=>h0.inv.sub _ hb z hz,fun z hz=>((hd.2.2 z).1 hz).1,fun z hz=> ?_⟩
     by_cases hm:z∈allR (K0 y.2.1)
     ·exact .inl (h.grows _ ha z hm)
     exact .inr ((hd.2.2 z).2 ⟨hz,hm⟩)
    have hnew:=hfit hfits
    have hmono:∀r,∀z∈allR (K r),z∈allR (K' r):=fun r z hz=>by
     by_cases e:r=y.2.1
     ·rw [e] at hz |-;exact hg z hz
     rw [hr r e];exact hz
    refine ⟨⟨⟨[],C',rfl,fun q=>absurd rfl q,fun x hx=>zO,fun x hx=>hC x (vF _ hx)⟩,jU,fun r hr' z hz=>hmono r z (h.grows r hr' z hz),fun a' b' ha' hb' hne'=> ?_⟩,?_⟩
    ·rcases h.told a' b' ha' hb' hne' with q | q | q
     ·rcases vz.1 (show askN a' b' (vecR (K0 a'))∈y::C' from q) with e | q
      ·rw [<-e] at c1
       cases c1
      exact .inl q
     ·obtain ⟨z,hz,z1,z2,z3⟩:=q
      rcases vz.1 (show z∈y::C' from hz) with e | hz
      ·subst e
       right;right
       intro u hu
       subst z2
       subst z3
       obtain ⟨T,t1,t2,t3,t4⟩:=hfits
       obtain ⟨ys,y1,y2⟩:=hF
       have hd:=diff_is (h0.rows _ ha) (h0.rows _ hb) (h0.inv.compat (fun z hz=>h0.inv.sub _ ha z hz) (fun z hz=>h0.inv.sub _ hb z hz)) y1
       rw [<-y2] at hd
       by_cases hm:u∈allR (K0 z.2.1)
       ·exact hmono _ u (h.grows _ ha u hm)
       exact hnew u ((hd.2.2 u).2 ⟨hu,hm⟩)
      exact .inr (.inl ⟨z,hz,z1,z2,z3⟩)
     exact .inr (.inr (fun u hu=>hmono _ u (q u hu)))
    show left C'<(if y.2.2.1=true then 2 else 1)+left C'
    rw [c1]
    simp
theorem Rnd.done (h:Rnd n G K0 K []) (h0:MeshI n i G K0 D0 st0 N0):∀r,r<n->∀x∈G,x∈allR (K r):=fun r hr x hx=>by
 obtain ⟨b,hb,_,hD⟩:=h0.inv.own x hx
 have hS:=h0.inv.disk b hb x hD
 by_cases e:r=b
 ·subst e;exact h.grows r hr x hS
 rcases h.told r b hr hb e with q | ⟨z,hz,_⟩ | q
 ·simp at q
 ·simp at hz
 exact q x hS
end
section
open Go Go.RowKit Go.Lib Go.Sort Go.Maps Go.Shelf
open scoped Classical
def cloneRenN:Ren:=⟨fun | 41=>32 | n=>n,fun | 4=>4 | 22=>52 | 23=>82 | n=>n,fun n=>n⟩
theorem clone_laysN:SlLaysE0.n41 prog cloneRenN where
 mixed:=zk
 f41:=⟨ "slices.Clone[[]concordat/mesh.Note,concordat/mesh.Note]",zk,func32.trans (congrArg some zk)⟩
 t4:=underlying4
 a4:=isAgg4
 z4:=sizeOf4
 v4:=zeroValue4
 t22:=underlying52
 a22:=isAgg52
 z22:=sizeOf52
 v22:=zeroValue52
theorem cloneN_some (w:World) (b off c:Nat) (xs:List NoteX) (hn:xs.length<=1000) (hc:∀j u,(flat encNt xs)[j]? =some u->w.cell? ⟨b,off+j,none⟩=some u):
  Calls prog 32 #[.slice (some ⟨b,off,none⟩) xs.length c] w fun e w'=>∃v',e= .returned v'/\w'.ownsRow w.heap.size 82 8 v' xs.length (flat encNt xs)/\v'≠ .slice none 0 0/\Below w.heap.size w w':=by
 obtain ⟨i0,hi,hz0,hz1,hz2⟩:=info_parts infoNt
 exact AnyE.slices_Clone clone_laysN i0 _ 8 80 hi hz0 hz1 hz2 rfl zj sizeOf82 b off xs.length c (flat encNt xs) w (flat_len encNt_len xs) zw zj hc (flat_one encNt_one xs)
theorem cloneN_nil (w:World):Calls prog 32 #[.slice none 0 0] w fun e w'=>e= .returned (.slice none 0 0)/\w'=w:=
 AnyE.slices_Clone_nil clone_laysN 0 0 w
structure FlyAt (w wr:World) (N:List NoteX) (g k:Nat):Prop where
 below:Below w.heap.size w wr
 new:w.heap.size<=g
 block:∃cur,wr.heap[g]? =some (.cells cur 82 (0,0))/\∀j x,k<=j->N[j]? =some x->cur[j*8+7]? =some (valN x)
theorem FlyAt.later {w':World} (h:FlyAt w wr N g k) (hb:Below wr.heap.size wr w'):FlyAt w w' N g k:=by
 obtain ⟨cur,h1,h2⟩:=h.block
 exact ⟨zi h.below hb,h.new,cur,(hb.block g (vn.1 h1).1).trans h1,h2⟩
theorem FlyAt.cell {w wr:World} {N:List NoteX} {g k:Nat} (h:FlyAt w wr N g k) {x:NoteX} (hx:N[k]? =some x):wr.cell? ⟨g,k*8+7,none⟩=some (valN x)/\∀o,wr.frozen? ⟨g,o,none⟩=false:=by
 obtain ⟨cur,h1,h2⟩:=h.block
 refine ⟨?_,fun o=>by simp [World.frozen?,h1]⟩
 unfold World.cell?
 dsimp only
 rw [h1]
 exact h2 k x zg hx
theorem FlyAt.set (h:FlyAt w wr N g k) (v:Value):FlyAt w (wr.setCell ⟨g,k*8+7,none⟩ v) N g (k+1):=by
 obtain ⟨cur,h1,h2⟩:=h.block
 have hk:=setCells_keeps g [v] (k*8+7) wr
 refine ⟨h.below.trans (hk.below h.below.size (fun j e=>by have e':j=g:=e;rw [e'];exact h.new)),h.new,_,heap_setCell_same wr g (k*8+7) _ _ _ h1,fun j x hj hx=> ?_⟩
 have:=h2 j x zj hx
 rw [Array.getElem?_setIfInBounds_ne zj]
 exact this
theorem flying_any {gd:Nat->Option Obj} {B:Nat} {bm:Nat} (w:World) (h:MeshS gd B n bm K st N w) (hN:N.length<=30) (hl:∀x∈N,(opsN x).length<=1000):
  Calls prog 16 #[.pointer (some ⟨bm,0,none⟩)] w fun e w'=>∃ao cap,e= .returned (.slice ao N.length cap)/\Aside (Below w.heap.size w w'):=by
 obtain ⟨ow,pv,fv,bp,br,d,dv,c,hm⟩:=h
 have m1:=hm.mesh.c1
 have HM:Aside (MeshAt gd B w ow n bm pv fv bp br d dv c K st N):=hm
 have hfly:=hm.fly
 rcases hfly.2 with ⟨rfl,h0⟩ | ⟨fg,fc,cur,rfl,_⟩
 ·have hcl:=cloneN_nil w
  clear hfly hm
  rw [h0]
  go_enter func16,ntmps16
  go_wp2_with fail
  refine hcl.mono ?_
  clear hcl
  rintro e w1 ⟨rfl,rfl⟩
  go_wp2
  refine wp_loop_rounds 1 ?_
  rw [rounds_succ]
  go_wp2
  go_ret
  exact ⟨_,_,rfl,vu _ _⟩
 have hcl:=cloneN_some w fg 0 fc N zj (fun j u hj=>by
  have hjl:=(vi.1 hj).1
  rw [flat_len encNt_len] at hjl
  rw [vO,hfly.cellAt j hjl,hj])
 clear hfly hm
 go_enter func16,ntmps16
 go_wp2_with fail
 refine hcl.mono ?_
 clear hcl
 rintro e w1 ⟨v1,rfl,hrow,hne,hb1⟩
 rcases hrow.2 with ⟨q,_⟩ | ⟨g,cap,cur1,rfl,hg1,hg2,hg3,hg4,hg5,hg6⟩
 ·exact absurd q hne
 have H1:Aside (FlyAt w w1 N g 0):=⟨hb1,hg1,cur1,hg2,fun j x _ hx=>by
  have hj:=(vi.1 hx).1
  have h7:(flat encNt N)[j*8+7]? =some (valN x):=(flat_get (enc:=encNt) encNt_len hx zj).trans rfl
  rw [<-hg6,un] at h7
  split at h7
  ·rw [<-ZH];exact h7
  ·cases h7⟩
 clear hrow hne hb1 hg1 hg2 hg3 hg4 hg5 hg6 m1
 go_wp2
 go_loopg [12] N.length (fun kx s12 wr=>∃k:Nat,s12= .int .i64 (k:Int)/\k<=N.length/\N.length - k<=kx/\Aside (FlyAt w wr N g k))
 case atStart=>exact ⟨0,rfl,vD _,vm _,H1.o⟩
 case round=>
  obtain ⟨k,rfl,hk,hkx,A⟩:=hrel
  clear H1
  by_cases hlt:k<N.length
  ·have d1:decide ((k:Int)<(N.length:Int))=true:=by simp;omega
   have d1n:decide (k<N.length)=true:=zl
   have wk:((k:Int)).toNat=k:=zj
   have pk:(0:Int)<=(k:Int):=zj
   have bk:(k:Int)<(N.length:Int):=zj
   obtain ⟨⟨x1,x2,x3,x4,x5,x6,x7⟩,hx⟩:∃x,Aside (N[k]? =some x):=⟨N[k],vj hlt⟩
   obtain ⟨r7,rf⟩:=A.o.cell hx.o
   have hop:=(HM.o.notes _ (vx hx.o)).ops.later A.o.below
   have hlx:=hl _ (vx hx.o)
   unfold valN at r7 hop
   dsimp only at r7 hop hlx
   have hcl:Calls prog 33 #[.slice x5 x7.length x6] wr fun e w'=>∃ao' cp',e= .returned (.slice ao' x7.length cp')/\Aside (Below wr.heap.size wr w'):=by
    rcases hop with ⟨q,rfl⟩ | ⟨b,o,cp,q,hc⟩
    ·cases q
     refine (clone_nil wr).mono ?_
     rintro e w' ⟨rfl,rfl⟩
     exact ⟨none,0,rfl,vu _ _⟩
    cases q
    refine (clone_some wr b o x6 x7 hlx hc).mono ?_
    rintro e w' ⟨v',rfl,hr,_,hb⟩
    obtain ⟨a',c',rfl⟩:=rowIs hr
    exact ⟨a',c',rfl,hb⟩
   have HA:Aside (FlyAt w wr N g k):=A.o
   clear A hop hlx
   obtain ⟨u0,hu0⟩:=za wr
   subst hu0
   go_wp2_with fail
   refine hcl.mono ?_
   clear hcl r7 rf
   rintro e w2 ⟨ao',cp',rfl,HB⟩
   have h2:=HA.o.later HB.o
   obtain ⟨r7,rf⟩:=h2.cell hx.o
   have H3:Aside (FlyAt w (w2.setCell ⟨g,k*8+7,none⟩ (.slice ao' x7.length cp')) N g (k+1)):=h2.set _
   clear h2 HB
   go_wp2
   go_roundg (N.length - (k+1))
   case measure=>omega
   case rel=>exact ⟨k+1,zL,zj,vm _,H3.o⟩
  have d1:decide ((k:Int)<(N.length:Int))=false:=zl
  have d1n:decide (k<N.length)=false:=zl
  have HA:Aside (Below w.heap.size w wr):=A.o.below
  clear A
  go_wp2
  go_ret
  exact ⟨_,_,rfl,HA.o⟩
