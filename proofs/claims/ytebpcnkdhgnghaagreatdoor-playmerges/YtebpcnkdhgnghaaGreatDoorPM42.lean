import Derived.Test.YtebpcnkdhgnghaaGreatDoorPM30
import Derived.Test.YtebpcnkdhgnghaaGreatDoorPM39
import Derived.Test.YtebpcnkdhgnghaaGreatDoorPM40
set_option linter.unusedSimpArgs false
set_option linter.unusedVariables false
set_option maxRecDepth 100000
set_option maxHeartbeats 64000000
namespace Go.Proofs.YtebpcnkdhgnghaaGreatDoor
open Go.Proofs.Tryz
variable {ix x y z:Int} {cs:List Int} {p:List MemPlace} {N N':List ae} {A D F R S' Sx:List OpX} {xs:List Value} {B C S base cap cd i j k m n:Nat} {mk:Nat×Nat} {ad:Nat→Addr} {sp:Nat→Bool} {st st':Nat→DSt} {K K':Nat→Rws} {ao la ra:Option Addr} {t:TypeId} {a b v v':Value} {W X w w' w0:World}
section
open Go Go.RowKit Go.Lib Go.Sort Go.Maps
open scoped Classical
structure Ml (R:Rws) (S:List OpX):Prop where
 perm:S.Perm (aQ R)
 sort:S.Pairwise (fun a b=>CLt (stO a) (stO b))
theorem kM {S l fresh:List OpX} (h:aK S l (.inr fresh)):FreshK S fresh/\WellK (S++fresh):=by
 unfold aK at h
 cases hs:bw S 0 [] l with
 | inl p=>
  obtain ⟨i,c⟩:=p
  rw [hs] at h
  cases h
 | inr F=>
  rw [hs] at h
  dsimp only at h
  have hF:=(dY (cL S) hs).1
  rcases h with ⟨_,e⟩ | ⟨_,_,e⟩ | ⟨_,_,_,e⟩ | ⟨_,_,e⟩ | ⟨hw,_,e⟩
  ·cases e
  ·cases e
  ·cases e
  ·cases e
  cases e
  exact ⟨hF,hw⟩
theorem mY {S:List OpX} (hS:S.Nodup) (h:FreshK S F):(S++F).Nodup:=by
 rw [uH]
 refine ⟨hS,h.one.imp (fun {a b} q e=>by subst e;exact q ⟨rfl,rfl⟩),fun a ha b hb e=> ?_⟩
 subst e
 exact h.off a hb a ha ⟨rfl,rfl⟩
theorem LJ {R:Rws} {S:List OpX} (h:Ml R S) (hR:RowsK R) (hi:i<4):OE S i=(R i).length:=by
 unfold OE
 rw [h.perm.countP_eq]
 have hc:∀j,j<4->(R j).countP (fun x=>decide (byO x=(i:Int)))=if j=i then (R j).length else 0:=fun j hj=>by
  by_cases e:j=i
  ·subst e
   rw [if_pos rfl,List.countP_eq_length]
   intro x hx
   obtain ⟨k,_,q,_⟩:=hR.num.get hj hx
   exact decide_eq_true q
  rw [if_neg e,List.countP_eq_zero]
  intro x hx
  obtain ⟨k,_,q,_⟩:=hR.num.get hj hx
  simp [q]
  omega
 unfold aQ
 rw [List.countP_append,List.countP_append,List.countP_append,hc 0 zj,hc 1 zj,hc 2 zj,hc 3 zj]
 have h4:i=0\/i=1\/i=2\/i=3:=zj
 rcases h4 with rfl | rfl | rfl | rfl<;>simp
end
section
open Go.RowKit Go.Lib Go.Sort Go.Maps
open scoped Classical
abbrev fe:=Option Addr×Nat×List OpX
def dj (x:fe):List Value:=[.slice x.1 x.2.2.length x.2.1]
def dH (x:fe):List OpX:=x.2.2
theorem mD:∀(xs:List fe),aI dj xs=xs.map (fun x=>Value.slice x.1 x.2.2.length x.2.1)
 | []=>rfl
 | x::xs=>by
  have:=mD xs
  unfold aI at this |-
  simp only [List.flatMap_cons,ut,this]
  rfl
structure ListsIn (w:World) (la:Option Addr) (xs:List fe):Prop where
 row:InRow dj w la xs
 ops:∀x∈xs,OpsIn w x.1 x.2.2
theorem ListsIn.later {w w':World} {la:Option Addr} {xs:List fe} (h:ListsIn w la xs) (hb:Below w.heap.size w w'):ListsIn w' la xs:=⟨h.row.later hb,fun x hx=>(h.ops x hx).later hb⟩
theorem mJ {xs:List fe} (h:InRow dj w la xs) {x:fe} (hk:xs[k]? =some x):∃g o,la=some ⟨g,o,none⟩/\w.cell? ⟨g,o+k,none⟩=some (.slice x.1 x.2.2.length x.2.1):=by
 rcases h with e | ⟨g,o,e,hc⟩
 ·subst e;simp at hk
 refine ⟨g,o,e,hc k _ ?_⟩
 rw [mD,uG,hk]
 rfl
theorem Ae (h:Ni ad W v ix cd):∃t p,v= .iface t p:=by
 rcases h with ⟨_,rfl,h0⟩ | ⟨_,b,rfl,_⟩
 ·exact ⟨_,_,if_neg h0⟩
 exact ⟨_,_,rfl⟩
def Nw (ad:Nat->Addr) (ls:List (List OpX)) (w:World) (e:Ending) (w':World):Prop:=∃a,GE ls a/\Below w.heap.size w w'/\(match a with
 | .inl (i,cd)=>1<=cd/\cd<=12/\∃v,e= .returned (.tuple #[.string ⟨#[]⟩,v])/\mO ad w' v (i:Int) cd
 | .inr C=>∃s A,e= .returned (.tuple #[.string ⟨s.toArray⟩,.nilIface])/\A.Perm C/\WellK A/\StateIs A s)
theorem FH (w:World) (la:Option Addr) (lc:Nat) (xs:List fe) (hE0:EnvT B ad w) (hEr:Errs B ad w) (hin:ListsIn w la xs) (hn:xs.length<=1000) (hs:∀x∈xs,il x.2.2) (ht:me (xs.map dH)<=250):
  Calls prog 11 #[.slice la xs.length lc] w (Nw ad (xs.map dH) w):=by
 obtain ⟨S,hS⟩:=ze w.heap.size
 have hE:EnvT S ad w:=by rw [hS.o];exact hE0.up hE0.env.size zg
 have hnew:=EG w 0 zj zj
 have H0:Aside (EnvT S ad w/\Errs B ad w/\ListsIn w la xs/\(∀x∈xs,il x.2.2)/\me (xs.map dH)<=250/\B<=w.heap.size):=⟨hE,hEr,hin,hs,ht,hEr.size⟩
 clear hE0 hE hEr hin hs ht
 go_enter func11,ntmps11
 go_wp2_with fail
 refine hnew.mono ?_
 clear hnew
 rintro e w1 ⟨c1,br,rfl,hO1,hb1⟩
 have H1:Aside (RepOwn S w1 c1 br 0 (fun _=>[])/\Below S w w1):=⟨by rw [hS.o];exact hO1,by rw [hS.o];exact hb1⟩
 clear hO1 hb1
 go_wp2
 go_loopg [19] xs.length (fun kx s19 wr=>∃k:Nat,s19= .int .i64 (k:Int)/\k<=xs.length/\xs.length - k<=kx/\Aside (∃c R C,RepOwn S wr c br 0 R/\Below S w wr/\Chain [] ((xs.map dH).take k) C/\(aQ R).Perm C))
 case atStart=>exact ⟨0,rfl,vM _,vB _,c1,_,[],H1.o.1,H1.o.2,rfl,List.Perm.refl _⟩
 case round=>
  obtain ⟨k,rfl,hk,hkx,A⟩:=hrel
  obtain ⟨c,R,C,hO,hb,hC,hP⟩:=A.o
  by_cases hlt:k<xs.length
  ·have d1:decide ((k:Int)<(xs.length:Int))=true:=by simp;omega
   have wk:((k:Int)).toNat=k:=zj
   have pk:(0:Int)<=(k:Int):=zj
   have bk:(k:Int)<(xs.length:Int):=zj
   obtain ⟨x,hx⟩:∃x,xs[k]? =some x:=⟨xs[k],vF hlt⟩
   have hxm:=vH hx
   have hLr:ListsIn wr la xs:=H0.o.2.2.1.later (by rw [<-hS.o];exact hb)
   obtain ⟨g,o,hla,c0⟩:=mJ hLr.row hx
   have hml:(xs.map dH)[k]? =some x.2.2:=by rw [uG,hx];rfl
   have hlen:(aQ R).length+x.2.2.length<=250:=by
    have q1:=hP.length_eq
    have q2:=fA hC
    have q3:=Fr _ hml
    have q4:=Eu (xs.map dH) (k+1)
    have q5:=H0.o.2.2.2.2.1
    simp at q2
    omega
   have hjoin:=AW wr c br 0 R x.1 x.2.1 x.2.2 hO (H0.o.1.mono hb).env (hLr.ops x hxm) (H0.o.2.2.2.1 x hxm) hlen
   have HA:Aside (RepOwn S wr c br 0 R/\Below S w wr/\Chain [] ((xs.map dH).take k) C/\(aQ R).Perm C/\(xs.map dH)[k]? =some x.2.2/\RowsK R/\S<=wr.heap.size):=⟨hO,hb,hC,hP,hml,hO.wellK,by rw [hS.o];exact hb.size⟩
   subst hla
   obtain ⟨u0,hu0⟩:=zc wr
   subst hu0
   clear A hO hb hC hP hLr hml hlen hx hxm
   go_wp2_with fail
   refine hjoin.mono ?_
   clear hjoin c0
   rintro e w2 ⟨a,c2,hJ,hA2,hm⟩
   have hJC:=gx HA.o.2.2.2.2.2.1.well.one HA.o.2.2.2.1 hJ
   have hb2:Below S w w2:=HA.o.2.1.trans (HA.o.1.below hA2 HA.o.2.2.2.2.2.2)
   cases a with
   | inl p=>
    obtain ⟨ix,cd⟩:=p
    obtain ⟨hR2,v,rfl,hv⟩:=hm
    have hcd:=iF hJ
    have hEQ:Ni ad w2 v ix cd:=hv
    have hEr2:Errs B ad w2:=H0.o.2.1.mono (hb2.mono (by rw [hS.o];exact H0.o.2.2.2.2.2))
    have hba:=Dg w2 hEr2 v ix cd hcd.1 hcd.2.1 hEQ
    obtain ⟨t,p,rfl⟩:=Ae hEQ
    have H2:Aside (Below S w w2/\GE (xs.map dH) (.inl (k,cd))/\1<=cd/\cd<=12/\S<=w2.heap.size):=⟨hb2,⟨C,_,ix,HA.o.2.2.1,HA.o.2.2.2.2.1,hJC⟩,hcd.1,hcd.2.1,by rw [hS.o];exact hb2.size⟩
    clear hv hR2 hJ hJC hA2 hb2 hcd hEQ hEr2 HA
    go_wp2_with fail
    refine hba.mono ?_
    clear hba
    rintro e w3 ⟨rfl,hb3⟩
    obtain ⟨pe,hev⟩:∃pe,Aside (eV ad cd= .iface 450 (.pointer (some pe))):=⟨ad (cd - 1),if_neg (by have:=H2.o.2.2.1;omega)⟩
    rw [hev.o]
    have H3:Aside (Below S w w3/\S<=w3.heap.size):=⟨H2.o.1.trans (hb3.mono H2.o.2.2.2.2),vI H2.o.2.2.2.2 hb3.size⟩
    clear hb3
    go_wp2
    go_ret2
    refine ⟨.inl (k,cd),H2.o.2.1,?_,H2.o.2.2.1,H2.o.2.2.2.1,_,rfl,_,rfl,?_⟩
    ·have:=H3.o.1.alloc H3.o.2 (.cells #[.int .i64 (k:Int),.iface 450 (.pointer (some pe))] 75)
     rw [hS.o] at this
     exact this
    rw [hev.o]
    exact heap_alloc_new w3 _
   | inr fresh=>
    obtain ⟨rfl,R2,hR2,hmem⟩:=hm
    have hF:=(kM hJ).1
    have hperm:(aQ R2).Perm (C++fresh):=by
     have hnd:(aQ R++fresh).Nodup:=mY HA.o.2.2.2.2.2.1.num.nodup hF
     exact ((List.perm_ext_iff_of_nodup hR2.wellK.num.nodup hnd).2 hmem).trans (HA.o.2.2.2.1.append_right fresh)
    have H2:Aside (∃c R C,RepOwn S w2 c br 0 R/\Below S w w2/\Chain [] ((xs.map dH).take (k+1)) C/\(aQ R).Perm C):=⟨c2,R2,_,hR2,hb2,by
     rw [uA,HA.o.2.2.2.2.1]
     exact HA.o.2.2.1.snoc hJC,hperm⟩
    clear hJ hJC hA2 hb2 hR2 hmem hF hperm HA
    go_wp2
    go_roundg (xs.length - (k+1))
    case measure=>omega
    case rel=>exact ⟨k+1,zw,zj,vB _,H2.o⟩
  have d1:decide ((k:Int)<(xs.length:Int))=false:=zq
  obtain rfl:k=xs.length:=zj
  have hlen:(aQ R).length<=300:=by
   have q1:=hP.length_eq
   have q2:=fA hC
   have q4:=Eu (xs.map dH) xs.length
   have q5:=H0.o.2.2.2.2.1
   simp at q2
   omega
  have hst:=EZ wr c br 0 R hO.rep (H0.o.1.mono hb).is hlen
  have HA:Aside (Below S w wr/\GE (xs.map dH) (.inr C)/\(aQ R).Perm C/\RowsK R/\S<=wr.heap.size):=⟨hb,by
   have:(xs.map dH).take xs.length=xs.map dH:=by rw [vT];simp
   rw [this] at hC
   exact hC,hP,hO.wellK,by rw [hS.o];exact hb.size⟩
  obtain ⟨u0,hu0⟩:=zc wr
  subst hu0
  clear A hO hb hC hP hlen
  go_wp2_with fail
  refine hst.mono ?_
  clear hst
  rintro e w2 ⟨s,rfl,hs2,hb2⟩
  have H2:Aside (Below S w w2/\StateIs (aQ R) s):=⟨HA.o.1.trans (hb2.mono HA.o.2.2.2.2),hs2⟩
  clear hs2 hb2
  go_wp2
  go_ret2
  refine ⟨.inr C,HA.o.2.1,?_,s,aQ R,rfl,HA.o.2.2.1,HA.o.2.2.2.1.well,H2.o.2⟩
  have:=H2.o.1
  rw [hS.o] at this
  exact this
end
section
open Go Go.RowKit Go.Lib Go.Sort Go.Maps
open scoped Classical
theorem MP:(prog.info? 25).map (fun i=>(i.zero,i.size,i.bytes))=some (some (.slice none 0 0),1,24):=zo
theorem tB (h:OpsIn w ra R) (hk:Keeps (fun k=>k=m) w w') (hm:w.heap[m]? =some (.cells #[a,b] t mk)):OpsIn w' ra R:=by
 rcases h with h | ⟨g,o,e,hc⟩
 ·exact .inl h
 cases R with
 | nil=>exact .inl rfl
 | cons x xs=>
  obtain ⟨xt,xb,xn,xk,xd,xo,xs',xv⟩:=x
  have h7:w.cell? ⟨g,o+7,none⟩=some (.string xv):=hc 7 _ (by simp [cellsOf,bq])
  have hne:g≠m:=fun q=>by
   rw [q] at h7
   simp [World.cell?,hm] at h7
  have hlt:g<w.heap.size:=by
   rcases uB g w.heap.size with q | q
   ·exact q
   have:w.heap[g]? =none:=jm
   simp [World.cell?,this] at h7
  exact .inr ⟨g,o,e,fun j u hj=>by rw [hk.cell (a:=⟨g,o+j,none⟩) hlt hne];exact hc j u hj⟩
def ApartV (v:Value) (ao:Option Addr) (R:List OpX):Prop:=R= []\/∀b o,ao=some ⟨b,o,none⟩->v.ownBlock≠some b
theorem AJ (h:OpsIn w ra R):R= []\/∀b o,ra=some ⟨b,o,none⟩->b<w.heap.size:=by
 rcases h with h | ⟨g,o,e,hc⟩
 ·exact .inl h
 cases R with
 | nil=>exact .inl rfl
 | cons x xs=>
  obtain ⟨xt,xb,xn,xk,xd,xo,xs',xv⟩:=x
  have h7:w.cell? ⟨g,o+7,none⟩=some (.string xv):=hc 7 _ (by simp [cellsOf,bq])
  refine .inr (fun b o' q=> ?_)
  rw [e] at q
  cases q
  rcases uB g w.heap.size with q | q
  ·exact q
  have:w.heap[g]? =none:=jm
  simp [World.cell?,this] at h7
theorem lF (h:OpsIn w ra R) (hk:Keeps (fun k=>some k=v.ownBlock) w w') (ha:ApartV v ra R):OpsIn w' ra R:=by
 have hl:=AJ h
 rcases h with h | ⟨g,o,e,hc⟩
 ·exact .inl h
 rcases ha with ha | ha
 ·exact .inl ha
 rcases hl with hl | hl
 ·exact .inl hl
 exact .inr ⟨g,o,e,fun j u hj=>by rw [hk.cell (a:=⟨g,o+j,none⟩) (hl g o e) (fun q=>ha g o e q.symm)];exact hc j u hj⟩
theorem ApartV.more (ha:ApartV v ra R) (h:OpsIn w ra R) (hv:∀g,v'.ownBlock=some g->v.ownBlock=some g\/w.heap.size<=g):ApartV v' ra R:=by
 rcases ha with ha | ha
 ·exact .inl ha
 rcases AJ h with hl | hl
 ·exact .inl hl
 refine .inr (fun b o e q=> ?_)
 rcases hv b q with r | r
 ·exact ha b o e r
 have:=hl b o e
 omega
def Hq (n:Nat) (ao:Option Addr):Prop:=∀b o,ao=some ⟨b,o,none⟩->n<=b
theorem Gw {xs:List OpX} (h:w.ownsRow base 61 8 v xs.length (cellsOf xs)):∃ao cap,v= .slice ao xs.length cap/\OpsIn w ao xs/\Hq base ao:=by
 have h0:=ft h
 rcases h.2 with ⟨h1,h2⟩ | ⟨g,cap',cur,hv,hg,hc,_⟩
 ·refine ⟨none,0,by rw [h1,h2],.inl (vZ.1 h2),fun b o q=>jd⟩
 refine ⟨some ⟨g,0,none⟩,cap',hv,?_,fun b o q=>by cases q;exact hg⟩
 rcases h0 with ⟨q,_⟩ | ⟨b,o,c,q,hcc⟩
 ·rw [q] at hv;cases hv
 rw [q] at hv
 cases hv
 exact .inr ⟨g,0,rfl,hcc⟩
theorem Kc (w:World) (ao:Option Addr) (cap:Nat) (xs:List OpX) (h:OpsIn w ao xs) (hn:xs.length<=1000):
  Calls prog 9 #[.slice ao xs.length cap] w fun e w'=>∃ao' cap',e= .returned (.slice ao' xs.length cap')/\Aside (OpsIn w' ao' xs/\Hq w.heap.size ao'/\Below w.heap.size w w'):=by
 obtain ⟨i0,hi,hz0,hz1,hz2⟩:=info_parts fw
 cases ao with
 | none=>
  have hx:xs= []:=by
   rcases h with h | ⟨_,_,q,_⟩
   ·exact h
   cases q
  subst hx
  clear h
  go_enter func9,ntmps9
  go_wp2
  go_ret
  exact ⟨none,0,rfl,.inl rfl,fun b o q=>jd,vG _ _⟩
 | some a=>
  have A:Aside (∀j u,(cellsOf xs)[j]? =some u->w.cell? (a.add j)=some u):=by
   rcases h with h | ⟨b,o,q,hc⟩
   ·subst h
    intro j u hj
    simp [cellsOf] at hj
   cases q
   intro j u hj
   rw [Addr.add_lit]
   exact hc j u hj
  clear h
  go_enter func9,ntmps9
  go_wp2_with (at_builtin;refine wpList_append_own _ rfl _ _ 25 rfl w.heap.size 61 i0 _ 8 80 underlying25 hi hz0 hz1 hz2 rfl zj _ _ _ rfl (uf w _ _ _) a xs.length cap (cellsOf xs) rfl ?qc1 ?qc2 ?qc3 ?qc4 ?qc5 ?qc6 ?_)
  case qc1=>exact aD xs
  case qc2=>exact A.o
  case qc3=>exact bJ xs
  case qc4=>rw [vQ];simp only [maxLen];omega
  case qc5=>rw [vQ];omega
  case qc6=>simp
  intro v' w1 hown hgrow hnil
  obtain ⟨ao',cap',hv,F1,F2⟩:=Gw (xs:=xs) (base:=w.heap.size) (w:=w1) (v:=v') qv
  have F:Aside (OpsIn w1 ao' xs/\Hq w.heap.size ao'/\Below w.heap.size w w1):=⟨F1,F2,(vG _ w).grown hgrow zg zN⟩
  subst hv
  clear hown hgrow hnil F1 F2
  go_wp2
  go_ret
  exact ⟨ao',cap',rfl,F.o⟩
theorem Iy (h:X.ownsRow S 25 1 v n xs) (hS:S<=X.heap.size) (x:fe) (hn:n<=1000):
  ∃v' w',(Builtin.append_ #[22,22] 22 #[v,.slice (some ⟨X.heap.size,0,none⟩) 1 1]).run prog (X.alloc (.cells #[.slice x.1 x.2.2.length x.2.1] 25))= .ok v' w'/\Aside (w'.ownsRow S 25 1 v' (n+1) (xs++ [.slice x.1 x.2.2.length x.2.1])/\Keeps (fun k=>some k=v.ownBlock) X w'/\∀g,v'.ownBlock=some g->v.ownBlock=some g\/X.heap.size<=g):=by
 obtain ⟨i0,hi0,hz0,hz1,hz2⟩:=info_parts MP
 have hb:Below X.heap.size X (X.alloc (.cells #[.slice x.1 x.2.2.length x.2.1] 25)):=zh X _
 have h':(X.alloc (.cells #[.slice x.1 x.2.2.length x.2.1] 25)).ownsRow S 25 1 v n xs:=av h (fun k hk=>hb.block k (h.lt k hk).2)
 obtain ⟨v',w',hrun,hown,hgrow,hcase⟩:=dR (P:=prog) (X.alloc (.cells #[.slice x.1 x.2.2.length x.2.1] 25)) S 22 22 25 i0 _ 1 24 underlying22 hi0 hz0 hz1 hz2 rfl zj v n xs h' ⟨X.heap.size,0,none⟩ 1 1 zj [.slice x.1 x.2.2.length x.2.1] rfl
  (Zj (cs:= #[.slice x.1 x.2.2.length x.2.1]) (t:=25) (fr:=(0,0)) (heap_alloc_new X _)) (fun u hu=>xr) zA zj (vI hS hb.size)
 refine ⟨v',w',hrun,hown,?_,fun g hg=> ?_⟩
 ·have h1:=aV hgrow
  exact ⟨h1.os.trans hb.os,h1.tape.trans hb.tape,h1.output.trans hb.output,vI hb.size h1.size,fun k hk hs=>(h1.block k (vV hk hb.size) hs).trans (hb.block k hk)⟩
 rcases hcase with ⟨g',cp,e1,e2⟩ | ⟨e1,_⟩
 ·left;rw [e2] at hg;rw [e1];exact hg
 right
 rw [hg] at e1
 cases e1
 exact hb.size
def Nq (w:World) (m C:Nat) (v:Value) (ls:List (List OpX)) (k:Nat) (fc:Option (Nat×Nat)):Prop:=match fc with
 | none=>w.heap[C]? =some (.cells #[.int .i64 0,.int .i64 (-1)] 29 (0,0))/\∃ao cap Sx D,MRp w m 0 ao cap Sx/\Shp ao cap/\WellK Sx/\Sx.Pairwise (fun a b=>CLt (stO a) (stO b))/\Chain [] (ls.take k) D/\Sx.Perm D/\ApartV v ao Sx
 | some (i,cd)=>w.heap[C]? =some (.cells #[.int .i64 (cd:Int),.int .i64 (i:Int)] 29 (0,0))/\1<=cd/\cd<=12/\GE ls (.inl (i,cd))
structure PmSt (S:Nat) (w0:World) (m C:Nat) (xs:List fe) (j k:Nat) (v:Value) (fc:Option (Nat×Nat)) (w:World):Prop where
 below:Below S w0 w
 size:S<=w.heap.size
 lowm:S<=m
 lowC:S<=C
 ne:m≠C
 cm:∃a b,w.heap[m]? =some (.cells #[a,b] 27 (0,0))
 cC:∃a b,w.heap[C]? =some (.cells #[a,b] 29 (0,0))
 own:∃ys:List fe,ys.map dH=(xs.take j).map dH/\w.ownsRow S 25 1 v j (aI dj ys)/\∀y∈ys,OpsIn w y.1 y.2.2/\ApartV v y.1 y.2.2
 far:v.ownBlock≠some m/\v.ownBlock≠some C
 ref:Nq w m C v (xs.map dH) k fc
theorem MRp.keep {by_:Int} {S:List OpX} (h:MRp w m by_ ao cap S) (hk:Keeps (fun k=>some k=v.ownBlock) w w') (hm:v.ownBlock≠some m) (ha:ApartV v ao S):MRp w' m by_ ao cap S:=
 ⟨(hk.block m h.lt (fun q=>hm q.symm)).trans h.cell,lF h.ops hk ha⟩
theorem PmSt.later {S:Nat} {w0:World} {m C:Nat} {xs:List fe} {j k:Nat} {v:Value} {fc:Option (Nat×Nat)} {w w':World} (h:PmSt S w0 m C xs j k v fc w) (hb:Below w.heap.size w w'):PmSt S w0 m C xs j k v fc w':=by
 obtain ⟨a,b,hm⟩:=h.cm
 obtain ⟨a',b',hC⟩:=h.cC
 obtain ⟨ys,h1,h2,h3⟩:=h.own
 refine ⟨h.below.trans (hb.mono h.size),vI h.size hb.size,h.lowm,h.lowC,h.ne,⟨a,b,(hb.block m (vD.1 hm).1).trans hm⟩,⟨a',b',(hb.block C (vD.1 hC).1).trans hC⟩,⟨ys,h1,av h2 (fun g hg=>hb.block g (h2.lt g hg).2),fun y hy=>⟨(h3 y hy).1.later hb,(h3 y hy).2⟩⟩,h.far,?_⟩
 have hr:=h.ref
 cases fc with
 | none=>
  obtain ⟨q1,ao,cap,Sx,D,q2,q3,q4,q5,q6,q7,q8⟩:=hr
  exact ⟨(hb.block C (vD.1 q1).1).trans q1,ao,cap,Sx,D,q2.later hb,q3,q4,q5,q6,q7,q8⟩
 | some p=>
  obtain ⟨i,cd⟩:=p
  obtain ⟨q1,q2⟩:=hr
  exact ⟨(hb.block C (vD.1 q1).1).trans q1,q2⟩
theorem PmSt.more {S:Nat} {w0:World} {m C:Nat} {xs:List fe} {k:Nat} {v v':Value} {fc:Option (Nat×Nat)} {u w w':World} {x:fe} (h:PmSt S w0 m C xs k k v fc u) (hx:xs[k]? =some x) (ao:Option Addr) (cap:Nat) (hb:Below u.heap.size u w) (hin:OpsIn w ao x.2.2) (hnew:Hq u.heap.size ao) (hk:Keeps (fun k=>some k=v.ownBlock) w w') (ys:List fe) (h1:ys.map dH=(xs.take k).map dH) (h2:w.ownsRow S 25 1 v k (aI dj ys)) (h3:∀y∈ys,OpsIn w y.1 y.2.2/\ApartV v y.1 y.2.2) (hown:w'.ownsRow S 25 1 v' (k+1) (aI dj ys++ [.slice ao x.2.2.length cap])) (hv:∀g,v'.ownBlock=some g->v.ownBlock=some g\/w.heap.size<=g):PmSt S w0 m C xs (k+1) k v' fc w':=by
 have h':=h.later hb
 obtain ⟨a,b,hm⟩:=h'.cm
 obtain ⟨a',b',hC⟩:=h'.cC
 obtain ⟨ys0,_,h20,_⟩:=h.own
 have hvlt:∀g,v.ownBlock=some g->g<u.heap.size:=fun g hg=>(h20.lt g hg).2
 have hmlt:m<w.heap.size:=(vD.1 hm).1
 have hClt:C<w.heap.size:=(vD.1 hC).1
 have keep:∀b,v.ownBlock≠some b->b<w.heap.size->v'.ownBlock≠some b:=fun b q1 q2 q=>by
  rcases hv b q with r | r
  ·exact q1 r
  omega
 refine ⟨h'.below.trans (hk.below h'.size (fun g q=>(h2.lt g q.symm).1)),vI h'.size hk.size,h.lowm,h.lowC,h.ne,⟨a,b,(hk.block m hmlt (fun q=>h.far.1 q.symm)).trans hm⟩,⟨a',b',(hk.block C hClt (fun q=>h.far.2 q.symm)).trans hC⟩,⟨ys++ [(ao,cap,x.2.2)],?_,?_,fun y hy=> ?_⟩,⟨keep m h.far.1 hmlt,keep C h.far.2 hClt⟩,?_⟩
 ·rw [uA,hx,un,un,h1]
  rfl
 ·rw [show aI dj (ys++ [(ao,cap,x.2.2)])=aI dj ys++ [.slice ao x.2.2.length cap] by rw [mD,mD,un];rfl]
  exact hown
 ·have hy':OpsIn w y.1 y.2.2/\ApartV v y.1 y.2.2:=by
   rcases vL.1 hy with q | q
   ·exact h3 y q
   rw [vR.1 q]
   exact ⟨hin,.inr (fun b o e r=>by have:=hvlt b r;have:=hnew b o e;omega)⟩
  exact ⟨lF hy'.1 hk hy'.2,hy'.2.more hy'.1 hv⟩
 have hr:=h'.ref
 cases fc with
 | none=>
  obtain ⟨q1,ao',cap',Sx,D,q2,q3,q4,q5,q6,q7,q8⟩:=hr
  exact ⟨(hk.block C hClt (fun q=>h.far.2 q.symm)).trans q1,ao',cap',Sx,D,q2.keep hk h.far.1 q8,q3,q4,q5,q6,q7,q8.more q2.ops hv⟩
 | some p=>
  obtain ⟨i,cd⟩:=p
  obtain ⟨q1,q2⟩:=hr
  exact ⟨(hk.block C hClt (fun q=>h.far.2 q.symm)).trans q1,q2⟩
theorem PmSt.skip {xs:List fe} {k':Nat} {p:Nat×Nat} (h:PmSt S w0 m C xs j k v (some p) w):PmSt S w0 m C xs j k' v (some p) w:=⟨h.below,h.size,h.lowm,h.lowC,h.ne,h.cm,h.cC,h.own,h.far,h.ref⟩
theorem np {xs:List fe} (h:∃ys:List fe,ys.map dH=(xs.take j).map dH/\w.ownsRow S 25 1 v j (aI dj ys)/\∀y∈ys,OpsIn w y.1 y.2.2/\ApartV v y.1 y.2.2) (hk:Keeps (fun k=>k=m) w w') (hm:w.heap[m]? =some (.cells #[a,b] t mk)) (hf:v.ownBlock≠some m):∃ys:List fe,ys.map dH=(xs.take j).map dH/\w'.ownsRow S 25 1 v j (aI dj ys)/\∀y∈ys,OpsIn w' y.1 y.2.2/\ApartV v y.1 y.2.2:=by
 obtain ⟨ys,h1,h2,h3⟩:=h
 exact ⟨ys,h1,av h2 (fun g hg=>hk.block g (h2.lt g hg).2 (fun q=>hf (by rw [<-q];exact hg))),fun y hy=>⟨tB (h3 y hy).1 hk hm,(h3 y hy).2⟩⟩
theorem sV {S:List OpX} (hs:S.Pairwise (fun a b=>CLt (stO a) (stO b))) (hF:FreshK S F) (hW:WellK (S++F)) (hp:S'.Perm (S++F)) (h:S'.Pairwise (fun a b=>¬CLt (stO b) (stO a))):WellK S'/\S'.Pairwise (fun a b=>CLt (stO a) (stO b)):=by
 have hnd:S.Nodup:=hs.imp (fun {a b} q e=>by subst e;exact cZ q)
 have hw:WellK S':=hW.congr (fun x=>hp.mem_iff.symm)
 refine ⟨hw,?_⟩
 have hnd':S'.Nodup:=hp.nodup_iff.2 (mY hnd hF)
 have hne:S'.Pairwise (fun a b=>stO a≠stO b):=by
  rw [ub]
  intro i j hi hj hij e
  have:=hw.stamp (uS hi) (uS hj) e
  exact kk3
 exact lS h hne
theorem PmSt.joined {xs:List fe} {x:fe} (h:PmSt S w0 m C xs (k+1) k v none w) (hx:xs[k]? =some x) {fresh:List OpX} {ao':Option Addr} {cap':Nat} (hW:WellK Sx) (hs:Sx.Pairwise (fun a b=>CLt (stO a) (stO b))) (hC:Chain [] ((xs.map dH).take k) D) (hP:Sx.Perm D) (hJ:aK Sx x.2.2 (.inr fresh)) (hk:Keeps (fun k=>k=m) w w') (hR:MRp w' m 0 ao' cap' S') (hsh:Shp ao' cap') (hp:S'.Perm (Sx++fresh)) (hso:S'.Pairwise (fun a b=>¬CLt (stO b) (stO a))) (hnew:∀b o,ao'=some ⟨b,o,none⟩->w.heap.size<=b):PmSt S w0 m C xs (k+1) (k+1) v none w':=by
 obtain ⟨a,b,hm⟩:=h.cm
 obtain ⟨ys,h1,h2,h3⟩:=id h.own
 obtain ⟨hF,hWF⟩:=kM hJ
 obtain ⟨hw',hs'⟩:=sV hs hF hWF hp hso
 have hC1:=h.ref.1
 have hC2:w'.heap[C]? =some (.cells #[.int .i64 0,.int .i64 (-1)] 29 (0,0)):=(hk.block C (vD.1 hC1).1 (fun q=>h.ne q.symm)).trans hC1
 have hml:(xs.map dH)[k]? =some x.2.2:=by rw [uG,hx];rfl
 refine ⟨h.below.trans (hk.below h.size (fun g q=>ve)),vI h.size hk.size,h.lowm,h.lowC,h.ne,⟨_,_,hR.cell⟩,⟨_,_,hC2⟩,np h.own hk hm h.far.1,h.far,hC2,ao',cap',S',D++fresh,hR,hsh,hw',hs',?_,hp.trans (hP.append_right fresh),.inr (fun b o e q=> ?_)⟩
 ·rw [uA,hml]
  exact hC.snoc (gx hW.one hP hJ)
 have:=(h2.lt b q).2
 have:=hnew b o e
 omega
theorem PmSt.bad {S:Nat} {w0:World} {m C:Nat} {xs:List fe} {k:Nat} {v:Value} {w w1 w2 w3:World} {x:fe} (h:PmSt S w0 m C xs (k+1) k v none w) (hx:xs[k]? =some x) {Sx D:List OpX} {ix:Int} {cd:Nat} (hW:WellK Sx) (hC:Chain [] ((xs.map dH).take k) D) (hP:Sx.Perm D) (hJ:aK Sx x.2.2 (.inl (ix,cd))) (hk:Keeps (fun k=>k=m) w w1) {a1 b1:Value} (hm1:w1.heap[m]? =some (.cells #[a1,b1] 27 (0,0))) (hb:Below w1.heap.size w1 w2) (hk2:Keeps (fun k=>k=C) w2 w3) (hC3:w3.heap[C]? =some (.cells #[.int .i64 (cd:Int),.int .i64 (k:Int)] 29 (0,0))):PmSt S w0 m C xs (k+1) (k+1) v (some (k,cd)) w3:=by
 obtain ⟨a,b,hm⟩:=h.cm
 obtain ⟨a',b',hCc⟩:=h.cC
 have hml:(xs.map dH)[k]? =some x.2.2:=by rw [uG,hx];rfl
 have hC2:w2.heap[C]? =some (.cells #[a',b'] 29 (0,0)):=by
  have hClt:=(vD.1 hCc).1
  rw [hb.block C (vV hClt hk.size),hk.block C hClt (fun q=>h.ne q.symm)]
  exact hCc
 have o1:=np h.own hk hm h.far.1
 have o2:∃ys:List fe,ys.map dH=(xs.take (k+1)).map dH/\w2.ownsRow S 25 1 v (k+1) (aI dj ys)/\∀y∈ys,OpsIn w2 y.1 y.2.2/\ApartV v y.1 y.2.2:=by
  obtain ⟨ys,h1,h2,h3⟩:=o1
  exact ⟨ys,h1,av h2 (fun g hg=>hb.block g (h2.lt g hg).2),fun y hy=>⟨(h3 y hy).1.later hb,(h3 y hy).2⟩⟩
 have s1:S<=w1.heap.size:=vI h.size hk.size
 have s2:S<=w2.heap.size:=vI s1 hb.size
 have hm2:=(hb.block m (vD.1 hm1).1).trans hm1
 refine ⟨((h.below.trans (hk.below h.size (fun g q=>ve))).trans (hb.mono s1)).trans (hk2.below s2 (fun g q=>by rw [q];exact h.lowC)),vI s2 hk2.size,h.lowm,h.lowC,h.ne,⟨a1,b1,(hk2.block m (vD.1 hm2).1 h.ne).trans hm2⟩,⟨_,_,hC3⟩,np o2 hk2 hC2 h.far.2,h.far,hC3,(iF hJ).1,(iF hJ).2.1,D,x.2.2,ix,hC,hml,gx hW.one hP hJ⟩
theorem PmSt.stay {xs:List fe} (h:PmSt S w0 m C xs j k v none w) (hsh:Shp ao cap) (hW:WellK Sx) (hs:Sx.Pairwise (fun a b=>CLt (stO a) (stO b))) (hC:Chain [] ((xs.map dH).take k) D) (hP:Sx.Perm D) (ha:ApartV v ao Sx) (hk:Keeps (fun k=>k=m) w w') (hR:MRp w' m 0 ao cap Sx):PmSt S w0 m C xs j k v none w':=by
 obtain ⟨a,b,hm⟩:=h.cm
 have hC1:=h.ref.1
 have hC2:w'.heap[C]? =some (.cells #[.int .i64 0,.int .i64 (-1)] 29 (0,0)):=(hk.block C (vD.1 hC1).1 (fun q=>h.ne q.symm)).trans hC1
 exact ⟨h.below.trans (hk.below h.size (fun g q=>ve)),vI h.size hk.size,h.lowm,h.lowC,h.ne,⟨_,_,hR.cell⟩,⟨_,_,hC2⟩,np h.own hk hm h.far.1,h.far,hC2,ao,cap,Sx,D,hR,hsh,hW,hs,hC,hP,ha⟩
theorem PmSt.wrote {S:Nat} {w0:World} {m C:Nat} {xs:List fe} {k:Nat} {v:Value} {w w3:World} {x:fe} (h:PmSt S w0 m C xs (k+1) k v none w) (hx:xs[k]? =some x) {Sx D:List OpX} {ix:Int} {cd:Nat} (hW:WellK Sx) (hC:Chain [] ((xs.map dH).take k) D) (hP:Sx.Perm D) (hJ:aK Sx x.2.2 (.inl (ix,cd))) (hk2:Keeps (fun k=>k=C) w w3) (hC3:w3.heap[C]? =some (.cells #[.int .i64 (cd:Int),.int .i64 (k:Int)] 29 (0,0))):PmSt S w0 m C xs (k+1) (k+1) v (some (k,cd)) w3:=by
 obtain ⟨a,b,hm⟩:=h.cm
 exact h.bad hx hW hC hP hJ (Keeps.refl _ w) hm (vG _ w) hk2 hC3
def PmJ (S:Nat) (w0:World) (m C:Nat) (xs:List fe) (k:Nat) (v:Value) (x:fe) (G:Nat) (cd:Nat) (w:World):Prop:=(∃ix:Int,w.heap[G]? =some (.cells #[.int .i64 (cd:Int),.int .i64 ix] 29 (0,0)))/\((cd=0/\PmSt S w0 m C xs (k+1) (k+1) v none w)\/(0<cd/\cd<=12/\PmSt S w0 m C xs (k+1) k v none w/\∃Sx D ix,WellK Sx/\Chain [] ((xs.map dH).take k) D/\Sx.Perm D/\aK Sx x.2.2 (.inl (ix,cd))))
end
section
open Go.ChangeShapes Go.WideShapes Go.ChangeAt Go.RowKit Go.Joins Go.Deep
theorem Lc:prog.cellsOf 25=1:=zo
theorem JY {H:Type} {enc:TypeId×Value->H} {held:Bool} {len:Nat} {d:DataW H}
  (h:DataW.Trod enc prog W base sp held 25 (.slice ao len cap) d p):∃xs:List OpX,xs.length=len/\len<=maxLen/\OpsIn W ao xs:=by
 obtain ⟨hm,hx⟩:=Ed h
 rcases hx with rfl | ⟨xs,hl,h0 | ⟨b,off,c,he,hc⟩⟩
 ·exact ⟨[],rfl,hm,.inl rfl⟩
 ·exact ⟨xs,hl,hm,.inl h0.2⟩
 cases he
 exact ⟨xs,hl,hm,.inr ⟨b,off,rfl,hc⟩⟩
theorem Gx {H:Type} {enc:TypeId×Value->H} {held:Bool} {fuel:Nat} {cs:List Value} {x:DataW H×List MemPlace} (h:DataW.trod enc prog W base sp held fuel 25 cs=some x):
  ∃a:fe,cs=dj a/\OpsIn W a.1 a.2.2/\a.2.2.length<9223372036854775808:=by
 obtain ⟨oa,len,oc,e2⟩:∃oa len oc,cs= [.slice oa len oc]:=by
  rcases open_slice underlying25 h with ⟨h,_⟩ | ⟨a,len,cap,_,_,_,_,h,_⟩
  ·exact ⟨_,_,_,h⟩
  exact ⟨_,_,_,h⟩
 subst e2
 have hT:DataW.Trod enc prog W base sp held 25 (.slice oa len oc) x.1 x.2:=⟨fuel,by simpa [Value.cells] using h⟩
 obtain ⟨ol,rfl,hmax,hin⟩:=JY hT
 exact ⟨(oa,oc,ol),rfl,hin,by simp only [maxLen] at hmax;show ol.length<_;omega⟩
theorem Dl {H:Type} {enc:TypeId×Value->H} {held:Bool} {len:Nat} {d:DataW H}
  (h:DataW.Trod enc prog W base sp held 22 (.slice ao len cap) d p):
  ∃xs:List fe,xs.length=len/\len<=maxLen/\ListsIn W ao xs/\∀x∈xs,x.2.2.length<9223372036854775808:=by
 obtain ⟨fuel,hf⟩:=h
 rcases open_slice underlying22 hf with ⟨hcs,_⟩ | ⟨a,len',cap',m,n,D,Pl,hcs,_,hl,hmax,hm,_,hx⟩
 ·simp [Value.cells] at hcs
  obtain ⟨rfl,rfl,rfl⟩:=hcs
  exact ⟨[],rfl,vM _,⟨.inl rfl,fun x hx=>zW⟩,fun x hx=>zW⟩
 simp [Value.cells] at hcs
 obtain ⟨rfl,rfl,rfl⟩:=hcs
 have hmm:len<=m:=by subst hm;split<;>omega
 rcases Zs len with h0 | hpos
 ·exact ⟨[],h0.symm,zj,⟨.inl rfl,fun x hx=>zW⟩,fun x hx=>zW⟩
 have key:∀i,i<len->∃o:fe,(OpsIn W o.1 o.2.2/\o.2.2.length<9223372036854775808)/\W.cell? (a.add i)=some (.slice o.1 o.2.2.length o.2.1):=fun i hi=>by
  obtain ⟨cs',h1,h2⟩:=hx i zj
  rw [Lc] at h1
  obtain ⟨o,rfl,ho1,ho2⟩:=Gx h2
  have:=(World.cells?_some h1).2.2 0 zj
  rw [Nat.mul_one] at this
  refine ⟨o,⟨ho1,ho2⟩,?_⟩
  have e0:(a.add i).add 0=a.add i:=rfl
  rw [e0] at this
  exact this
 obtain ⟨f,hf⟩:=choose_lt key
 obtain ⟨b,off,spot⟩:=a
 have h00:=(hf 0 hpos).2
 have hspot:spot=none:=by simpa [Addr.add] using World.cell?_spot h00
 subst hspot
 refine ⟨(List.range len).map f,zt,zj,⟨.inr ⟨b,off,rfl,fun j u hj=> ?_⟩,fun x hx=> ?_⟩,fun x hx=> ?_⟩
 ·rw [mD,ZC] at hj
  have hjl:j<len:=by
   have:=(vA.1 hj).1
   exact kp3
  rw [uG,List.getElem?_range hjl] at hj
  have h1:=(hf j hjl).2
  rw [add_plain] at h1
  rw [h1]
  exact hj
 ·obtain ⟨i,hi,rfl⟩:=uh.1 hx
  exact (hf i (List.mem_range.1 hi)).1.1
 obtain ⟨i,hi,rfl⟩:=uh.1 hx
 exact (hf i (List.mem_range.1 hi)).1.2
end
section
open Go.RowKit Go.Lib Go.Sort Go.Maps
open scoped Classical
def Ma (x:Int):Prop:= -9223372036854775808<=x/\x<=9223372036854775807
def AnX (K:Nat->Rws) (st:Nat->DSt) (N:List ae) (v:Int) (K':Nat->Rws) (st':Nat->DSt) (N':List ae) (c:Int):Prop:=
 (v<0/\c= -1/\K'=K/\st'=st/\N'=N)\/∃m cd:Nat,v=(m:Int)/\c=(cd:Int)/\PX K st N (m % 16) (m / 16 % 3) (m / 16 / 3) K' st' N' cd
def Mq (gd:Nat->Option Obj) (B bm i:Nat) (K:Nat->Rws) (st:Nat->DSt) (N:List ae) (v:Int) (w:World) (e:Ending) (w':World):Prop:=∃(c:Int) (G':List OpX) (K':Nat->Rws) (D':Nat->List OpX) (st':Nat->DSt) (N':List ae),e= .returned (.int .i64 c)/\Aside (MeshS gd B 3 bm K' st' N' w'/\Below B w w'/\MeshI 3 (i+1) G' K' D' st' N'/\N'.length<=30)/\Aside (AnX K st N v K' st' N' c)
theorem Lo (w:World) (h:Errs B ad w) (cd:Nat) (hc:cd<=12):Calls prog 37 #[eV ad cd] w fun e w'=>e= .returned (.tuple #[.int .i64 (cd:Int),.int .i64 (-1)])/\Below w.heap.size w w':=by
 by_cases h0:cd=0
 ·subst h0
  exact (Ho w).mono fun e w' ⟨h1,h2⟩=>⟨h1,by rw [h2];exact vG _ w⟩
 obtain ⟨k,rfl⟩:∃k,cd=k+1:=⟨cd - 1,zj⟩
 rw [show eV ad (k+1)= .iface 450 (.pointer (some (ad k))) from if_neg zj]
 refine (Fi w h k zj).mono fun e w' q=>⟨?_,q.2⟩
 rw [q.1]
 unfold fJ
 rw [if_pos zj]
 rfl
def RX:(Nat->Rws)->(Nat->DSt)->List ae->List Int->(Nat->Rws)->(Nat->DSt)->List ae->List Int->Prop
 | K,st,N,[],K',st',N',cs=>cs= []/\K'=K/\st'=st/\N'=N
 | K,st,N,v::vs,K',st',N',cs=>∃K1 st1 N1 c cs1,AnX K st N v K1 st1 N1 c/\RX K1 st1 N1 vs K' st' N' cs1/\cs=c::cs1
theorem RX.snoc:∀ {vs:List Int} {K K1 K2:Nat->Rws} {st st1 st2:Nat->DSt} {N N1 N2:List ae} {cs:List Int} {v c:Int},RX K st N vs K1 st1 N1 cs->AnX K1 st1 N1 v K2 st2 N2 c->RX K st N (vs++ [v]) K2 st2 N2 (cs++ [c])
 | [],_,_,_,_,_,_,_,_,_,_,_,_,h,h2=>by
  obtain ⟨rfl,rfl,rfl,rfl⟩:=h
  exact ⟨_,_,_,_,[],h2,⟨rfl,rfl,rfl,rfl⟩,rfl⟩
 | u::us,_,_,_,_,_,_,_,_,_,_,_,_,h,h2=>by
  obtain ⟨K1,st1,N1,c,cs1,h3,h4,rfl⟩:=h
  exact ⟨K1,st1,N1,c,_,h3,RX.snoc h4 h2,rfl⟩
theorem Iq (h:X.ownsRow S 3 1 v n xs) (hS:S<=X.heap.size) (x:Int) (hn:n<=4000):
  ∃v' w',(Builtin.append_ #[42,42] 42 #[v,.slice (some ⟨X.heap.size,0,none⟩) 1 1]).run prog (X.alloc (.cells #[.int .i64 x] 3))= .ok v' w'/\Aside (w'.ownsRow S 3 1 v' (n+1) (xs++ [.int .i64 x])/\(X.alloc (.cells #[.int .i64 x] 3)).grownBy w' v.ownBlock/\Below S X w'/\∀g,v'.ownBlock=some g->v.ownBlock=some g\/(X.alloc (.cells #[.int .i64 x] 3)).heap.size<=g):=by
 obtain ⟨i0,hi0,hz0,hz1,hz2⟩:=info_parts Jj
 have hb:Below X.heap.size X (X.alloc (.cells #[.int .i64 x] 3)):=zh X _
 have h':(X.alloc (.cells #[.int .i64 x] 3)).ownsRow S 3 1 v n xs:=av h (fun k hk=>hb.block k (h.lt k hk).2)
 obtain ⟨v',w',hrun,hown,hgrow,hcase⟩:=dR (P:=prog) (X.alloc (.cells #[.int .i64 x] 3)) S 42 42 3 i0 _ 1 8 underlying42 hi0 hz0 hz1 hz2 rfl zj v n xs h' ⟨X.heap.size,0,none⟩ 1 1 zj [.int .i64 x] rfl
  (Zj (cs:= #[.int .i64 x]) (t:=3) (fr:=(0,0)) (heap_alloc_new X _)) (fun u hu=>xr) zA zj (vI hS hb.size)
 refine ⟨v',w',hrun,hown,hgrow,(hb.mono hS).grown hgrow (vI hS hb.size) (fun k hk=>(h.lt k hk).1),fun g hg=> ?_⟩
 rcases hcase with ⟨g',cp,e1,e2⟩ | ⟨e1,_⟩
 ·left;rw [e2] at hg;rw [e1];exact hg
 right
 rw [hg] at e1
 cases e1
 exact vB _
def Md (gd:Nat->Option Obj) (B bm i:Nat) (K:Nat->Rws) (st:Nat->DSt) (N:List ae) (xs:List Int) (w:World) (e:Ending) (w':World):Prop:=∃(v:Value) (cs:List Int) (G':List OpX) (K':Nat->Rws) (D':Nat->List OpX) (st':Nat->DSt) (N':List ae),e= .returned v/\Aside (MeshQ gd B 3 bm K' st' N' v cs w'/\Below B w w'/\MeshI 3 (i+xs.length) G' K' D' st' N'/\N'.length<=30)/\Aside (RX K st N xs K' st' N' cs/\cs.length=xs.length)
end
section
open Go.RowKit Go.Lib Go.Sort Go.Maps
open scoped Classical
abbrev Nt:=Nat×Nat×Bool×(Int×Int×Int×Int)×List OpX
def NI (x:ae):Nt:=(x.1,x.2.1,x.2.2.1,(x.2.2.2.1 0,x.2.2.2.1 1,x.2.2.2.1 2,x.2.2.2.1 3),Mo x)
structure Oh (K L:Nat->Rws) (s t:Nat->DSt) (N M:List ae):Prop where
 rows:∀r,r<3->∀j,j<4->K r j=L r j
 disk:∀r,r<3->s r=t r
 notes:N.map NI=M.map NI
theorem nI {qs qs':List Plc} (h:dh A qs) (h':dh A qs'):qs=qs':=by
 obtain ⟨ms,h1,h2,h3⟩:=h
 obtain ⟨ms',k1,k2,k3⟩:=h'
 rw [lE h2 k2 (h1.trans k1.symm)] at h3
 exact h3.unique k3
theorem Jq {T:Int} {x:OpX} {a a':OpX×Nat} (h:sJ A T i n x a) (h':sJ A T i n x a'):a=a':=by
 rcases h with ⟨q,h⟩ | ⟨q1,q2,q3,q4,h⟩<;>rcases h' with ⟨k,h'⟩ | ⟨k1,k2,k3,k4,h'⟩
 ·exact h.one h'
 ·rcases q with q | q | q | q
  ·exact absurd q k1
  ·exact absurd q k2
  ·exact absurd q k3
  exact absurd q k4
 ·rcases k with k | k | k | k
  ·exact absurd k q1
  ·exact absurd k q2
  ·exact absurd k q3
  exact absurd k q4
 rw [h,h']
section
variable {K L K' L':Nat→Rws} {s t s' t':Nat→DSt} {N M N' M':List ae}
end
end
section
open Go.RowKit Go.Lib Go.Sort Go.Maps
open scoped Classical
def x8:OpX:=(2,0,2,109,8,4,⟨#[100]⟩,⟨#[]⟩)
theorem Lf:mq x4=0:=zr
theorem Mt:mq x8=0:=zr
theorem BB:dh [] []:=⟨[],List.Perm.refl _,List.Pairwise.nil,List.Pairwise.nil,fun p=>by
 constructor
 ·intro h;simp at h
 ·intro h;cases h⟩
theorem Ez:dh [x4] [(4,0,⟨#[97]⟩)]:=by
 refine ⟨[((1,0),(4,0,⟨#[97]⟩))],List.Perm.refl _,ZA _ _,?_⟩
 rw [wG _ zr]
 refine ⟨ZA _ _,fun p=> ?_⟩
 obtain ⟨a,b,s⟩:=p
 simp only [vR,upd]
 constructor
 ·intro e
  cases e
  simp
 intro e
 split at e
 ·cases e;rfl
 cases e
theorem MK:fG ([],false,false,0) x4=(0,(dP (ac x4),false,false,0)):=by
 have hl:([]:List UInt8).length+(dP (ac x4)).length<=65536:=by
  have:=fB Lf
  rw [dU]
  simp
  omega
 have:=pU (left:=0) Lf hl
 exact kp3
theorem MJ:(fG (dP (ac x4),false,false,0) x8).1=0:=by
 have hl:(dP (ac x4)).length+(dP (ac x8)).length<=65536:=by
  have:=fB Lf
  have:=fB Mt
  rw [dU,dU]
  omega
 rw [pU Mt hl]
theorem OS:sJ [] 0 0 0 (dN 0 0 0 0) (x4,0):=by
 refine .inl ⟨.inl rfl,.inl ⟨rfl,rfl,?_⟩⟩
 have e1:fD 0 0 0 109 0 (aN (dN 0 0 0 0)) (dN 0 0 0 0).2.2.2.2.2.2.1 ⟨#[]⟩=x4:=rfl
 have e2:ki x4=0:=zr
 have e3:wy [] (aN (dN 0 0 0 0))=true:=zr
 rw [e1,e3]
 unfold rd
 rw [if_neg zr,if_pos e2]
theorem Np:sJ [x4] 1 0 1 (dN 0 3 4 0) (x8,0):=by
 refine .inl ⟨.inl rfl,.inl ⟨rfl,rfl,?_⟩⟩
 have e1:fD 1 0 1 109 0 (aN (dN 0 3 4 0)) (dN 0 3 4 0).2.2.2.2.2.2.1 ⟨#[]⟩=x8:=rfl
 have e2:ki x8=0:=zr
 have e3:wy [x4] (aN (dN 0 3 4 0))=true:=zr
 rw [e1,e3]
 unfold rd
 rw [if_neg zr,if_pos e2]
theorem Ls {c:Int} (hK:K 0=fun _=>[]) (hst:st 0=([],false,false,0)) (h:AnX K st N 0 K' st' N' c):c=0/\RowsK (K' 0)/\(∀z,z∈aQ (K' 0)↔z=x4)/\st' 0=(dP (ac x4),false,false,0):=by
 rcases h with ⟨h,_⟩ | ⟨m,cd,hm,rfl,hp⟩
 ·omega
 obtain rfl:m=0:=zj
 have hp:PX K st N 0 0 0 K' st' N' cd:=hp
 rcases hp with ⟨_,_,qs,x,y,T,y0,cd0,yy,hq,hx,hy,hT,hnx,hdo⟩ | ⟨h,_⟩ | ⟨h,_⟩ | ⟨h,_⟩ | ⟨h,_⟩ | ⟨h,_⟩ | ⟨h,_⟩ | ⟨h,_⟩
 all_goals first | omega | skip
 have hT0:=Gr hK hT
 subst hT0
 rw [kg hK] at hq hnx
 have hqs:=nI hq BB
 subst hqs
 have hx0:x=0:=by
  have:some (0:Int)=some x:=hx
  cases this;rfl
 have hy0:y=0:=by
  have:some (0:Int)=some y:=hy
  cases this;rfl
 subst hx0 hy0
 have hl:(K 0 0).length=0:=by rw [hK];rfl
 rw [hl] at hnx
 have e:=Jq hnx OS
 cases e
 have ha:fG (st 0) x4=(0,(dP (ac x4),false,false,0)):=by rw [hst];exact MK
 rcases hdo with ⟨h,_⟩ | ⟨_,h,_⟩ | ⟨_,_,rfl,_,⟨R',rfl,hR,hm⟩,rfl⟩
 ·exact absurd rfl h
 ·rw [ha] at h;exact absurd rfl h
 refine ⟨rfl,by rw [au];exact hR,fun z=> ?_,by rw [au,ha]⟩
 rw [au,hm,kg hK]
 simp
theorem LU {c:Int} (hR:RowsK (K 0)) (hK:∀z,z∈aQ (K 0)↔z=x4) (hst:st 0=(dP (ac x4),false,false,0)) (h:AnX K st N 144 K' st' N' c):c=0:=by
 rcases h with ⟨h,_⟩ | ⟨m,cd,hm,rfl,hp⟩
 ·omega
 obtain rfl:m=144:=zj
 have hp:PX K st N 0 0 3 K' st' N' cd:=hp
 have hall:aQ (K 0)= [x4]:=by
  have hp:(aQ (K 0)).Perm [x4]:=(List.perm_ext_iff_of_nodup hR.num.nodup (show [x4].Nodup from ZA _ _)).2 (fun z=>by rw [hK];simp)
  exact List.perm_singleton.1 hp
 have hs:Ml (K 0) [x4]:=⟨by rw [hall],ZA _ _⟩
 have hlen:(K 0 0).length=1:=by
  rw [<-LJ hs hR (i:=0) zj]
  rfl
 rcases hp with ⟨_,_,qs,x,y,T,y0,cd0,yy,hq,hx,hy,hT,hnx,hdo⟩ | ⟨h,_⟩ | ⟨h,_⟩ | ⟨h,_⟩ | ⟨h,_⟩ | ⟨h,_⟩ | ⟨h,_⟩ | ⟨h,_⟩
 all_goals first | omega | skip
 rw [hall] at hq hnx hT
 have hT1:T=1:=by
  have h1:(1:Int)<=T:=hT.1 x4 zt
  rcases hT.2.1 with q | ⟨z,hz,q⟩
  ·omega
  rw [vR.1 hz] at q
  exact q.symm
 subst hT1
 have hqs:=nI hq Ez
 subst hqs
 have hx0:x=4:=by
  have:some (4:Int)=some x:=hx
  cases this;rfl
 have hy0:y=0:=by
  have:some (0:Int)=some y:=hy
  cases this;rfl
 subst hx0 hy0
 rw [hlen] at hnx
 have e:=Jq hnx Np
 cases e
 have ha:(fG (st 0) x8).1=0:=by rw [hst];exact MJ
 rcases hdo with ⟨h,_⟩ | ⟨_,h,_⟩ | ⟨_,_,rfl,_⟩
 ·exact absurd rfl h
 ·exact absurd ha h
 rfl
theorem LO (hK:K 0=fun _=>[]) (hst:st 0=([],false,false,0)) (h:RX K st N [0,-1,144] K' st' N' cs):cs= [0,-1,0]:=by
 obtain ⟨K1,st1,N1,c,cs1,h1,⟨K2,st2,N2,c2,cs2,h2,⟨K3,st3,N3,c3,cs3,h3,⟨rfl,_⟩,rfl⟩,rfl⟩,rfl⟩:=h
 obtain ⟨rfl,hR,hm,hs⟩:=Ls hK hst h1
 rcases h2 with ⟨_,rfl,rfl,rfl,rfl⟩ | ⟨m,cd,hm,_⟩
 ·rw [LU hR hm hs h3]
 omega
end
section
open Go Go.RowKit Go.Lib Go.Sort Go.Maps
open scoped Classical
theorem Errs.up {B':Nat} (h:Errs B ad w) (hB:B<=B') (hs:B'<=w.heap.size):Errs B' ad w:=
 ⟨h.c0,h.c1,h.c2,h.c3,h.c4,h.c5,h.c6,h.c7,h.c8,h.c9,h.c10,h.c11,h.et,fun i hi=>vV (h.lt i hi) hB,h.row,h.ne,vI h.big hB,hs⟩
theorem MeshS.wardNew {gd:Nat->Option Obj} {bm:Nat} (h:MeshS gd B n bm K st N w) (hb:Below w.heap.size w w') (hB:B<=w.heap.size):MeshS (fun k=>if w.heap.size<=k/\k<w'.heap.size then w'.heap[k]? else gd k) B n bm K st N w':=by
 obtain ⟨ow,pv,fv,bp,br,d,dv,c,hm⟩:=h
 have hm':=hm.still (S:=fun _=>False) (w':=w') (show Keeps (fun _=>False) w w' from ⟨hb.os,hb.tape,hb.output,hb.size,fun k hk _=>hb.block k hk⟩) (fun k q=>q.elim)
 refine MeshS.less ⟨_,pv,fv,bp,br,d,dv,c,hm'.wardOld (fun k=>w.heap.size<=k/\k<w'.heap.size) (fun k q=>⟨hm.high k q.1,vI hB q.1,q.2⟩)⟩ (fun k o e=> ?_)
 by_cases q:w.heap.size<=k/\k<w'.heap.size
 ·rw [if_pos q] at e |-;exact e
 rw [if_neg q] at e |-;exact e
def three (a b c:Int):Obj:=.cells #[.int .i64 a,.int .i64 b,.int .i64 c] 3 (0,0)
theorem DU {b:Nat} (h:w.heap[b]? =some (three x y z)):InRow kF w (some ⟨b,0,none⟩) [x,y,z]:=by
 unfold three at h
 refine .inr ⟨b,0,rfl,fun j u hj=> ?_⟩
 match j,hj with
 | 0,hj=>simpa [World.cell?,h,aI,kF] using hj
 | 1,hj=>simpa [World.cell?,h,aI,kF] using hj
 | 2,hj=>simpa [World.cell?,h,aI,kF] using hj
 | n+3,hj=>simp [aI,kF] at hj
theorem CT {b:Nat} (h:w.heap[b]? =some (three x y z)):NumsAt w b 0 [x,y,z]:=by
 unfold three at h
 intro j u hj
 match j,hj with
 | 0,hj=>simp at hj;subst hj;simp [World.cell?,h]
 | 1,hj=>simp at hj;subst hj;simp [World.cell?,h]
 | 2,hj=>simp at hj;subst hj;simp [World.cell?,h]
 | n+3,hj=>simp at hj
def FQ (S:Nat) (w1 W:World) (e:Ending) (w':World):Prop:=∃ao cap,e= .returned (.slice ao 3 cap)/\InRow kF w' ao [0,-1,0]/\(∀k o,w1.heap.size<=k->W.heap[k]? =some o->w'.heap[k]? =some o)/\Below S W w'
theorem Ei (h:w.ownsRow B 3 1 v cs.length (aI kF cs)):∃ao cap,v= .slice ao cs.length cap:=by
 rcases h.2 with ⟨h1,h2⟩ | ⟨g,cap',cur,hv,_⟩
 ·exact ⟨none,0,by rw [h1,h2]⟩
 exact ⟨_,_,hv⟩
