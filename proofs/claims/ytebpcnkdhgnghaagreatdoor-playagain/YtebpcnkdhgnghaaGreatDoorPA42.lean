import Derived.Test.YtebpcnkdhgnghaaGreatDoorPA40
import Derived.Test.YtebpcnkdhgnghaaGreatDoorPA41
set_option linter.unusedSimpArgs false
set_option linter.unusedVariables false
set_option maxRecDepth 100000
set_option maxHeartbeats 64000000
namespace Go.Proofs.YtebpcnkdhgnghaaGreatDoor
open Go.Proofs.Tryz
variable {y z:Int} {cs:List Int} {M N N':List aO} {A G ys zs:List OpX} {B S a b bm d i k kd m n q r:Nat} {ad:Nat→Addr} {s st st' t:Nat→DSt} {u:Nat→Int} {D:Nat→List OpX} {gd:Nat→Option Obj} {K K' L:Nat→Rws} {x:OpX} {R R':Rws} {v:Value} {w:World}
section
open Go.RowKit Go.Lib Go.Sort Go.Maps
open scoped Classical
def Cc (x:Int):Prop:= -9223372036854775808<=x/\x<=9223372036854775807
def AnX (K:Nat->Rws) (st:Nat->DSt) (N:List aO) (v:Int) (K':Nat->Rws) (st':Nat->DSt) (N':List aO) (c:Int):Prop:=
 (v<0/\c= -1/\K'=K/\st'=st/\N'=N)\/∃m cd:Nat,v=(m:Int)/\c=(cd:Int)/\PX K st N (m % 16) (m / 16 % 3) (m / 16 / 3) K' st' N' cd
def NN (gd:Nat->Option Obj) (B bm i:Nat) (K:Nat->Rws) (st:Nat->DSt) (N:List aO) (v:Int) (w:World) (e:Ending) (w':World):Prop:=∃(c:Int) (G':List OpX) (K':Nat->Rws) (D':Nat->List OpX) (st':Nat->DSt) (N':List aO),e= .returned (.int .i64 c)/\Aside (MeshS gd B 3 bm K' st' N' w'/\Below B w w'/\MeshI 3 (i+1) G' K' D' st' N'/\N'.length<=30)/\Aside (AnX K st N v K' st' N' c)
theorem LF (w:World) (h:Errs B ad w) (cd:Nat) (hc:cd<=12):Calls prog 37 #[eV ad cd] w fun e w'=>e= .returned (.tuple #[.int .i64 (cd:Int),.int .i64 (-1)])/\Below w.heap.size w w':=by
 by_cases h0:cd=0
 ·subst h0
  exact (Hq w).mono fun e w' ⟨h1,h2⟩=>⟨h1,by rw [h2];exact jN _ w⟩
 obtain ⟨k,rfl⟩:∃k,cd=k+1:=⟨cd - 1,zj⟩
 rw [show eV ad (k+1)= .iface 450 (.pointer (some (ad k))) from if_neg zj]
 refine (FA w h k zj).mono fun e w' q=>⟨?_,q.2⟩
 rw [q.1]
 unfold iK
 rw [if_pos zj]
 rfl
theorem Ck (w:World) (v:Int) (hv:Cc v) (h:MeshS gd B 3 bm K st N w) (hI:MeshI 3 i G K D st N) (hN:N.length<=30) (hE:EnvM B ad w) (hEr:Errs B ad w) (hi:i<=154):
  Calls prog 43 #[.pointer (some ⟨bm,0,none⟩),.int .i64 v] w (NN gd B bm i K st N v w):=by
 unfold Cc at hv
 by_cases hneg:v<0
 ·have d1:decide (v<0)=true:=by simp;omega
  go_enter func43,ntmps43
  go_wp2
  go_ret
  exact ⟨-1,G,K,D,st,N,rfl,⟨h,jN _ w,hI.up zj,hN⟩,.inl ⟨hneg,rfl,rfl,rfl,rfl⟩⟩
 have d1:decide (v<0)=false:=zl
 obtain ⟨m,rfl⟩:∃m:Nat,v=(m:Int):=⟨v.toNat,zj⟩
 have hst:=wV m zj w
 have HM:Aside (MeshS gd B 3 bm K st N w/\MeshI 3 i G K D st N/\EnvM B ad w/\Errs B ad w):=⟨h,hI,hE,hEr⟩
 have hB0:B<=w.heap.size:=hEr.size
 clear h hI hE hEr
 go_enter func43,ntmps43
 go_wp2_with fail
 refine hst.mono ?_
 clear hst
 rintro e w1 ⟨rfl,hb1⟩
 have hpl:=Hw w1 (m % 16) (m / 16 % 3) (m / 16 / 3) zj zj zj (HM.o.1.later hb1) HM.o.2.1 hN (HM.o.2.2.1.later hb1) hi
 have HB1:Aside (Below B w w1):=hb1.mono hB0
 clear hb1
 obtain ⟨k1,hk1⟩:=ze (m % 16)
 obtain ⟨k2,hk2⟩:=ze (m / 16 % 3)
 obtain ⟨k3,hk3⟩:=ze (m / 16 / 3)
 rw [<-hk1.o,<-hk2.o,<-hk3.o] at hpl |-
 go_wp2_with fail
 refine hpl.mono ?_
 clear hpl
 rintro e w2 ⟨cd,G2,K2,D2,st2,N2,rfl,H2,HX⟩
 have hcode:=LF w2 (HM.o.2.2.2.mono (HB1.o.trans H2.o.2.1)) cd HX.o.1
 obtain ⟨ev,hev⟩:=ze (eV ad cd)
 rw [<-hev.o] at hcode |-
 go_wp2_with fail
 refine hcode.mono ?_
 clear hcode
 rintro e w3 ⟨rfl,hb3⟩
 have HB3:Aside (MeshS gd B 3 bm K2 st2 N2 w3/\Below B w w3):=⟨H2.o.1.later hb3,(HB1.o.trans H2.o.2.1).trans (hb3.mono (jM hB0 (HB1.o.trans H2.o.2.1).size))⟩
 clear hb3
 go_wp2
 go_ret
 refine ⟨(cd:Int),G2,K2,D2,st2,N2,rfl,⟨HB3.o.1,HB3.o.2,H2.o.2.2.1,H2.o.2.2.2⟩,.inr ⟨m,cd,rfl,rfl,?_⟩⟩
 have:=HX.o.2
 rw [hk1.o,hk2.o,hk3.o] at this
 exact this
def RX:(Nat->Rws)->(Nat->DSt)->List aO->List Int->(Nat->Rws)->(Nat->DSt)->List aO->List Int->Prop
 | K,st,N,[],K',st',N',cs=>cs= []/\K'=K/\st'=st/\N'=N
 | K,st,N,v::vs,K',st',N',cs=>∃K1 st1 N1 c cs1,AnX K st N v K1 st1 N1 c/\RX K1 st1 N1 vs K' st' N' cs1/\cs=c::cs1
theorem RX.snoc:∀ {vs:List Int} {K K1 K2:Nat->Rws} {st st1 st2:Nat->DSt} {N N1 N2:List aO} {cs:List Int} {v c:Int},RX K st N vs K1 st1 N1 cs->AnX K1 st1 N1 v K2 st2 N2 c->RX K st N (vs++ [v]) K2 st2 N2 (cs++ [c])
 | [],_,_,_,_,_,_,_,_,_,_,_,_,h,h2=>by
  obtain ⟨rfl,rfl,rfl,rfl⟩:=h
  exact ⟨_,_,_,_,[],h2,⟨rfl,rfl,rfl,rfl⟩,rfl⟩
 | u::us,_,_,_,_,_,_,_,_,_,_,_,_,h,h2=>by
  obtain ⟨K1,st1,N1,c,cs1,h3,h4,rfl⟩:=h
  exact ⟨K1,st1,N1,c,_,h3,RX.snoc h4 h2,rfl⟩
theorem Ip {X:World} {xs:List Value} (h:X.ownsRow S 3 1 v n xs) (hS:S<=X.heap.size) (x:Int) (hn:n<=4000):
  ∃v' w',(Builtin.append_ #[42,42] 42 #[v,.slice (some ⟨X.heap.size,0,none⟩) 1 1]).run prog (X.alloc (.cells #[.int .i64 x] 3))= .ok v' w'/\Aside (w'.ownsRow S 3 1 v' (n+1) (xs++ [.int .i64 x])/\(X.alloc (.cells #[.int .i64 x] 3)).grownBy w' v.ownBlock/\Below S X w'/\∀g,v'.ownBlock=some g->v.ownBlock=some g\/(X.alloc (.cells #[.int .i64 x] 3)).heap.size<=g):=by
 obtain ⟨i0,hi0,hz0,hz1,hz2⟩:=info_parts GW
 have hb:Below X.heap.size X (X.alloc (.cells #[.int .i64 x] 3)):=zh X _
 have h':(X.alloc (.cells #[.int .i64 x] 3)).ownsRow S 3 1 v n xs:=au h (fun k hk=>hb.block k (h.lt k hk).2)
 obtain ⟨v',w',hrun,hown,hgrow,hcase⟩:=dZ (P:=prog) (X.alloc (.cells #[.int .i64 x] 3)) S 42 42 3 i0 _ 1 8 underlying42 hi0 hz0 hz1 hz2 rfl zj v n xs h' ⟨X.heap.size,0,none⟩ 1 1 zj [.int .i64 x] rfl
  (ui (cs:= #[.int .i64 x]) (t:=3) (fr:=(0,0)) (heap_alloc_new X _)) (fun u hu=>by rw [jS.1 hu];rfl) zu zj (jM hS hb.size)
 refine ⟨v',w',hrun,hown,hgrow,(hb.mono hS).grown hgrow (jM hS hb.size) (fun k hk=>(h.lt k hk).1),fun g hg=> ?_⟩
 rcases hcase with ⟨g',cp,e1,e2⟩ | ⟨e1,_⟩
 ·left;rw [e2] at hg;rw [e1];exact hg
 right
 rw [hg] at e1
 cases e1
 exact jL _
def Nm (gd:Nat->Option Obj) (B bm i:Nat) (K:Nat->Rws) (st:Nat->DSt) (N:List aO) (xs:List Int) (w:World) (e:Ending) (w':World):Prop:=∃(v:Value) (cs:List Int) (G':List OpX) (K':Nat->Rws) (D':Nat->List OpX) (st':Nat->DSt) (N':List aO),e= .returned v/\Aside (MeshQ gd B 3 bm K' st' N' v cs w'/\Below B w w'/\MeshI 3 (i+xs.length) G' K' D' st' N'/\N'.length<=30)/\Aside (RX K st N xs K' st' N' cs/\cs.length=xs.length)
theorem tN (w:World) (so:Option Addr) (cap:Nat) (xs:List Int) (hx:∀x∈xs,Cc x) (hs:xs= []\/∃g o ob,so=some ⟨g,o,none⟩/\gd g=some ob/\∀W:World,W.heap[g]? =some ob->NumsAt W g o xs) (h:MeshS gd B 3 bm K st N w) (hI:MeshI 3 i G K D st N) (hN:N.length<=30) (hE:EnvM B ad w) (hEr:Errs B ad w) (hi:i+xs.length<=155) (hcap:xs.length<=cap):
  Calls prog 16 #[.pointer (some ⟨bm,0,none⟩),.slice so xs.length cap] w (Nm gd B bm i K st N xs w):=by
 have HM:Aside (EnvM B ad w/\Errs B ad w/\(∀x∈xs,Cc x)/\(xs= []\/∃g o ob,so=some ⟨g,o,none⟩/\gd g=some ob/\∀W:World,W.heap[g]? =some ob->NumsAt W g o xs)):=⟨hE,hEr,hx,hs⟩
 have HS:Aside (MeshQ gd B 3 bm K st N (.slice none 0 0) [] w/\Below B w w/\MeshI 3 i G K D st N/\N.length<=30):=⟨MeshQ.bare h,jN _ w,hI,hN⟩
 have hB0:B<=w.heap.size:=hEr.size
 clear hE hEr hx hs h hI hN
 go_enter func16,ntmps16
 go_wp2
 go_loopg [5,18] xs.length (fun kx s5 s18 wr=>∃(k:Nat) (ov:Value),ov=s5/\s18= .int .i64 (k:Int)/\k<=xs.length/\xs.length - k<=kx/\Aside (∃(cs:List Int) (G':List OpX) (K':Nat->Rws) (D':Nat->List OpX) (st':Nat->DSt) (N':List aO),MeshQ gd B 3 bm K' st' N' ov cs wr/\Below B w wr/\MeshI 3 (i+k) G' K' D' st' N'/\N'.length<=30/\RX K st N (xs.take k) K' st' N' cs/\cs.length=k))
 case atStart=>exact ⟨0,_,rfl,rfl,jX _,jL _,[],G,K,D,st,N,HS.o.1,HS.o.2.1,HS.o.2.2.1,HS.o.2.2.2,⟨rfl,rfl,rfl,rfl⟩,rfl⟩
 case round=>
  obtain ⟨k,ov,rfl,rfl,hk,hkx,A⟩:=hrel
  clear HS
  by_cases hlt:k<xs.length
  ·have d1:decide ((k:Int)<(xs.length:Int))=true:=by simp;omega
   have wk:((k:Int)).toNat=k:=zj
   have pk:(0:Int)<=(k:Int):=zj
   have bk:(k:Int)<(xs.length:Int):=zj
   obtain ⟨cs,G1,K1,D1,st1,N1,hQ,hb,hI1,hN1,hR,hcl⟩:=A.o
   obtain ⟨x,hx⟩:∃x,Aside (xs[k]? =some x):=⟨xs[k],jK hlt⟩
   obtain ⟨g,o,ob,hso,hgo,hnu⟩:∃g o ob,so=some ⟨g,o,none⟩/\gd g=some ob/\∀W:World,W.heap[g]? =some ob->NumsAt W g o xs:=by
    rcases HM.o.2.2.2 with e | e
    ·rw [e] at hlt;simp at hlt
    exact e
   subst hso
   have c0:=hnu wr (hQ.mesh.held hgo) k x hx.o
   have hans:=Ck wr x (HM.o.2.2.1 x (jT hx.o)) hQ.1 hI1 hN1 (HM.o.1.mono hb) (HM.o.2.1.mono hb) zj
   have HA:Aside (MeshQ gd B 3 bm K1 st1 N1 ov cs wr/\Below B w wr/\RX K st N (xs.take k) K1 st1 N1 cs/\cs.length=k):=⟨hQ,hb,hR,hcl⟩
   obtain ⟨u0,hu0⟩:=za wr
   subst hu0
   clear A hQ hb hI1 hN1 hR hcl hgo hnu
   go_wp2_with fail
   refine hans.mono ?_
   clear hans c0
   rintro e w2 ⟨c,G2,K2,D2,st2,N2,rfl,H2,HX⟩
   have hQ2:=HA.o.1.on H2.o.1
   have hB2:B<=w2.heap.size:=jM hB0 (jM HA.o.2.1.size H2.o.2.1.size)
   obtain ⟨v',w6,hrun,HO⟩:=Ip hQ2.2.1 hB2 c (by have:=HA.o.2.2.2;omega)
   have hbY:Below w2.heap.size w2 (w2.alloc (.cells #[.int .i64 c] 3)):=zh w2 _
   have hQY:=hQ2.on (hQ2.1.later hbY)
   have hQ6:MeshQ gd B 3 bm K2 st2 N2 v' (cs++ [c]) w6:=hQY.more (aP HO.o.2.1) (by
    rw [jP,bu]
    exact HO.o.1) HO.o.2.2.2
   have H6:Aside (MeshQ gd B 3 bm K2 st2 N2 v' (cs++ [c]) w6/\Below B w w6/\MeshI 3 (i+(k+1)) G2 K2 D2 st2 N2/\N2.length<=30/\RX K st N (xs.take (k+1)) K2 st2 N2 (cs++ [c])/\(cs++ [c]).length=k+1):=⟨hQ6,(HA.o.2.1.trans H2.o.2.1).trans HO.o.2.2.1,H2.o.2.2.1,H2.o.2.2.2,by
    rw [vV,hx.o]
    exact HA.o.2.2.1.snoc HX.o,by rw [jP,HA.o.2.2.2];rfl⟩
   clear HO hbY hQY hQ6 hQ2 H2 HX HA
   go_wp2_with (at_builtin;refine Lib.wpList_append_run _ rfl _ _ _ _ rfl _ _ rfl rfl _ _ hrun ?_)
   clear hrun
   go_wp2
   go_roundg (xs.length - (k+1))
   case measure=>omega
   case rel=>exact ⟨k+1,v',rfl,zI,zj,jL _,cs++ [c],G2,K2,D2,st2,N2,H6.o⟩
  have d1:decide ((k:Int)<(xs.length:Int))=false:=zl
  obtain rfl:k=xs.length:=zj
  obtain ⟨cs,G1,K1,D1,st1,N1,hQ,hb,hI1,hN1,hR,hcl⟩:=A.o
  have H6:Aside (MeshQ gd B 3 bm K1 st1 N1 ov cs wr/\Below B w wr/\MeshI 3 (i+xs.length) G1 K1 D1 st1 N1/\N1.length<=30):=⟨hQ,hb,hI1,hN1⟩
  have H7:Aside (RX K st N xs K1 st1 N1 cs/\cs.length=xs.length):=⟨by rw [ul] at hR;exact hR,hcl⟩
  clear A hQ hb hI1 hN1 hR hcl
  go_wp2
  go_ret
  exact ⟨ov,cs,G1,K1,D1,st1,N1,rfl,H6,H7⟩
end
section
open Go.RowKit Go.Lib Go.Sort Go.Maps
open scoped Classical
abbrev OW:=Nat×Nat×Bool×(Int×Int×Int×Int)×List OpX
def CS (x:aO):OW:=(x.1,x.2.1,x.2.2.1,(x.2.2.2.1 0,x.2.2.2.1 1,x.2.2.2.1 2,x.2.2.2.1 3),Cd x)
structure SameM (K L:Nat->Rws) (s t:Nat->DSt) (N M:List aO):Prop where
 rows:∀r,r<3->∀j,j<4->K r j=L r j
 disk:∀r,r<3->s r=t r
 notes:N.map CS=M.map CS
theorem SameM.all (h:SameM K L s t N M) (hr:r<3):aX (K r)=aX (L r):=by
 unfold aX
 rw [h.rows r hr 0 zj,h.rows r hr 1 zj,h.rows r hr 2 zj,h.rows r hr 3 zj]
theorem SameM.vec (h:SameM K L s t N M) (hr:r<3) {j:Nat} (hj:j<4):dY (K r) j=dY (L r) j:=by
 unfold dY
 rw [h.rows r hr j hj]
theorem SameM.len (h:SameM K L s t N M):N.length=M.length:=by
 have:=congrArg List.length h.notes
 exact kn3
theorem SameM.get (h:SameM K L s t N M) {x:aO} (hx:N[k]? =some x):∃y,M[k]? =some y/\CS x=CS y:=by
 have e:=congrArg (fun l=>l[k]?) h.notes
 simp only [vP,hx,uo] at e
 cases hy:M[k]? with
 | none=>rw [hy] at e;cases e
 | some y=>rw [hy] at e;exact ⟨y,rfl,Option.some.inj e⟩
theorem cC {α β:Type} (f:α->β):∀(l:List α) (k:Nat),(l.eraseIdx k).map f=(l.map f).eraseIdx k
 | [],k=>zq
 | a::l,0=>zq
 | a::l,k+1=>by simp [cC f l k]
theorem ii {qs qs':List Plc} (h:dl A qs) (h':dl A qs'):qs=qs':=by
 obtain ⟨ms,h1,h2,h3⟩:=h
 obtain ⟨ms',k1,k2,k3⟩:=h'
 rw [mQ h2 k2 (h1.trans k1.symm)] at h3
 exact h3.unique k3
theorem EG {T:Int} {a a':OpX×Nat} (h:mg A T i n x a) (h':mg A T i n x a'):a=a':=by
 rcases h with ⟨q,h⟩ | ⟨q1,q2,q3,q4,h⟩<;>rcases h' with ⟨k,h'⟩ | ⟨k1,k2,k3,k4,h'⟩
 ·exact h.one h'
 ·rcases q with q | q | q | q
  ·exact absurd q k1
  ·exact absurd q k2
  ·exact absurd q k3
  exact absurd q k4
 ·rcases k with k | k | k | k
  ·exact absurd k q1
  ·exact absurd k q2
  ·exact absurd k q3
  exact absurd k q4
 rw [h,h']
theorem oy (hR:RowsK R) (h:ae (aX R) ys) (h':ae (aX R) zs):ys=zs:=by
 have key:∀ {ys:List OpX},ae (aX R) ys->ys.Pairwise (fun a b=>CLt (stO a) (stO b)):=fun {ys} hs=>by
  exact kd6
 exact kF (key h) (key h') (fun x=>by rw [(bG h).1.mem_iff,(bG h').1.mem_iff])
theorem Bt {v:Nat->Int} (h:∀j,j<4->u j=v j) (hx:bY x=0):du u x=du v x:=by
 obtain ⟨i,hi,_,e⟩:=kG hx
 unfold du
 rw [e,h i hi]
theorem AC (hR:RowsK R) (hRR:aX R=aX R') {v:Nat->Int} (huv:∀j,j<4->u j=v j) {F F':List OpX} (h:fX R u F) (h':fX R' v F'):F=F':=by
 obtain ⟨ys,h1,rfl⟩:=h
 obtain ⟨zs,k1,rfl⟩:=h'
 rw [<-hRR] at k1
 rw [oy hR h1 k1]
 refine List.filter_congr (fun x hx=> ?_)
 rw [Bt huv (hR.num.ok x ((bG k1).1.mem_iff.1 hx))]
theorem lq (h:SameM K L s t N M) (ha:a<3) (hR:RowsK R) (hR':RowsK R') (e:∀x,x∈aX R↔x∈aX R'):∀r,r<3->∀j,j<4->aN K a R r j=aN L a R' r j:=fun r hr j hj=>by
 by_cases q:r=a
 ·subst q
  rw [aR,aR]
  exact fJ hR.num hR'.num e hj
 rw [aK _ _ q,aK _ _ q]
 exact h.rows r hr j hj
theorem eJ (h:SameM K L s t N M) {x y:DSt} (e:x=y):∀r,r<3->aN s a x r=aN t a y r:=fun r hr=>by
 by_cases q:r=a
 ·subst q;rw [aR,aR];exact e
 exact kl2
section
variable {K L K' L':Nat→Rws} {s t s' t':Nat→DSt} {N M N' M':List aO}
theorem Kx (hS:SameM K L s t N M) (hr:r<3) {y0 yy zz:OpX} {cd0 c:Nat} (h:DoX K K' s s' r y0 cd0 yy c) (h':DoX L L' t t' r y0 cd0 zz d):c=d/\(∀q,q<3->∀j,j<4->K' q j=L' q j)/\∀q,q<3->s' q=t' q:=by
 have e:=hS.disk r hr
 rcases h with ⟨a0,a1,_,rfl,rfl⟩ | ⟨a0,a1,a2,_,rfl,rfl⟩ | ⟨a0,a1,a2,_,⟨R,rfl,hR,hm⟩,rfl⟩<;>rcases h' with ⟨b0,b1,_,rfl,rfl⟩ | ⟨b0,b1,b2,_,rfl,rfl⟩ | ⟨b0,b1,b2,_,⟨R',rfl,hR',hm'⟩,rfl⟩
 ·exact ⟨by rw [a1,b1],hS.rows,hS.disk⟩
 ·exact absurd b0 a0
 ·exact absurd b0 a0
 ·exact absurd a0 b0
 ·exact ⟨by rw [a2,b2,e],hS.rows,eJ hS qR⟩
 ·rw [e] at a1;exact absurd b1 a1
 ·exact absurd a0 b0
 ·rw [e] at a1;exact absurd a1 b1
 exact ⟨by rw [a2,b2],lq hS hr hR hR' (fun x=>by rw [hm,hm',hS.all hr]),eJ hS qR⟩
theorem Ld (hS:SameM K L s t N M) (hr:r<3) {c:Nat} (h:Nh K s N r q K' s' N' c) (h':Nh L t M r q L' t' M' d):c=d/\SameM K' L' s' t' N' M':=by
 have hl:=hS.len
 obtain ⟨rfl,rfl,h⟩:=h
 obtain ⟨rfl,rfl,h'⟩:=h'
 rcases h with ⟨a1,a2,rfl⟩ | ⟨a1,a2,rfl⟩<;>rcases h' with ⟨b1,b2,rfl⟩ | ⟨b1,b2,rfl⟩
 ·refine ⟨by rw [a2,b2],hS.rows,hS.disk,?_⟩
  rw [vz,vz,hS.notes]
  simp only [vJ,uB,CS,mp]
  rw [hS.vec hr (show 0<4 by omega),hS.vec hr (show 1<4 by omega),hS.vec hr (show 2<4 by omega),hS.vec hr (show 3<4 by omega)]
 ·omega
 ·omega
 exact km0
theorem JO (hS:SameM K L s t N M) {c:Nat} (h:OS K s N m K' s' N' c) (h':OS L t M m L' t' M' d):c=d/\SameM K' L' s' t' N' M':=by
 have hl:=hS.len
 obtain ⟨rfl,rfl,h⟩:=h
 obtain ⟨rfl,rfl,h'⟩:=h'
 rcases h with ⟨a1,a2,rfl⟩ | ⟨a1,a2,rfl⟩<;>rcases h' with ⟨b1,b2,rfl⟩ | ⟨b1,b2,rfl⟩
 ·exact km0
 ·omega
 ·omega
 exact ⟨by rw [a2,b2],hS.rows,hS.disk,by rw [cC,cC,hS.notes]⟩
theorem DE (hS:SameM K L s t N M) {c:Nat} (h:Ng K s N m K' s' N' c) (h':Ng L t M m L' t' M' d):c=d/\SameM K' L' s' t' N' M':=by
 have hl:=hS.len
 obtain ⟨rfl,rfl,h⟩:=h
 obtain ⟨rfl,rfl,h'⟩:=h'
 rcases h with ⟨a1,a2,rfl⟩ | ⟨x,hx,h⟩<;>rcases h' with ⟨b1,b2,rfl⟩ | ⟨y,hy,h'⟩
 ·exact km0
 ·have:=(jI.1 hy).1;omega
 ·have:=(jI.1 hx).1;omega
 obtain ⟨y',hy',e⟩:=hS.get hx
 rw [hy] at hy'
 cases hy'
 rcases h with ⟨a1,a2,rfl⟩ | ⟨a1,a2,rfl⟩<;>rcases h' with ⟨b1,b2,rfl⟩ | ⟨b1,b2,rfl⟩
 ·exact ⟨by rw [a2,b2],hS.rows,hS.disk,by rw [vz,vz,hS.notes];simp only [vJ,uB];rw [e]⟩
 ·omega
 ·omega
 exact km0
theorem EN (hS:SameM K L s t N M) (ha:a<3) {l l':List OpX} (hll:l=l') {c:Nat} (h:wD K K' s s' a l c) (h':wD L L' t t' a l' d):c=d/\(∀q,q<3->∀j,j<4->K' q j=L' q j)/\∀q,q<3->s' q=t' q:=by
 subst hll
 have e:=hS.disk a ha
 rcases h with ⟨ix,h1,rfl,rfl⟩ | ⟨fr,R,F,h1,rfl,hR,hm,hF,h2,rfl⟩<;>rcases h' with ⟨ix',k1,rfl,rfl⟩ | ⟨fr',R',F',k1,rfl,hR',hm',hF',k2,rfl⟩
 ·rw [hS.all ha] at h1
  have:=ig h1 k1
  cases this
  exact ⟨rfl,hS.rows,hS.disk⟩
 ·rw [hS.all ha] at h1
  cases ig h1 k1
 ·rw [hS.all ha] at h1
  cases ig h1 k1
 have hmm:∀x,x∈aX R↔x∈aX R':=fun x=>by rw [hm,hm',hS.all ha]
 have hRR:aX R=aX R':=by
  unfold aX
  rw [fJ hR.num hR'.num hmm (show 0<4 by omega),fJ hR.num hR'.num hmm (show 1<4 by omega),fJ hR.num hR'.num hmm (show 2<4 by omega),fJ hR.num hR'.num hmm (show 3<4 by omega)]
 have hFF:F=F':=AC hR hRR (fun j hj=>hS.vec ha hj) hF hF'
 subst hFF
 exact ⟨by rw [h2,k2,e],lq hS ha hR hR' hmm,eJ hS qR⟩
theorem Ke (hS:SameM K L s t N M) (hK:∀q,q<3->RowsK (K q)) (hto:∀x∈N,x.2.1<3) {c:Nat} (h:Nd K s N m K' s' N' c) (h':Nd L t M m L' t' M' d):c=d/\SameM K' L' s' t' N' M':=by
 have hl:=hS.len
 rcases h with ⟨a1,a2,rfl,rfl,rfl⟩ | ⟨x,hx,h⟩<;>rcases h' with ⟨b1,b2,rfl,rfl,rfl⟩ | ⟨y,hy,h'⟩
 ·exact km0
 ·have:=(jI.1 hy).1;omega
 ·have:=(jI.1 hx).1;omega
 obtain ⟨y',hy',e⟩:=hS.get hx
 rw [hy] at hy'
 cases hy'
 have ht:=hto x (jT hx)
 have hlx:(N.eraseIdx m).length=(M.eraseIdx m).length:=by
  have h1:=(jI.1 hx).1
  rw [List.length_eraseIdx,List.length_eraseIdx,if_pos h1,if_pos zj,hl]
 obtain ⟨x1,x2,x3,x4,x5,x6,x7⟩:=x
 obtain ⟨y1,y2,y3,y4,y5,y6,y7⟩:=y
 simp only [CS,Prod.mk.injEq] at e
 obtain ⟨rfl,rfl,rfl,⟨e0,e1,e2,e3⟩,e7⟩:=e
 dsimp only at h h' ht
 have e7':x7=y7:=e7
 rcases h with ⟨a0,a2,rfl,rfl,F,hF,hN⟩ | ⟨a0,rfl,hY⟩<;>rcases h' with ⟨b0,b2,rfl,rfl,F',hF',hN'⟩ | ⟨b0,rfl,hY'⟩
 ·have hFF:F=F':=AC (hK _ ht) (hS.all ht) (fun j hj=>by
   have h4:j=0\/j=1\/j=2\/j=3:=zj
   rcases h4 with rfl | rfl | rfl | rfl
   ·exact e0
   ·exact e1
   ·exact e2
   ·exact e3) hF hF'
  subst hFF
  refine ⟨by rw [a2,b2],hS.rows,hS.disk,?_⟩
  rcases hN with ⟨q,rfl⟩ | ⟨q1,q2,ao,cap,rfl⟩<;>rcases hN' with ⟨q',rfl⟩ | ⟨q1',q2',ao',cap',rfl⟩
  ·rw [cC,cC,hS.notes]
  ·rcases q with q | q
   ·exact absurd q q1'
   omega
  ·rcases q' with q' | q'
   ·exact absurd q' q1
   omega
  rw [vz,vz,cC,cC,hS.notes]
  rfl
 ·rw [a0] at b0;cases b0
 ·rw [a0] at b0;cases b0
 obtain ⟨r1,r2,r3⟩:=EN hS ht e7' hY hY'
 exact ⟨r1,r2,r3,by rw [cC,cC,hS.notes]⟩
def WfM (K:Nat->Rws) (N:List aO):Prop:=(∀q,q<3->RowsK (K q))/\∀x∈N,x.1<3/\x.2.1<3
theorem ie (h:∀q,q<3->RowsK (K q)) (hR:RowsK R):∀q,q<3->RowsK (aN K a R q):=fun q hq=>by
 by_cases e:q=a
 ·subst e;rw [aR];exact hR
 rw [aK _ _ e];exact h q hq
theorem OM (h:WfM K N) (hr:r<3) {c:Nat} (hp:PX K s N kd r k K' s' N' c):WfM K' N':=by
 rcases hp with ⟨_,rfl,_,_,_,_,_,_,_,_,_,_,_,_,hd⟩ | ⟨_,rfl,rfl,hd⟩ | ⟨_,rfl,rfl,hd⟩ | ⟨_,hd⟩ | ⟨_,_,rfl,rfl,hd⟩ | ⟨_,_,rfl,rfl,hd⟩ | ⟨_,rfl,rfl,_,_⟩ | ⟨_,_,rfl,⟨R,rfl,hR,_⟩,_⟩
 ·rcases hd with ⟨_,_,_,rfl,_⟩ | ⟨_,_,_,_,rfl,_⟩ | ⟨_,_,_,_,⟨R,rfl,hR,_⟩,_⟩
  ·exact h
  ·exact h
  exact ⟨ie h.1 hR,h.2⟩
 ·rcases hd with ⟨_,_,rfl⟩ | ⟨_,_,rfl⟩
  ·refine ⟨h.1,fun x hx=> ?_⟩
   rcases jO.1 hx with q | q
   ·exact h.2 x q
   rw [jS.1 q];exact ⟨hr,by show (r+1) % 3<3;omega⟩
  exact h
 ·rcases hd with ⟨_,_,rfl⟩ | ⟨_,_,rfl⟩
  ·refine ⟨h.1,fun x hx=> ?_⟩
   rcases jO.1 hx with q | q
   ·exact h.2 x q
   rw [jS.1 q];exact ⟨hr,by show (r+2) % 3<3;omega⟩
  exact h
 ·rcases hd with ⟨_,_,rfl,_,rfl⟩ | ⟨x,hx,⟨_,_,rfl,_,F,_,hN⟩ | ⟨_,rfl,hY⟩⟩
  ·exact h
  ·have h2:=h.2 x (jT hx)
   rcases hN with ⟨_,rfl⟩ | ⟨_,_,ao,cap,rfl⟩
   ·exact ⟨h.1,fun y hy=>h.2 y (uh hy)⟩
   refine ⟨h.1,fun y hy=> ?_⟩
   rcases jO.1 hy with q | q
   ·exact h.2 y (uh q)
   rw [jS.1 q];exact ⟨h2.2,h2.1⟩
  refine ⟨?_,fun y hy=>h.2 y (uh hy)⟩
  rcases hY with ⟨_,_,rfl,_⟩ | ⟨_,R,_,_,rfl,hR,_⟩
  ·exact h.1
  exact ie h.1 hR
 ·rcases hd with ⟨_,_,rfl⟩ | ⟨x,hx,⟨_,_,rfl⟩ | ⟨_,_,rfl⟩⟩
  ·exact h
  ·refine ⟨h.1,fun y hy=> ?_⟩
   rcases jO.1 hy with q | q
   ·exact h.2 y q
   rw [jS.1 q];exact h.2 x (jT hx)
  exact h
 ·rcases hd with ⟨_,_,rfl⟩ | ⟨_,_,rfl⟩
  ·exact h
  exact ⟨h.1,fun y hy=>h.2 y (uh hy)⟩
 ·exact h
 exact ⟨ie h.1 hR,h.2⟩
theorem NI (hS:SameM K L s t N M) (hW:WfM K N) (hr:r<3) {c:Nat} (h:PX K s N kd r k K' s' N' c) (h':PX L t M kd r k L' t' M' d):c=d/\SameM K' L' s' t' N' M':=by
 have e:=hS.disk r hr
 rcases h with ⟨a,rfl,qs,x,y,T,y0,cd0,yy,p1,p2,p3,p4,p5,p6⟩ | ⟨a,h⟩ | ⟨a,h⟩ | ⟨a,h⟩ | ⟨a,a2,h⟩ | ⟨a,a2,h⟩ | ⟨a,rfl,rfl,h1,rfl⟩ | ⟨a,h1,rfl,⟨R,rfl,hR,hm⟩,rfl⟩<;>
 rcases h' with ⟨b,rfl,qs',x',y',T',z0,dd0,zz,q1,q2,q3,q4,q5,q6⟩ | ⟨b,h'⟩ | ⟨b,h'⟩ | ⟨b,h'⟩ | ⟨b,b2,h'⟩ | ⟨b,b2,h'⟩ | ⟨b,rfl,rfl,h1',rfl⟩ | ⟨b,h1',rfl,⟨R',rfl,hR',hm'⟩,rfl⟩
 all_goals first
  | (exfalso;omega)
  | exact Ld hS hr h h'
  | exact Ke hS hW.1 (fun x hx=>(hW.2 x hx).2) h h'
  | exact DE hS h h'
  | exact JO hS h h'
  | (refine ⟨by rw [h1,h1',e],hS.rows,eJ hS qR,hS.notes⟩)
  | (refine ⟨by rw [h1,h1'],lq hS hr hR hR' (fun x=>by rw [hm,hm',e]),eJ hS qR,hS.notes⟩)
  | (rw [<-hS.all hr] at q1 q4 q5; obtain rfl := ii p1 q1; rw [p2] at q2; rw [p3] at q3; cases q2; cases q3; obtain rfl := cM p4 q4; rw [<- hS.rows r hr r zj] at q5; have e2 := EG p5 q5; cases e2; obtain ⟨r1, r2, r3⟩ := Kx hS hr p6 q6; exact ⟨r1, r2, r3,hS.notes⟩)
theorem Ml (hS:SameM K L s t N M) (hW:WfM K N) {v c d:Int} (h:AnX K s N v K' s' N' c) (h':AnX L t M v L' t' M' d):c=d/\SameM K' L' s' t' N' M'/\WfM K' N':=by
 rcases h with ⟨a,a1,rfl,rfl,rfl⟩ | ⟨m,cd,e,e2,h⟩<;>rcases h' with ⟨b,b1,rfl,rfl,rfl⟩ | ⟨m',cd',f,f2,h'⟩
 ·exact ⟨by rw [a1,b1],hS,hW⟩
 ·omega
 ·omega
 obtain rfl:m=m':=zj
 obtain ⟨r1,r2⟩:=NI hS hW zj h h'
 exact ⟨by rw [e2,f2,r1],r2,OM hW zj h⟩
end
theorem JF:∀ {xs:List Int} {K L K' L':Nat->Rws} {s t s' t':Nat->DSt} {N M N' M':List aO} {cs ds:List Int},SameM K L s t N M->WfM K N->RX K s N xs K' s' N' cs->RX L t M xs L' t' M' ds->cs=ds/\SameM K' L' s' t' N' M'
 | [],_,_,_,_,_,_,_,_,_,_,_,_,_,_,hS,_,h,h'=>by
  obtain ⟨rfl,rfl,rfl,rfl⟩:=h
  obtain ⟨rfl,rfl,rfl,rfl⟩:=h'
  exact ⟨rfl,hS⟩
 | x::xs,_,_,_,_,_,_,_,_,_,_,_,_,_,_,hS,hW,h,h'=>by
  obtain ⟨K1,s1,N1,c,cs1,h1,h2,rfl⟩:=h
  obtain ⟨L1,t1,M1,d,ds1,k1,k2,rfl⟩:=h'
  obtain ⟨r1,r2,r3⟩:=Ml hS hW h1 k1
  obtain ⟨r4,r5⟩:=JF r2 r3 h2 k2
  exact ⟨by rw [r1,r4],r5⟩
end
section
open Go.RowKit Go.Lib Go.Sort Go.Maps
open scoped Classical
def x8:OpX:=(2,0,2,109,8,4,⟨#[100]⟩,⟨#[]⟩)
theorem MZ:iN x4=0:=zo
theorem Mh:iN x8=0:=zo
theorem Aa:dl [] []:=⟨[],List.Perm.refl _,List.Pairwise.nil,List.Pairwise.nil,fun p=>by
 constructor
 ·intro h;simp at h
 ·intro h;cases h⟩
theorem DY:dl [x4] [(4,0,⟨#[97]⟩)]:=by
 refine ⟨[((1,0),(4,0,⟨#[97]⟩))],List.Perm.refl _,uJ _ _,?_⟩
 rw [wH _ zo]
 refine ⟨uJ _ _,fun p=> ?_⟩
 obtain ⟨a,b,s⟩:=p
 simp only [jS,upd]
 constructor
 ·intro e
  cases e
  simp
 intro e
 split at e
 ·cases e;rfl
 cases e
theorem Nj:dW ([],false,false,0) x4=(0,(bs (aA x4),false,false,0)):=by
 have hl:([]:List UInt8).length+(bs (aA x4)).length<=65536:=by
  have:=fG MZ
  rw [bB]
  simp
  omega
 have:=lU (left:=0) MZ hl
 exact kn3
theorem NB:(dW (bs (aA x4),false,false,0) x8).1=0:=by
 have hl:(bs (aA x4)).length+(bs (aA x8)).length<=65536:=by
  have:=fG MZ
  have:=fG Mh
  rw [bB,bB]
  omega
 rw [lU Mh hl]
theorem Ou:mg [] 0 0 0 (cV 0 0 0 0) (x4,0):=by
 refine .inl ⟨.inl rfl,.inl ⟨rfl,rfl,?_⟩⟩
 have e1:bE 0 0 0 109 0 (aF (cV 0 0 0 0)) (cV 0 0 0 0).2.2.2.2.2.2.1 ⟨#[]⟩=x4:=rfl
 have e2:dU x4=0:=zo
 have e3:CH [] (aF (cV 0 0 0 0))=true:=zo
 rw [e1,e3]
 unfold mU
 rw [if_neg zo,if_pos e2]
theorem OB:mg [x4] 1 0 1 (cV 0 3 4 0) (x8,0):=by
 refine .inl ⟨.inl rfl,.inl ⟨rfl,rfl,?_⟩⟩
 have e1:bE 1 0 1 109 0 (aF (cV 0 3 4 0)) (cV 0 3 4 0).2.2.2.2.2.2.1 ⟨#[]⟩=x8:=rfl
 have e2:dU x8=0:=zo
 have e3:CH [x4] (aF (cV 0 3 4 0))=true:=zo
 rw [e1,e3]
 unfold mU
 rw [if_neg zo,if_pos e2]
theorem Ko {c:Int} (hK:K 0=fun _=>[]) (hst:st 0=([],false,false,0)) (h:AnX K st N 0 K' st' N' c):c=0/\RowsK (K' 0)/\(∀z,z∈aX (K' 0)↔z=x4)/\st' 0=(bs (aA x4),false,false,0):=by
 rcases h with ⟨h,_⟩ | ⟨m,cd,hm,rfl,hp⟩
 ·omega
 obtain rfl:m=0:=zj
 have hp:PX K st N 0 0 0 K' st' N' cd:=hp
 rcases hp with ⟨_,_,qs,x,y,T,y0,cd0,yy,hq,hx,hy,hT,hnx,hdo⟩ | ⟨h,_⟩ | ⟨h,_⟩ | ⟨h,_⟩ | ⟨h,_⟩ | ⟨h,_⟩ | ⟨h,_⟩ | ⟨h,_⟩
 all_goals first | omega | skip
 have hT0:=JH hK hT
 subst hT0
 rw [iY hK] at hq hnx
 have hqs:=ii hq Aa
 subst hqs
 have hx0:x=0:=by
  have:some (0:Int)=some x:=hx
  cases this;rfl
 have hy0:y=0:=by
  have:some (0:Int)=some y:=hy
  cases this;rfl
 subst hx0 hy0
 have hl:(K 0 0).length=0:=by rw [hK];rfl
 rw [hl] at hnx
 have e:=EG hnx Ou
 cases e
 have ha:dW (st 0) x4=(0,(bs (aA x4),false,false,0)):=by rw [hst];exact Nj
 rcases hdo with ⟨h,_⟩ | ⟨_,h,_⟩ | ⟨_,_,rfl,_,⟨R',rfl,hR,hm⟩,rfl⟩
 ·exact absurd rfl h
 ·rw [ha] at h;exact absurd rfl h
 refine ⟨rfl,by rw [aR];exact hR,fun z=> ?_,by rw [aR,ha]⟩
 rw [aR,hm,iY hK]
 simp
theorem MU {c:Int} (hR:RowsK (K 0)) (hK:∀z,z∈aX (K 0)↔z=x4) (hst:st 0=(bs (aA x4),false,false,0)) (h:AnX K st N 144 K' st' N' c):c=0:=by
 rcases h with ⟨h,_⟩ | ⟨m,cd,hm,rfl,hp⟩
 ·omega
 obtain rfl:m=144:=zj
 have hp:PX K st N 0 0 3 K' st' N' cd:=hp
 have hall:aX (K 0)= [x4]:=by
  have hp:(aX (K 0)).Perm [x4]:=(List.perm_ext_iff_of_nodup hR.num.nodup (show [x4].Nodup from uJ _ _)).2 (fun z=>by rw [hK];simp)
  exact List.perm_singleton.1 hp
 have hs:No (K 0) [x4]:=⟨by rw [hall],uJ _ _⟩
 have hlen:(K 0 0).length=1:=by
  rw [<-Lf hs hR (i:=0) zj]
  rfl
 rcases hp with ⟨_,_,qs,x,y,T,y0,cd0,yy,hq,hx,hy,hT,hnx,hdo⟩ | ⟨h,_⟩ | ⟨h,_⟩ | ⟨h,_⟩ | ⟨h,_⟩ | ⟨h,_⟩ | ⟨h,_⟩ | ⟨h,_⟩
 all_goals first | omega | skip
 rw [hall] at hq hnx hT
 have hT1:T=1:=by
  have h1:(1:Int)<=T:=hT.1 x4 zq
  rcases hT.2.1 with q | ⟨z,hz,q⟩
  ·omega
  rw [jS.1 hz] at q
  exact q.symm
 subst hT1
 have hqs:=ii hq DY
 subst hqs
 have hx0:x=4:=by
  have:some (4:Int)=some x:=hx
  cases this;rfl
 have hy0:y=0:=by
  have:some (0:Int)=some y:=hy
  cases this;rfl
 subst hx0 hy0
 rw [hlen] at hnx
 have e:=EG hnx OB
 cases e
 have ha:(dW (st 0) x8).1=0:=by rw [hst];exact NB
 rcases hdo with ⟨h,_⟩ | ⟨_,h,_⟩ | ⟨_,_,rfl,_⟩
 ·exact absurd rfl h
 ·exact absurd ha h
 rfl
theorem KL (hK:K 0=fun _=>[]) (hst:st 0=([],false,false,0)) (h:RX K st N [0,-1,144] K' st' N' cs):cs= [0,-1,0]:=by
 obtain ⟨K1,st1,N1,c,cs1,h1,⟨K2,st2,N2,c2,cs2,h2,⟨K3,st3,N3,c3,cs3,h3,⟨rfl,_⟩,rfl⟩,rfl⟩,rfl⟩:=h
 obtain ⟨rfl,hR,hm,hs⟩:=Ko hK hst h1
 rcases h2 with ⟨_,rfl,rfl,rfl,rfl⟩ | ⟨m,cd,hm,_⟩
 ·rw [MU hR hm hs h3]
 omega
end
section
open Go Go.RowKit Go.Lib Go.Sort Go.Maps
open scoped Classical
theorem Errs.up {B':Nat} (h:Errs B ad w) (hB:B<=B') (hs:B'<=w.heap.size):Errs B' ad w:=
 ⟨h.c0,h.c1,h.c2,h.c3,h.c4,h.c5,h.c6,h.c7,h.c8,h.c9,h.c10,h.c11,h.et,fun i hi=>jW (h.lt i hi) hB,h.row,h.ne,jM h.big hB,hs⟩
theorem MeshS.wardNew {w':World} (h:MeshS gd B n bm K st N w) (hb:Below w.heap.size w w') (hB:B<=w.heap.size):MeshS (fun k=>if w.heap.size<=k/\k<w'.heap.size then w'.heap[k]? else gd k) B n bm K st N w':=by
 obtain ⟨ow,pv,fv,bp,br,d,dv,c,hm⟩:=h
 have hm':=hm.still (S:=fun _=>False) (w':=w') (show Keeps (fun _=>False) w w' from ⟨hb.os,hb.tape,hb.output,hb.size,fun k hk _=>hb.block k hk⟩) (fun k q=>q.elim)
 refine MeshS.less ⟨_,pv,fv,bp,br,d,dv,c,hm'.wardOld (fun k=>w.heap.size<=k/\k<w'.heap.size) (fun k q=>⟨hm.high k q.1,jM hB q.1,q.2⟩)⟩ (fun k o e=> ?_)
 by_cases q:w.heap.size<=k/\k<w'.heap.size
 ·rw [if_pos q] at e |-;exact e
 rw [if_neg q] at e |-;exact e
def sR (a b c:Int):Obj:=.cells #[.int .i64 a,.int .i64 b,.int .i64 c] 3 (0,0)
theorem EO {x:Int} (h:w.heap[b]? =some (sR x y z)):InRow eL w (some ⟨b,0,none⟩) [x,y,z]:=by
 unfold sR at h
 refine .inr ⟨b,0,rfl,fun j u hj=> ?_⟩
 match j,hj with
 | 0,hj=>simpa [World.cell?,h,aB,eL] using hj
 | 1,hj=>simpa [World.cell?,h,aB,eL] using hj
 | 2,hj=>simpa [World.cell?,h,aB,eL] using hj
 | n+3,hj=>simp [aB,eL] at hj
theorem Bf {x:Int} (h:w.heap[b]? =some (sR x y z)):NumsAt w b 0 [x,y,z]:=by
 unfold sR at h
 intro j u hj
 match j,hj with
 | 0,hj=>simp at hj;subst hj;simp [World.cell?,h]
 | 1,hj=>simp at hj;subst hj;simp [World.cell?,h]
 | 2,hj=>simp at hj;subst hj;simp [World.cell?,h]
 | n+3,hj=>simp at hj
def FB (S:Nat) (w1 W:World) (e:Ending) (w':World):Prop:=∃ao cap,e= .returned (.slice ao 3 cap)/\InRow eL w' ao [0,-1,0]/\(∀k o,w1.heap.size<=k->W.heap[k]? =some o->w'.heap[k]? =some o)/\Below S W w'
theorem lf (h:w.ownsRow B 3 1 v cs.length (aB eL cs)):∃ao cap,v= .slice ao cs.length cap:=by
 rcases h.2 with ⟨h1,h2⟩ | ⟨g,cap',cur,hv,_⟩
 ·exact ⟨none,0,by rw [h1,h2]⟩
 exact ⟨_,_,hv⟩
theorem EZ (w1 W:World) (b:Nat) (h:MeshS (fun _=>none) S 3 bm K st [] w1) (hK:∀r,r<3->K r=fun _=>[]) (hst:∀r,r<3->st r=([],false,false,0)) (hS:S<=w1.heap.size) (hE:EnvM S ad w1) (hEr:Errs S ad w1) (hb:Below w1.heap.size w1 W) (hbb:w1.heap.size<=b) (hblk:W.heap[b]? =some (sR 0 (-1) 144)):
  Calls prog 16 #[.pointer (some ⟨bm,0,none⟩),.slice (some ⟨b,0,none⟩) 3 3] W (FB S w1 W):=by
 have hI:MeshI 3 0 [] K (fun _=>[]) st []:=by
  refine ⟨(MInv.start 3 _).congr (fun r hr x=>by rw [iY (hK r hr)]),fun r hr=>by rw [hst r hr];exact rU,fun x hx=>zP,fun r hr=>by rw [hK r hr];exact gp⟩
 have hlt:b<W.heap.size:=(jJ.1 hblk).1
 have hrun:=tN (B:=S) (ad:=ad) W (some ⟨b,0,none⟩) 3 [0,-1,144] (fun x hx=>by simp at hx;unfold Cc;omega) (.inr ⟨b,0,sR 0 (-1) 144,rfl,by rw [if_pos ⟨hbb,hlt⟩];exact hblk,fun V hV=>Bf hV⟩) (h.wardNew hb hS) hI zq (hE.later hb) (hEr.later hb) zq zq
 refine hrun.mono ?_
 rintro e w' ⟨v,cs,G',K',D',st',N',rfl,H1,H2⟩
 obtain ⟨hq,hbw,_,_⟩:=H1.o
 obtain ⟨hx,_⟩:=H2.o
 have hcs:=KL (hK 0 zj) (hst 0 zj) hx
 subst hcs
 obtain ⟨ao,cap,rfl⟩:=lf hq.2.1
 refine ⟨ao,cap,rfl,gD (B:=S) hq.2.1,fun k o hk ho=>hq.mesh.held (q:=k) (o:=o) ?_,hbw⟩
 show (if _ then _ else _)=_
 rw [if_pos ⟨hk,(jJ.1 ho).1⟩]
 exact ho
theorem DN (w:World) (hE0:EnvM B ad w) (hEr0:Errs B ad w):
  Calls prog 6 #[] w fun e w'=>e= .returned (.bool true)/\Below w.heap.size w w':=by
 obtain ⟨S,hS⟩:=ze w.heap.size
 have hE:EnvM S ad w:=by rw [hS.o];exact hE0.up hE0.t.env.size zg
 have hEr:Errs S ad w:=by rw [hS.o];exact hEr0.up hEr0.size zg
 have hnew:=ou (B:=S) w 3 zj zj yL
 have HE:Aside (EnvM S ad w/\Errs S ad w):=⟨hE,hEr⟩
 clear hE hE0 hEr hEr0
 go_enter func6,ntmps6
 go_wp2_with fail
 refine hnew.mono ?_
 clear hnew
 rintro e w1 ⟨bm,rfl,H1⟩
 have HB1:Aside (Below S w w1/\S<=w1.heap.size):=by
  obtain ⟨K0,st0,hm1,hb1,hK0,hst0,hbm⟩:=H1.o
  rw [hS.o]
  exact ⟨hb1,hb1.size⟩
 have HR:Aside (∀W b,Below w1.heap.size w1 W->w1.heap.size<=b->W.heap[b]? =some (sR 0 (-1) 144)->Calls prog 16 #[.pointer (some ⟨bm,0,none⟩),.slice (some ⟨b,0,none⟩) 3 3] W (FB S w1 W)):=by
  obtain ⟨K0,st0,hm1,hb1,hK0,hst0,hbm⟩:=H1.o
  exact fun W b h1 h2 h3=>EZ w1 W b hm1 hK0 hst0 HB1.o.2 (HE.o.1.mono HB1.o.1) (HE.o.2.mono HB1.o.1) h1 h2 h3
 clear H1
 have hbW:Below w1.heap.size w1 (w1.alloc (.cells #[.int .i64 0,.int .i64 (-1),.int .i64 144] 3)):=zh w1 _
 have hrun:=HR.o _ w1.heap.size hbW zg (heap_alloc_new w1 _)
 have HW:Aside (Below S w1 (w1.alloc (.cells #[.int .i64 0,.int .i64 (-1),.int .i64 144] 3))):=hbW.mono HB1.o.2
 clear hbW HR
 go_wp2_with fail
 refine hrun.mono ?_
 clear hrun
 rintro e w2 ⟨ao,cap,rfl,hrow,hheld,hb2⟩
 have hbX:Below w2.heap.size w2 (w2.alloc (.cells #[.int .i64 0,.int .i64 (-1),.int .i64 0] 3)):=zh w2 _
 have hsame:=kK (w2.alloc (.cells #[.int .i64 0,.int .i64 (-1),.int .i64 0] 3)) ao (some ⟨w2.heap.size,0,none⟩) cap 3 [0,-1,0] zq (hrow.later hbX) (EO (heap_alloc_new w2 _))
 have H2:Aside (Below S w (w2.alloc (.cells #[.int .i64 0,.int .i64 (-1),.int .i64 0] 3))/\S<=w2.heap.size):=by
  have q:=(HB1.o.1.trans HW.o).trans hb2
  have q2:S<=w2.heap.size:=by rw [hS.o];exact q.size
  exact ⟨q.trans (hbX.mono q2),q2⟩
 clear hrow hheld hb2 hbX HW
 go_wp2_with fail
 refine hsame.mono ?_
 clear hsame
 rintro e w3 ⟨rfl,hb3⟩
 have H3:Aside (Below S w w3):=H2.o.1.trans (hb3.mono (by simp;have:=H2.o.2;omega))
 clear hb3
 go_wp2
 go_ret
 exact ⟨rfl,by rw [<-hS.o];exact H3.o⟩
end
section
open Go Go.RowKit Go.Lib Go.Sort Go.Maps
open scoped Classical
theorem AH (h:MeshI 3 i G K D st N) (x:OpX):x∈G↔∃r,r<3/\x∈aX (K r):=by
 constructor
 ·intro hx
  obtain ⟨r,hr,_,hd⟩:=h.inv.own x hx
  exact ⟨r,hr,h.inv.disk r hr x hd⟩
 rintro ⟨r,hr,hx⟩
 exact h.inv.sub r hr x hx
theorem Fv {G':List OpX} {L':Nat->Rws} {E D' E':Nat->List OpX} {s' t':Nat->DSt} (hS:SameM K L s t N M) (h1:MeshI 3 i G K D s N) (h2:MeshI 3 i G' L E t M) (k1:MeshI 3 i G K' D' s' []) (k2:MeshI 3 i G' L' E' t' []) (a1:∀r,r<3->∀x∈G,x∈aX (K' r)) (a2:∀r,r<3->∀x∈G',x∈aX (L' r)) {p:Nat} (hp:p<3) (hq:q<3):(aX (K' p)).Perm (aX (L' q)):=by
 refine (List.perm_ext_iff_of_nodup (k1.rows p hp).num.nodup (k2.rows q hq).num.nodup).2 (fun x=> ?_)
 have hG:x∈G↔x∈G':=by
  rw [AH h1,AH h2]
  constructor
  ·rintro ⟨r,hr,hx⟩;exact ⟨r,hr,by rw [<-hS.all hr];exact hx⟩
  rintro ⟨r,hr,hx⟩;exact ⟨r,hr,by rw [hS.all hr];exact hx⟩
 exact ⟨fun hx=>a2 q hq x (hG.1 (k1.inv.sub p hp x hx)),fun hx=>a1 p hp x (hG.2 (k2.inv.sub q hq x hx))⟩
theorem Ad (hR:RowsK R) (hR':RowsK R') (hp:(aX R).Perm (aX R')) (h:ae (aX R) ys) (h':ae (aX R') zs):ys=zs:=by
 have key:∀ {R:Rws} {ys:List OpX},RowsK R->ae (aX R) ys->ys.Pairwise (fun a b=>CLt (stO a) (stO b)):=fun {R ys} hR hs=>by
  exact kd6
 exact kF (key hR h) (key hR' h') (fun x=>by rw [(bG h).1.mem_iff,(bG h').1.mem_iff,hp.mem_iff])
theorem AW (hK:∀r,r<3->K r=fun _=>[]) (hL:∀r,r<3->L r=fun _=>[]) (hs:∀r,r<3->s r=([],false,false,0)) (ht:∀r,r<3->t r=([],false,false,0)):SameM K L s t [] []/\WfM K []:=
 ⟨⟨fun r hr j hj=>by rw [hK r hr,hL r hr],fun r hr=>by rw [hs r hr,ht r hr],rfl⟩,fun q hq=>by rw [hK q hq];exact gp,fun x hx=>zP⟩
theorem sU (hK:∀r,r<3->K r=fun _=>[]) (hst:∀r,r<3->st r=([],false,false,0)):MeshI 3 0 [] K (fun _=>[]) st []:=
 ⟨(MInv.start 3 _).congr (fun r hr x=>by rw [iY (hK r hr)]),fun r hr=>by rw [hst r hr];exact rU,fun x hx=>zP,fun r hr=>by rw [hK r hr];exact gp⟩
theorem mG (w:World) (la:Option Addr) (lc:Nat) (xs:List Int) (hin:InRow eL w la xs) (hnil:la=none->lc=0) (hn:xs.length<=1000):
  ∃so cap w',(Builtin.append_ #[42,42] 42 #[.slice none 0 0,.slice la xs.length lc]).run prog w= .ok (.slice so xs.length cap) w'/\Aside (Below w.heap.size w w'/\xs.length<=cap/\(xs= []\/∃g ob,so=some ⟨g,0,none⟩/\w.heap.size<=g/\w'.heap[g]? =some ob/\∀W:World,W.heap[g]? =some ob->NumsAt W g 0 xs)):=by
 obtain ⟨i0,hi0,hz0,hz1,hz2⟩:=info_parts GW
 have h0:w.ownsRow w.heap.size 3 1 (.slice none 0 0) 0 []:=vD _ _ _ _
 have key:∃v' w',(Builtin.append_ #[42,42] 42 #[.slice none 0 0,.slice la xs.length lc]).run prog w= .ok v' w'/\w'.ownsRow w.heap.size 3 1 v' xs.length (aB eL xs)/\w.grownBy w' none:=by
  cases la with
  | none=>
   have hx:xs= []:=by
    rcases hin with h | ⟨_,_,h,_⟩
    ·exact h
    cases h
   subst hx
   rw [hnil rfl]
   exact ⟨_,w,run_append_owned_none w w.heap.size _ _ _ i0 1 underlying42 hi0 _ 0 [] h0,by simpa [aB] using h0,⟨rfl,rfl,rfl,jL _,fun _ _ _=>rfl⟩⟩
  | some a=>
   obtain ⟨v',w',h1,h2,h3,-⟩:=run_append_own (P:=prog) w w.heap.size 42 42 3 i0 _ 1 8 underlying42 hi0 hz0 hz1 hz2 rfl zj (.slice none 0 0) 0 [] h0 a xs.length lc (aB eL xs) (by rw [aa (k:=1) (fun _=>rfl)]) (fun j u hj=>by
    rcases hin with h | ⟨b,o,h,hcell⟩
    ·subst h;simp [aB] at hj
    ·cases h
     rw [Addr.add_lit]
     exact hcell j u hj) (fun u hu=>by
    unfold aB eL at hu
    obtain ⟨x,_,hx⟩:=List.mem_flatMap.1 hu
    rw [jS.1 hx];rfl) zu zj zg
   refine ⟨v',w',h1,?_,h3⟩
   simpa using h2
 obtain ⟨v',w',hrun,hown,hgrow⟩:=key
 have hb:Below w.heap.size w w':=(jN _ w).grown hgrow zg (by intro k hk;cases hk)
 rcases id hown.2 with ⟨h1,h2⟩ | ⟨g,cap',cur,hv,hg,hc,hle,_⟩
 ·refine ⟨none,0,w',?_,hb,zj,.inl (ve.1 h2)⟩
  rw [hrun,h1,h2]
 refine ⟨some ⟨g,0,none⟩,cap',w',by rw [hrun,hv],hb,zj,.inr ⟨g,_,rfl,hg,hc,fun W hW i x hx=> ?_⟩⟩
 rw [hv] at hown
 have hl:i<xs.length*1:=by have:=(jI.1 hx).1;omega
 have e:=vi (w:=w') (w':=W) (a:=⟨g,0+i,none⟩) (hW.trans hc.symm)
 rw [e,vh,hown.cellAt i hl]
 have:(aB eL xs)[i]? =some (.int .i64 x):=by
  have h2:=bd (enc:=eL) (k:=1) (fun _=>rfl) hx (show 0<1 by omega)
  simpa [eL] using h2
 exact this
section
variable {X:Nat→Prop} {Ba Bb ba bb:Nat} {Ka Kb:Nat→Rws} {sa sb:Nat→DSt} {Na Nb:List aO}
def PO (Ba Bb ba bb:Nat) (Ka:Nat->Rws) (sa:Nat->DSt) (Na:List aO) (Kb:Nat->Rws) (sb:Nat->DSt) (Nb:List aO) (i:Nat) (xs:List Int) (w:World) (e:Ending) (w':World):Prop:=∃(ao:Option Addr) (cap:Nat) (cs:List Int) (G':List OpX) (K':Nat->Rws) (D':Nat->List OpX) (st':Nat->DSt) (N':List aO),e= .returned (.slice ao xs.length cap)/\Aside (TwoAt (fun k=>(Value.slice ao xs.length cap).ownBlock=some k) Ba Bb ba bb K' st' N' Kb sb Nb w'/\Below Ba w w'/\MeshI 3 (i+xs.length) G' K' D' st' N'/\N'.length<=30/\w'.ownsRow Ba 3 1 (.slice ao xs.length cap) cs.length (aB eL cs)/\RX Ka sa Na xs K' st' N' cs/\cs.length=xs.length)
theorem Ii (w:World) (h:TwoAt X Ba Bb ba bb Ka sa Na Kb sb Nb w) (hB:Ba<=Bb) (so:Option Addr) (cap:Nat) (xs:List Int) (hx:∀x∈xs,Cc x) (hs:xs= []\/∃g ob,so=some ⟨g,0,none⟩/\X g/\w.heap[g]? =some ob/\∀W:World,W.heap[g]? =some ob->NumsAt W g 0 xs) (hI:MeshI 3 i G Ka D sa Na) (hN:Na.length<=30) (hE:EnvM Ba ad w) (hEr:Errs Ba ad w) (hi:i+xs.length<=155) (hcap:xs.length<=cap):
  Calls prog 16 #[.pointer (some ⟨ba,0,none⟩),.slice so xs.length cap] w (PO Ba Bb ba bb Ka sa Na Kb sb Nb i xs w):=by
 obtain ⟨gd,hm,hgX,hnext⟩:=h.left hB
 have hrun:=tN (B:=Ba) (ad:=ad) w so cap xs hx (hs.imp id (fun ⟨g,ob,e1,e2,e3,e4⟩=>⟨g,0,ob,e1,by rw [hgX g e2];exact e3,e4⟩)) hm hI hN hE hEr hi hcap
 refine hrun.mono ?_
 rintro e w' ⟨v,cs,G',K',D',st',N',rfl,H1,H2⟩
 obtain ⟨hQ,hbw,hI',hN'⟩:=H1.o
 obtain ⟨hRX,hcl⟩:=H2.o
 obtain ⟨ao,cap',rfl⟩:=lf hQ.2.1
 rw [hcl] at hQ |-
 refine ⟨ao,cap',cs,G',K',D',st',N',rfl,hnext w' _ K' st' N' _ hbw (fun k o e=> ?_) hQ.1 (fun k q=>⟨?_,.inr (hQ.2.2 k q)⟩),hbw,hI',hN',by rw [hcl];have:=hQ.2.1;rw [hcl] at this;exact this,hRX,hcl⟩
 ·unfold gdQ
  rw [if_neg (fun q=>by rw [hQ.2.2 k q] at e;cases e)]
  exact e
 obtain ⟨o,ho⟩:=iC hQ.2.1 q
 exact ⟨o,by unfold gdQ;rw [if_pos q];exact ho⟩
def PG (X:Nat->Prop) (Ba Bb ba bb:Nat) (Ka:Nat->Rws) (sa:Nat->DSt) (Na:List aO) (Kb:Nat->Rws) (sb:Nat->DSt) (Nb:List aO) (i:Nat) (xs:List Int) (w:World) (e:Ending) (w':World):Prop:=∃(ao:Option Addr) (cap:Nat) (cs:List Int) (G':List OpX) (K':Nat->Rws) (D':Nat->List OpX) (st':Nat->DSt) (N':List aO),e= .returned (.slice ao xs.length cap)/\Aside (TwoAt X Ba Bb ba bb Ka sa Na K' st' N' w'/\Below Bb w w'/\MeshI 3 (i+xs.length) G' K' D' st' N'/\N'.length<=30/\w'.ownsRow Bb 3 1 (.slice ao xs.length cap) cs.length (aB eL cs)/\RX Kb sb Nb xs K' st' N' cs/\cs.length=xs.length/\∀k o,X k->w.heap[k]? =some o->w'.heap[k]? =some o)
theorem DM (w:World) (h:TwoAt X Ba Bb ba bb Ka sa Na Kb sb Nb w) (so:Option Addr) (cap:Nat) (xs:List Int) (hx:∀x∈xs,Cc x) (hs:xs= []\/∃g ob,so=some ⟨g,0,none⟩/\X g/\Bb<=g/\w.heap[g]? =some ob/\∀W:World,W.heap[g]? =some ob->NumsAt W g 0 xs) (hI:MeshI 3 i G Kb D sb Nb) (hN:Nb.length<=30) (hE:EnvM Bb ad w) (hEr:Errs Bb ad w) (hi:i+xs.length<=155) (hcap:xs.length<=cap):
  Calls prog 16 #[.pointer (some ⟨bb,0,none⟩),.slice so xs.length cap] w (PG X Ba Bb ba bb Ka sa Na Kb sb Nb i xs w):=by
 have hXlt:∀k,X k->Ba<=k/\k<w.heap.size:=fun k q=>by
  obtain ⟨_,_,_,_,_,_,_,_,_,_,_,_,_,_,_,_,_,_,_,hX⟩:=h
  exact ⟨(hX k q).1,(hX k q).2.1⟩
 obtain ⟨gd,hm,hgX,hnext⟩:=h.right
 have hrun:=tN (B:=Bb) (ad:=ad) w so cap xs hx (hs.imp id (fun ⟨g,ob,e1,e2,e5,e3,e4⟩=>⟨g,0,ob,e1,by rw [hgX g e2 e5];exact e3,e4⟩)) hm hI hN hE hEr hi hcap
 refine hrun.mono ?_
 rintro e w' ⟨v,cs,G',K',D',st',N',rfl,H1,H2⟩
 obtain ⟨hQ,hbw,hI',hN'⟩:=H1.o
 obtain ⟨hRX,hcl⟩:=H2.o
 obtain ⟨ao,cap',rfl⟩:=lf hQ.2.1
 rw [hcl] at hQ |-
 refine ⟨ao,cap',cs,G',K',D',st',N',rfl,hnext w' _ K' st' N' _ hbw (fun k o e=>e) hQ.mesh (fun k q=>⟨(hXlt k q).1,jW (hXlt k q).2 hbw.size,.inl q⟩),hbw,hI',hN',by rw [hcl];have:=hQ.2.1;rw [hcl] at this;exact this,hRX,hcl,fun k o q ho=>BQ hbw hQ.mesh ho (fun q2=>by rw [hgX k q q2];exact ho)⟩
def OT (Ba Bb ba bb i:Nat) (G:List OpX) (Kb:Nat->Rws) (sb:Nat->DSt) (Nb:List aO) (w:World) (e:Ending) (w':World):Prop:=∃(K':Nat->Rws) (D':Nat->List OpX) (st':Nat->DSt),e= .returned (.bool true)/\Aside (TwoAt (fun _=>False) Ba Bb ba bb K' st' [] Kb sb Nb w'/\Below Ba w w'/\MeshI 3 i G K' D' st' []/\∀r,r<3->∀x∈G,x∈aX (K' r))
theorem EB (w:World) (h:TwoAt X Ba Bb ba bb Ka sa Na Kb sb Nb w) (hB:Ba<=Bb) (hI:MeshI 3 i G Ka D sa Na) (hE:EnvM Ba ad w) (hi:i<=155):
  Calls prog 17 #[.pointer (some ⟨ba,0,none⟩)] w (OT Ba Bb ba bb i G Kb sb Nb w):=by
 obtain ⟨gd,hm,_,hnext⟩:=h.left hB
 exact kf8
def Oo (Ba Bb ba bb i:Nat) (G:List OpX) (Ka:Nat->Rws) (sa:Nat->DSt) (Na:List aO) (w:World) (e:Ending) (w':World):Prop:=∃(K':Nat->Rws) (D':Nat->List OpX) (st':Nat->DSt),e= .returned (.bool true)/\Aside (TwoAt (fun _=>False) Ba Bb ba bb Ka sa Na K' st' [] w'/\Below Bb w w'/\MeshI 3 i G K' D' st' []/\∀r,r<3->∀x∈G,x∈aX (K' r))
theorem BJ (w:World) (h:TwoAt X Ba Bb ba bb Ka sa Na Kb sb Nb w) (hI:MeshI 3 i G Kb D sb Nb) (hE:EnvM Bb ad w) (hi:i<=155):
  Calls prog 17 #[.pointer (some ⟨bb,0,none⟩)] w (Oo Ba Bb ba bb i G Ka sa Na w):=by
 obtain ⟨gd,hm,_,hnext⟩:=h.right
 exact kf8
