import Derived.Test.YtjclejjkganhfaaGreatDoorSA05
import Derived.Test.YtjclejjkganhfaaGreatDoorSA21
import Derived.Test.YtjclejjkganhfaaGreatDoorSA30
set_option linter.unusedSimpArgs false
set_option linter.unusedVariables false
set_option maxRecDepth 100000
set_option maxHeartbeats 64000000
namespace Go.Proofs.YtjclejjkganhfaaGreatDoor
open Go.Proofs.Tryz
section
open RowKit Lib Go.Sort Maps
open scoped Classical
section
variable {gd:Nat→Option Obj} {B:Nat} {ad:Nat→Addr} {bm i:Nat} {G:List OpX} {K:Nat→Rws} {D:Nat→List OpX} {st:Nat→DSt} {N:List nO} {w:World}
def DoP(gd:Nat->Option Obj)(B bm i:Nat)(K:qH)(st:qD)(N:qJ)(w:qW)(r:Nat)(x:OpX)(y:OpX)(cd:Nat)(W:qW):Prop:=∃K' st',Got gd B bm i w K' st' N W/\DoS K st N r x K' st' N (if cd=0 then Lib.itoa (idO y) else sg cd)/\cd<=11/\(cd=0->mz y=0/\y.1<=1000)
theorem DoP.later{r}{x y}{cd}{W W'}(h:DoP gd B bm i K st N w r x y cd W)(hb:qL W W'):DoP gd B bm i K st N w r x y cd W':=by
 obtain ⟨K',st',h1,h2⟩:=h;exact ⟨K',st',h1.later hb,h2⟩
theorem Cl(h:E8 gd B ad bm i G K D st N w):B<=w.heap.size:=by
 obtain ⟨_,_,_,_,_,_,_,_,hm⟩:=h.D8;exact hm.l9
theorem zac{A}{T}{i n}{x y0 y}{cd0 cd a}{K K'}{st st'}(h:Fr A T i n x (y0,cd0))(hd:DoX K K' st st' a y0 cd0 y cd):cd<=11:=by
 have h1:=zdd h
 rcases hd with ⟨_,e,_⟩ | ⟨_,_,e,_⟩ | ⟨_,_,e,_⟩
 ·rw [e];exact h1
 ·rw [e];exact Pg _ _
 rw [e];omega
theorem zc3(h:E8 gd B ad bm i G K D st N w){W}(hb:qL w W)(r:Nat)(hr:r<3)(x)(hx:zdU x):
  qC 81 #[qP bm,qN r,mH x] W (zbB w.heap.size (fun k=>w.heap.size<=k\/gd k≠none) ad (DoP gd B bm i K st N w r x) W):=by
 have hm:=h.D8.u zg hb;have hB:=Cl h;have hW:=h.G6.later hb;refine (zdX W (r:Int) x hm h.G9 h.L8 hW qK ⟨zj,zj⟩ (fun r' y0 cd0=>∃T,oA (lY (K r')) T/\Fr (lY (K r')) T r' (K r' r').length x (y0,cd0)) (fun U' c0 p b0 d0 r' hr' e' hP hR hE'=>zcN U' c0 p b0 d0 r' (K r') x hP hR hE' zj (by have:=h.G9.y9 hr';have:=h.X7;omega) hx)).mono ?_;rintro e w' ⟨y,cd,G',K',D',st',N',rfl,H⟩;obtain ⟨h1,h2,h3,h4,_,h6,h7,h8,rfl⟩:=H.o;obtain ⟨y0,cd0,⟨T,hT,cz⟩,_,hd⟩:=h7 r rfl hr
 have dC:cd=0->mz y=0/\y.1<=1000:=fun hc=>by
  rcases h6 with ⟨q,_⟩ | ⟨_,e2,_⟩
  ·exact absurd hc q
  have hy:y∈G':=by rw [e2];simp
  have:=h3.G9.time y hy;have:=h.X7;exact ⟨h3.G9.ok y hy,zj⟩
 refine ⟨y,cd,rfl,fun hc=>(dC hc).1,⟨hm.ab6 h1 h2.size,fun w'' hk=>⟨K',st',⟨G',D',h1.abD h.gl hk,((hb.mono hB).trans h2).trans ?_,h3,h4⟩,⟨rfl,T,y0,cd0,y,cd,hT,cz,hd,rfl⟩,zac cz hd,dC⟩⟩⟩;exact ⟨hk.os,hk.tape,hk.output,hk.size,fun k hkB=>hk.block k (uY hkB (uQ hB (uQ hb.size h2.size))) (fun q=>by have:=q.1;omega)⟩
def aan(gd:Nat->Option Obj)(B bm i:Nat)(w:qW)(Q:(Nat->Rws)->(Nat->DSt)->List nO->Nat->Prop)(cd:Nat)(W:qW):Prop:=cd<=11/\∃K' st' N',Got gd B bm i w K' st' N' W/\Q K' st' N' cd
theorem aan.later{Q:(Nat->Rws)->(Nat->DSt)->List nO->Nat->Prop}{cd}{W W'}(h:aan gd B bm i w Q cd W)(hb:qL W W'):aan gd B bm i w Q cd W':=by
 obtain ⟨hc,K',st',N',h1,h2⟩:=h;exact ⟨hc,K',st',N',h1.later hb,h2⟩
theorem pB(h:E8 gd B ad bm i G K D st N w){W w'}(hb:qL w W){K'}{st'}{N'}{G'}{D'}(h1:p9 (gdN gd w.heap.size W) B 3 bm K' st' N' w')(h2:Below B W w')(h3:r9 3 i G' K' D' st' N')(h4:N'.length<=30){Q:(Nat->Rws)->(Nat->DSt)->List nO->Nat->Prop}{cd}(hc:cd<=11)(hQ:Q K' st' N' cd):
  Aside (D9 (fun k=>w.heap.size<=k\/gd k≠none) W w'/\aan gd B bm i w Q cd w'):=
 ⟨(h.D8.u zg hb).ab6 h1 h2.size,hc,K',st',N',⟨G',D',h1.acp h.gl,(hb.mono (Cl h)).trans h2,h3.up zj,h4⟩,hQ⟩
theorem Xp(h:E8 gd B ad bm i G K D st N w){W}(hb:qL w W)(r s:Nat)(hr:r<3)(hs:s<3):
  qC 39 #[qP bm,qN r,qN s] W (ox (fun k=>w.heap.size<=k\/gd k≠none) ad (aan gd B bm i w (fun K' st' N' cd=>(r=s/\cd=2/\K'=K/\st'=st/\N'=N)\/(r≠s/\zdw K st N r s K' st' N' cd))) W):=by
 refine (St W (r:Int) (s:Int) (h.D8.u zg hb) (h.G6.later hb) (fun q hq=>by have:=h.G9.y9 hq;have:=h.X7;omega) ⟨zj,zj⟩ ⟨zj,zj⟩).mono ?_;rintro e w' ⟨v,N',rfl,H,HV⟩;obtain ⟨h1,h2,h3⟩:=H.o;have hv:=HV.o;refine ⟨Lo 3 N.length (r:Int) (s:Int),by rw [hv],?_⟩
 have hle:Lo 3 N.length (r:Int) (s:Int)<=11:=by unfold Lo;(repeat' split)<;>omega
 rcases h3 with ⟨e1,h30,a,b,ha,hb',hab,ea,eb,e2⟩ | ⟨e2,hn⟩
 ·obtain rfl:r=a:=by omega
  obtain rfl:s=b:=zj
  have hcd:Lo 3 N.length (r:Int) (s:Int)=0:=by
   unfold Lo;rw [if_pos ⟨⟨zj,zj⟩,⟨zj,zj⟩,zj⟩,if_pos h30]
  refine pB h hb h1 h2 (h.G9.L8 (fun u hu=> ?_)) zN hle (.inr ⟨hab,rfl,rfl,.inl ⟨h30,hcd,e2⟩⟩);rw [e2] at hu
  rcases uU.1 hu with q | q
  ·exact .inl q
  rw [Zc.1 q];exact .inr ⟨fun y hy=>absurd hy (by show ¬(y∈([]:qX));simp),uW _⟩
 subst e2;refine pB h hb h1 h2 h.G9 h.L8 hle ?_;by_cases q:r=s
 ·simp_all [Lo,if_neg]
 have h30:30<=N'.length:=by
  by_cases p:N'.length<30
  ·exact absurd ⟨⟨zj,zj⟩,⟨zj,zj⟩,zj,p⟩ hn
  omega
 refine .inr ⟨q,rfl,rfl,.inr ⟨h30,?_,rfl⟩⟩;unfold Lo
 grind
theorem VH(h:E8 gd B ad bm i G K D st N w){W}(hb:qL w W)(m:Nat)(hm:m<10000000):
  qC 43 #[qP bm,qN m] W (ox (fun k=>w.heap.size<=k\/gd k≠none) ad (aan gd B bm i w (fun K' st' N' cd=>zdu K st N m K' st' N' cd)) W):=by
 refine (Vr W (m:Int) (h.D8.u zg hb) (h.G6.later hb) h.L8 ⟨zj,zj⟩).mono ?_;rintro e w' (⟨hn,⟨t,v,rfl,hv⟩,H⟩ | ⟨k,hk,hkl,rfl,H⟩)
 ·exact ⟨6,by rw [hv],pB h hb H.o.1 H.o.2 h.G9 h.L8 zj ⟨rfl,rfl,.inl ⟨zj,rfl,rfl⟩⟩⟩
 obtain rfl:m=k:=zj;have hl:(N.eraseIdx m).length<=30:=uQ (List.length_eraseIdx_le _ _) h.L8;exact ⟨0,rfl,pB h hb H.o.1 H.o.2 (h.G9.L8 (fun u hu=>.inl (ZN hu))) hl zj ⟨rfl,rfl,.inr ⟨hkl,rfl,rfl⟩⟩⟩
theorem OT(h:E8 gd B ad bm i G K D st N w){W}(hb:qL w W)(m:Nat)(hm:m<10000000):
  qC 45 #[qP bm,qN m] W (ox (fun k=>w.heap.size<=k\/gd k≠none) ad (aan gd B bm i w (fun K' st' N' cd=>zdr K st N m K' st' N' cd)) W):=by
 refine (On W (m:Int) (h.D8.u zg hb) (h.G6.later hb) h.L8 ⟨zj,zj⟩).mono ?_;rintro e w' ⟨v,N',rfl,H,HQ⟩;obtain ⟨h1,h2,h3,h4⟩:=H.o;have hI:=h.G9.L8 (N':=N') (fun u hu=>.inl (h4 u hu))
 rcases HQ.o with ⟨hn,rfl,e2⟩ | ⟨k,x,hk,hx,⟨h30,rfl,e2⟩ | ⟨h30,rfl,e2⟩⟩
 ·exact ⟨6,rfl,pB h hb h1 h2 hI h3 zj ⟨rfl,rfl,.inl ⟨zj,rfl,e2⟩⟩⟩
 ·obtain rfl:m=k:=by omega
  exact ⟨0,rfl,pB h hb h1 h2 hI h3 zj ⟨rfl,rfl,.inr ⟨x,hx,.inl ⟨h30,rfl,e2⟩⟩⟩⟩
 obtain rfl:m=k:=zj;exact ⟨8,rfl,pB h hb h1 h2 hI h3 zj ⟨rfl,rfl,.inr ⟨x,hx,.inr ⟨h30,rfl,e2⟩⟩⟩⟩
theorem Je(h:E8 gd B ad bm i G K D st N w){W}(hb:qL w W)(m:Nat)(hm:m<10000000):
  qC 41 #[qP bm,qN m] W (ox (fun k=>w.heap.size<=k\/gd k≠none) ad (aan gd B bm i w (fun K' st' N' cd=>Wl K st N m K' st' N' cd)) W):=by
 refine (Cs W (m:Int) (h.D8.u zg hb) h.G9 h.L8 (h.G6.later hb) qK ⟨zj,zj⟩).mono ?_;rintro e w' ⟨v,K',D',st',N',rfl,H,HE⟩;obtain ⟨h1,h2,h3,h4,h5,h6⟩:=H.o;obtain ⟨cd,rfl,hc,hq⟩:=zcA h5 h6 HE.o;exact ⟨cd,rfl,pB h hb h1 h2 h3 h4 hc hq⟩
theorem zap(h:E8 gd B ad bm i G K D st N w){W}(hb:qL w W)(r:Nat)(hr:r<3)(m)(hm:0<=m/\m<10000000):
  qC 47 #[qP bm,qN r,qI m] W (ox (fun k=>w.heap.size<=k\/gd k≠none) ad (aan gd B bm i w (fun K' st' N' cd=>cd=JS (st r).2.1 m/\K'=K/\N'=N/\st'=lR st r (BH (st r) m))) W):=by
 refine (UW W (r:Int) m (h.D8.u zg hb) h.G9 h.L8 (h.G6.later hb) ⟨zj,zj⟩ ⟨zj,zj⟩).mono ?_;rintro e w' ⟨v,K',D',st',N',rfl,H,HQ⟩;obtain ⟨h1,h2,h3,h4,_⟩:=H.o;obtain ⟨e1,e2,h6⟩:=HQ.o
 rcases h6 with ⟨q,_⟩ | ⟨r',hr',er,rfl,e3⟩
 ·omega
 obtain rfl:r=r':=zj
 have hle:JS (st r).2.1 m<=11:=by unfold JS;(repeat' split)<;>omega
 exact ⟨_,rfl,pB h hb h1 h2 h3 h4 hle ⟨rfl,e1,e2,e3⟩⟩
theorem WT(h:E8 gd B ad bm i G K D st N w){W}(hb:qL w W)(r:Nat)(hr:r<3):
  qC 49 #[qP bm,qN r] W (ox (fun k=>w.heap.size<=k\/gd k≠none) ad (aan gd B bm i w (fun K' st' N' cd=>cd=0/\N'=N/\Ti K K' st st' r)) W):=by
 refine (TZ W (r:Int) (h.D8.u zg hb) h.G9 h.L8 (h.G6.later hb) qK ⟨zj,zj⟩).mono ?_;rintro e w' ⟨v,K',D',st',N',rfl,H,HQ⟩;obtain ⟨h1,h2,h3,h4,_⟩:=H.o;obtain ⟨e1,h6⟩:=HQ.o
 rcases h6 with ⟨q,_⟩ | ⟨r',hr',er,rfl,e3⟩
 ·omega
 obtain rfl:r=r':=zj;exact ⟨0,rfl,pB h hb h1 h2 h3 h4 zj ⟨rfl,e1,e3⟩⟩
theorem Ui(h:E8 gd B ad bm i G K D st N w){W}(hb:qL w W):
  qC 52 #[qP bm] W fun e w'=>e= .returned (.bool true)/\Aside (∃K' st',Got gd B bm i w K' st' [] w'/\UD K st K' st'):=by
 refine (Pf W zj (h.D8.later hb) h.G9 (h.G6.later hb) qK).mono ?_;rintro e w' ⟨K',D',st',rfl,H⟩;obtain ⟨h1,h2,h3,_,h5,h6⟩:=H.o;exact ⟨rfl,K',st',⟨G,D',h1,(hb.mono (Cl h)).trans h2,h3.up zj,zq⟩,h6,fun r q hr hq x hx=>h5 q hq x (h.G9.G9.sub r hr x hx)⟩
theorem zbn(h:E8 gd B ad bm i G K D st N w){W}(hb:qL w W):
  qC 55 #[qP bm] W fun e w'=>∃ao cap,e= .returned (.slice ao N.length cap)/\Aside (qL W w'):=
 Mu W (h.D8.later hb) h.L8 (fun x hx=>by have:=(h.G9.B8 x hx).2;have:=h.X7;omega)
end
structure J0 (B:Nat) (ad:qF) (m:Int) (w:qW):Prop where
 G6:E7 B ad w
 see:aaw m w
 err:w.cell? (qB 1)=some (.iface 437 (.pointer (some (ad 0))))
 txt:∀k,k<11->w.cell? (ad k)=some (.string ⟨(sg (k+1)).toArray⟩)/\(ad k).block<B
 low:13<=B
theorem J0.later{B}{ad}{m}{w w'}(h:J0 B ad m w)(hb:qL w w'):J0 B ad m w':=
 ⟨h.G6.later hb,h.see.later hb,mZ hb h.err,fun k hk=>⟨mu hb (h.txt k hk).1,(h.txt k hk).2⟩,h.low⟩
def zel(gd:Nat->Option Obj)(B:Nat)(ad:qF)(bm i:Nat)(w:qW)(P:(Nat->Rws)->(Nat->DSt)->List nO->qU->Prop)(told:qY)(ev:Value)(w':qW):Prop:=∃a K' st' N',Got gd B bm i w K' st' N' w'/\P K' st' N' a/\((ev= .nilIface/\told=⟨a.toArray⟩)\/∃cd,1<=cd/\cd<=11/\ev=eV ad cd/\told=⟨#[]⟩/\a=sg cd)
def aax(gd:Nat->Option Obj)(B:Nat)(ad:qF)(bm i:Nat)(w:qW)(P:(Nat->Rws)->(Nat->DSt)->List nO->qU->Prop)(e:Ending)(w':qW):Prop:=∃told ev,e=qT #[.string told,ev]/\Aside (zel gd B ad bm i w P told ev w')
section
variable {gd:Nat→Option Obj} {B:Nat} {ad:qF} {m:Int} {bm i:Nat} {G:qX} {K:qH} {D:Nat→List OpX} {st:qD} {N:qJ} {w W:qW}
theorem aax.mono{P P':(Nat->Rws)->(Nat->DSt)->List nO->qU->Prop}{e}{w'}(h:aax gd B ad bm i w P e w')(hp:∀K' st' N' a,P K' st' N' a->P' K' st' N' a):aax gd B ad bm i w P' e w':=by
 obtain ⟨told,ev,rfl,H⟩:=h;obtain ⟨a,K',st',N',h1,h2,h3⟩:=H.o;exact ⟨told,ev,rfl,a,K',st',N',h1,hp _ _ _ _ h2,h3⟩
theorem ro(h:E8 gd B ad bm i G K D st N w)(hb:qL w W){a b p g r:Nat}{v0 v1 v2}{x}(y)(hS:C3 W v0 v1 v2 x)(hV:Wz w.heap.size v0 v1)(hx:x.1= [(r:Int)])(hr:r<3)
  (ka:o9 W a 44 [ptB p]) (kb:o9 W b 89 [clV g []]) (kp:o9 W p 46 [ptB bm]) (ga:gd a≠none) (gb:gd b≠none) (gp:gd p≠none)
  (eg:∀args w,(callFunc g args).run prog w= .ok (.enter g args) w) (hy:zdU y) (hw:∀V,qL W V->Calls prog g #[.agg #[v0,v1,v2]] V (sP y V)):
  qC 80 #[.agg #[v0,v1,v2],ptB a,ptB b] W (aax gd B ad bm i w (fun K' st' N' s=>DoS K st N r y K' st' N' s)):=by
 refine (SM W w.heap.size (fun k=>w.heap.size<=k\/gd k≠none) ad (DoP gd B bm i K st N w r y) a b p bm g v0 v1 v2 x (r:Int) y hS hx ka kb kp ⟨.inr ga,.inr gb,.inr gp⟩ (fun k q=>.inl q) (fun k q=>.inl (hV k (.inl q))) hb.size eg hw (fun V ai=>zc3 h (zi hb ai) r hr y hy) (fun _ _ _ _ q hb'=>q.later hb') (fun y' V q he=> ?_)).mono ?_
 ·obtain ⟨K',st',⟨G',D',_,hB,_,_⟩,_,_,hz⟩:=q;have h1:=(hz rfl).2;have h2:=mP he;exact pP (idO y') (by unfold idO;omega) (by unfold idO;omega) V (h.G6.mono hB).t.is
 rintro e w' ⟨y',cd,hc,H⟩;obtain ⟨K',st',hG,hd,hle,hz⟩:=H.o
 rcases hc with ⟨rfl,rfl⟩ | ⟨hc,rfl⟩
 ·exact ⟨_,_,rfl,Lib.itoa (idO y'),K',st',N,hG,hd,.inl ⟨rfl,rfl⟩⟩
 rw [if_neg hc] at hd;exact ⟨_,_,rfl,sg cd,K',st',N,hG,hd,.inr ⟨cd,zj,hle,rfl,rfl,rfl⟩⟩
theorem Al{q s g}{v0 v1 v2}{x}{R:(Nat->Rws)->(Nat->DSt)->List nO->Nat->Prop}(hS:C3 W v0 v1 v2 x)(kq:o9 W q 93 [clV g [s]])
  (eg:∀args w,(callFunc g args).run prog w= .ok (.enter g args) w)
  (hg:∀V,qL W V->Calls prog g #[.agg #[v0,v1,v2],ptB s] V fun e w'=>∃cd,e= .returned (eV ad cd)/\Aside (aan gd B bm i w R cd w')):
  qC 84 #[.agg #[v0,v1,v2],ptB q] W (aax gd B ad bm i w (fun K' st' N' a=>∃cd,a=okE cd/\R K' st' N' cd)):=by
 refine (MK W ad (aan gd B bm i w R) q s g v0 v1 v2 x hS kq eg hg).mono ?_;rintro e w' ⟨cd,hc,H⟩;obtain ⟨hle,K',st',N',hG,hR⟩:=H.o
 rcases hc with ⟨rfl,rfl⟩ | ⟨hc,rfl⟩
 ·exact ⟨_,_,rfl,okE 0,K',st',N',hG,⟨0,rfl,hR⟩,.inl ⟨rfl,rfl⟩⟩
 exact ⟨_,_,rfl,okE cd,K',st',N',hG,⟨cd,rfl,hR⟩,.inr ⟨cd,zj,hle,rfl,rfl,if_neg hc⟩⟩
theorem CV(h:E8 gd B ad bm i G K D st N w)(hE:J0 B ad m w)(hb:qL w W){a b p g r:Nat}{v0 v1 v2}{x}(hr:r<3)(hS:C3 W v0 v1 v2 x)(hx:x.1[0]? =some (r:Int))
  (ka:o9 W a 44 [ptB p]) (kb:o9 W b 99 [clV g []]) (kp:o9 W p 46 [ptB bm])
  (eg:∀args w,(callFunc g args).run prog w= .ok (.enter g args) w) (P:qU->Prop)
  (hg:∀(V:qW) (c:Nat->Nat) (br:Nat),qL W V->aaw m V->L0 V c br (r:Int) (K r)->t7 (K r)->(lY (K r)).length<=300->C3 V v0 v1 v2 x->Calls prog g #[qP br,.agg #[v0,v1,v2]] V (mi (fun s V'=>∃t,s=⟨t.toArray⟩/\P t/\qL V V'))):
  qC 98 #[.agg #[v0,v1,v2],ptB a,ptB b] W (aax gd B ad bm i w (fun K' st' N' s=>P s/\K'=K/\st'=st/\N'=N)):=by
 obtain ⟨ow,pv,fv,bp,br,d,dv,c,hm⟩:=h.D8;have hl:=h.G9.y9 hr;have hf:=h.X7;refine (zbh W (fun s V'=>∃t,s=⟨t.toArray⟩/\P t/\qL w V') a b p bm (br r) g v0 v1 v2 x (r:Int) hS hx ka kb kp eg (fun V hV=>IV V r hr (hm.later (zi hb hV)) (h.G6.later (zi hb hV))) (fun V hV=> ?_)).mono ?_
 ·have ai:=zi hb hV;refine (hg V (c r) (br r) hV (hE.see.later ai) ((hm.later ai).G4 r hr).1.G4 (h.G9.D6 r hr) zj (hS.later hV)).mono ?_;rintro e w' ⟨s,rfl,H⟩;obtain ⟨t,rfl,hp,hbt⟩:=H.o;exact ⟨_,rfl,t,rfl,hp,zi ai hbt⟩
 rintro e w' ⟨s,rfl,H⟩;obtain ⟨t,rfl,hp,hbt⟩:=H.o;exact ⟨_,_,rfl,t,K,st,N,h.same hbt,⟨hp,rfl,rfl,rfl⟩,.inl ⟨rfl,rfl⟩⟩
theorem za7(h:E8 gd B ad bm i G K D st N w)(hb:qL w W){s p}{v0 v1 v2}{x}(hS:C3 W v0 v1 v2 x)(ks:o9 W s 44 [ptB p])(kp:o9 W p 46 [ptB bm]):
  qC 50 #[.agg #[v0,v1,v2],ptB s] W (aax gd B ad bm i w (fun K' st' N' a=>a= [121,101,115]/\N'= []/\UD K st K' st')):=by
 refine (zaN W (fun w'=>∃K' st',Got gd B bm i w K' st' [] w'/\UD K st K' st') s p bm v0 v1 v2 x hS ks kp (fun V hV=>Ui h (zi hb hV))).mono ?_;rintro e w' ⟨rfl,H⟩;obtain ⟨K',st',hG,hC⟩:=H.o;exact ⟨_,_,rfl,[121,101,115],K',st',[],hG,⟨rfl,rfl,hC⟩,.inl ⟨rfl,rfl⟩⟩
theorem zc2(h:E8 gd B ad bm i G K D st N w)(hb:qL w W){s p}{v0 v1 v2}{x}(hS:C3 W v0 v1 v2 x)(ks:o9 W s 44 [ptB p])(kp:o9 W p 46 [ptB bm]):
  qC 53 #[.agg #[v0,v1,v2],ptB s] W (aax gd B ad bm i w (fun K' st' N' a=>a=Lib.itoa (N.length:Int)/\K'=K/\st'=st/\N'=N)):=by
 have hf:=h.L8;refine (zde W s p bm v0 v1 v2 x hS ks kp N.length (fun V hV=>zbn h (zi hb hV)) (fun V hV=>pP (N.length:Int) zj zj V (h.G6.later (zi hb hV)).t.is)).mono ?_;rintro e w' ⟨rfl,H⟩;exact ⟨_,_,rfl,_,K,st,N,h.same (zi hb H.o),⟨rfl,rfl,rfl,rfl⟩,.inl ⟨rfl,rfl⟩⟩
end
def rL(gd:Nat->Option Obj)(B:Nat)(ad:qF)(bm i:Nat)(w:qW)(K:qH)(st:qD)(N:qJ)(sp:Spec)(c:Cmd):Prop:=∃fn bs,c=(sp.2.1,some (fn,bs))/\(∀args w,(callFunc fn args).run prog w= .ok (.enter fn args) w)/\
 ∀ps x W v0 v1 v2,nj sp.2.1.data.toList ps=some x->(∀u∈ps,u.size<=1000000)->qL w W->C3 W v0 v1 v2 x->Wz w.heap.size v0 v1->Calls prog fn (#[.agg #[v0,v1,v2]]++(bs.map ptB).toArray) W (aax gd B ad bm i w (fun K' st' N' a=>Tg sp.2.2 x K st N K' st' N' a))
def pr(gd:Nat->Option Obj)(lo:Nat)(wC w:qW):Prop:=∀b t cs,lo<=b->o9 wC b t cs->(∀W,qL w W->o9 W b t cs)/\gd b≠none
theorem QJ:(⟨#[]⟩:qY).size<=60:=zo
section
variable {gd:Nat→Option Obj} {B:Nat} {ad:qF} {m:Int} {bm i lo p:Nat} {G:qX} {K:qH} {D:Nat→List OpX} {st:qD} {N:qJ} {wC w W:qW} {c:Cmd}
theorem Ve(h:E8 gd B ad bm i G K D st N w)(hE:J0 B ad m w)(hX:pr gd lo wC w)(kp:o9 wC p 46 [ptB bm])(hp:lo<=p)(hC:Q8 lo wC p (0,⟨#[68,78,87]⟩,31) c):rL gd B ad bm i w K st N (0,⟨#[68,78,87]⟩,31) c:=by
 obtain ⟨a,b,rfl,ka,kb⟩:=hC;refine ⟨_,_,rfl,(enters_of func80 zk rfl),fun ps x W v0 v1 v2 hx bg hb hS hV=> ?_⟩;obtain ⟨r,n,u,hr,hn,ht,rfl⟩:=Vm (k:=87) zo zo hx;refine (ro h hb (0,0,0,109,0,(n:Int),u,⟨#[]⟩) hS hV rfl hr ((hX _ _ _ ka.1 ka.2).1 W hb) ((hX _ _ _ kb.1 kb.2).1 W hb) ((hX _ _ _ hp kp).1 W hb) (hX _ _ _ ka.1 ka.2).2 (hX _ _ _ kb.1 kb.2).2 (hX _ _ _ hp kp).2 (enters_of func31 zk rfl) ⟨(pQ (KH ht)),QJ,zq,⟨zM,zN⟩,⟨zN,zN⟩⟩ (fun V ai=>Rk V v0 v1 v2 (r:Int) (n:Int) u (hS.later ai))).mono ?_;intro e w' q
 exact q.mono (fun K' st' N' a q=>by
  obtain rfl:N'=N:=q.1
  exact ⟨r,n,u,rfl,q⟩)
theorem Sq(h:E8 gd B ad bm i G K D st N w)(hE:J0 B ad m w)(hX:pr gd lo wC w)(kp:o9 wC p 46 [ptB bm])(hp:lo<=p)(hC:Q8 lo wC p (0,⟨#[68,78,78,76]⟩,34) c):rL gd B ad bm i w K st N (0,⟨#[68,78,78,76]⟩,34) c:=by
 obtain ⟨a,b,rfl,ka,kb⟩:=hC;refine ⟨_,_,rfl,(enters_of func80 zk rfl),fun ps x W v0 v1 v2 hx bg hb hS hV=> ?_⟩;obtain ⟨r,n,o,u,hr,hn,ho,ht,rfl⟩:=Gk (k:=76) zo zo hx;refine (ro h hb (0,0,0,105,(n:Int),(o:Int),⟨#[]⟩,u) hS hV rfl hr ((hX _ _ _ ka.1 ka.2).1 W hb) ((hX _ _ _ kb.1 kb.2).1 W hb) ((hX _ _ _ hp kp).1 W hb) (hX _ _ _ ka.1 ka.2).2 (hX _ _ _ kb.1 kb.2).2 (hX _ _ _ hp kp).2 (enters_of func34 zk rfl) ⟨QJ,(pQ (zda ht)),zq,⟨zN,zN⟩,⟨zN,zN⟩⟩ (fun V ai=>Nj V v0 v1 v2 (r:Int) (n:Int) (o:Int) u (hS.later ai))).mono ?_;intro e w' q
 exact q.mono (fun K' st' N' a q=>by
  obtain rfl:N'=N:=q.1
  exact ⟨r,n,o,u,rfl,q⟩)
theorem Qm(h:E8 gd B ad bm i G K D st N w)(hE:J0 B ad m w)(hX:pr gd lo wC w)(kp:o9 wC p 46 [ptB bm])(hp:lo<=p)(hC:Q8 lo wC p (0,⟨#[68,78,78]⟩,35) c):rL gd B ad bm i w K st N (0,⟨#[68,78,78]⟩,35) c:=by
 obtain ⟨a,b,rfl,ka,kb⟩:=hC;refine ⟨_,_,rfl,(enters_of func80 zk rfl),fun ps x W v0 v1 v2 hx bg hb hS hV=> ?_⟩;obtain ⟨r,n,o,hr,hn,ho,rfl⟩:=UL hx;refine (ro h hb (0,0,0,100,(n:Int),(o:Int),⟨#[]⟩,⟨#[]⟩) hS hV rfl hr ((hX _ _ _ ka.1 ka.2).1 W hb) ((hX _ _ _ kb.1 kb.2).1 W hb) ((hX _ _ _ hp kp).1 W hb) (hX _ _ _ ka.1 ka.2).2 (hX _ _ _ kb.1 kb.2).2 (hX _ _ _ hp kp).2 (enters_of func35 zk rfl) ⟨QJ,QJ,zq,⟨zN,zN⟩,⟨zN,zN⟩⟩ (fun V ai=>Sf V v0 v1 v2 (r:Int) (n:Int) (o:Int) (hS.later ai))).mono ?_;intro e w' q
 exact q.mono (fun K' st' N' a q=>by
  obtain rfl:N'=N:=q.1
  exact ⟨r,n,o,rfl,q⟩)
theorem VY(h:E8 gd B ad bm i G K D st N w)(hE:J0 B ad m w)(hX:pr gd lo wC w)(kp:o9 wC p 46 [ptB bm])(hp:lo<=p)(hC:Q8 lo wC p (0,⟨#[68,78,87,87]⟩,36) c):rL gd B ad bm i w K st N (0,⟨#[68,78,87,87]⟩,36) c:=by
 obtain ⟨a,b,rfl,ka,kb⟩:=hC;refine ⟨_,_,rfl,(enters_of func80 zk rfl),fun ps x W v0 v1 v2 hx bg hb hS hV=> ?_⟩;obtain ⟨r,n,u,v,hr,hn,ht,kg,rfl⟩:=TW (k:=87) zo zo hx;refine (ro h hb (0,0,0,115,(n:Int),0,u,v) hS hV rfl hr ((hX _ _ _ ka.1 ka.2).1 W hb) ((hX _ _ _ kb.1 kb.2).1 W hb) ((hX _ _ _ hp kp).1 W hb) (hX _ _ _ ka.1 ka.2).2 (hX _ _ _ kb.1 kb.2).2 (hX _ _ _ hp kp).2 (enters_of func36 zk rfl) ⟨(pQ (KH ht)),(pQ (KH kg)),zq,⟨zN,zN⟩,⟨zM,zN⟩⟩ (fun V ai=>OD V v0 v1 v2 (r:Int) (n:Int) u v (hS.later ai))).mono ?_;intro e w' q
 exact q.mono (fun K' st' N' a q=>by
  obtain rfl:N'=N:=q.1
  exact ⟨r,n,u,v,rfl,q⟩)
theorem Vb(h:E8 gd B ad bm i G K D st N w)(hE:J0 B ad m w)(hX:pr gd lo wC w)(kp:o9 wC p 46 [ptB bm])(hp:lo<=p)(hC:Q8 lo wC p (1,⟨#[68,78,78,87]⟩,33) c):rL gd B ad bm i w K st N (1,⟨#[68,78,78,87]⟩,33) c:=by
 obtain ⟨s,a,b,rfl,ks,ka,kb⟩:=hC;refine ⟨_,_,rfl,(enters_of func83 zk rfl),fun ps x W v0 v1 v2 hx bg hb hS hV=> ?_⟩;obtain ⟨r,n,o,u,hr,hn,ho,ht,rfl⟩:=Gk (k:=87) zo zo hx;refine (Fk W s 80 [a,b] _ v0 v1 v2 _ (n:Int) (ad 5) (aax gd B ad bm i w (fun K' st' N' a=>DoS K st N r (0,0,0,109,(n:Int),(o:Int),u,⟨#[]⟩) K' st' N' a)) hS rfl ((hX _ _ _ ks.1 ks.2).1 W hb) (hE.later hb).G6.t.G6.c5 (enters_of func80 zk rfl) (fun V ai=> ?_)).mono ?_
 ·refine (ro h (zi hb ai) (0,0,0,109,(n:Int),(o:Int),u,⟨#[]⟩) (hS.later ai) hV rfl hr ((hX _ _ _ ka.1 ka.2).1 V (zi hb ai)) ((hX _ _ _ kb.1 kb.2).1 V (zi hb ai)) ((hX _ _ _ hp kp).1 V (zi hb ai)) (hX _ _ _ ka.1 ka.2).2 (hX _ _ _ kb.1 kb.2).2 (hX _ _ _ hp kp).2 (enters_of func33 zk rfl) ⟨(pQ (KH ht)),QJ,zq,⟨zN,zN⟩,⟨zN,zN⟩⟩ (fun V' hbV'=>Ry V' v0 v1 v2 (r:Int) (n:Int) (o:Int) u ((hS.later ai).later hbV'))).mono ?_;intro e w' q;obtain ⟨told,ev,rfl,q2⟩:=q;exact ⟨told,ev,rfl,told,ev,rfl,q2⟩
 rintro e w' (⟨h0,rfl,hbW⟩ | ⟨h0,told,ev,rfl,H⟩)
 ·exact ⟨_,_,rfl,sg 6,K,st,N,h.same (zi hb hbW.o),⟨r,n,o,u,rfl,.inl ⟨h0,rfl,rfl,rfl,rfl⟩⟩,.inr ⟨6,zj,zj,rfl,rfl,rfl⟩⟩
 exact H.o.mono (fun K' st' N' a q=>⟨r,n,o,u,rfl,.inr ⟨h0,zj⟩⟩)
theorem XI(h:E8 gd B ad bm i G K D st N w)(hE:J0 B ad m w)(hX:pr gd lo wC w)(kp:o9 wC p 46 [ptB bm])(hp:lo<=p)(hC:Q8 lo wC p (2,⟨#[68,68]⟩,38) c):rL gd B ad bm i w K st N (2,⟨#[68,68]⟩,38) c:=by
 obtain ⟨s,q,rfl,kq,ks⟩:=hC;refine ⟨_,_,rfl,(enters_of func84 zk rfl),fun ps x W v0 v1 v2 hx bg hb hS hV=> ?_⟩;obtain ⟨r,q2,hr,hq,rfl⟩:=Xl hx;refine (Al hS ((hX _ _ _ kq.1 kq.2).1 W hb) (enters_of func38 zk rfl) (fun V ai=>NY V (fun k=>w.heap.size<=k\/gd k≠none) ad _ s p bm v0 v1 v2 _ _ _ (hS.later ai) rfl rfl ((hX _ _ _ ks.1 ks.2).1 V (zi hb ai)) ((hX _ _ _ hp kp).1 V (zi hb ai)) ⟨.inr (hX _ _ _ ks.1 ks.2).2,.inr (hX _ _ _ hp kp).2,.inl (zi hb ai).size,fun k q=>.inl (hV k (.inl q)),fun k q=>.inl (hV k (.inr q))⟩ (fun U ah=>(fun gy=>Xp h gy r q2 hr hq) ((zi hb ai).trans (ah.mono (zi hb ai).size))) (fun _ _ _ q hb'=>q.later hb'))).mono ?_;intro e w' q
 exact q.mono (fun K' st' N' a q=>by
  obtain ⟨cd,ea,q⟩:=q
  exact ⟨r,q2,cd,rfl,ea,q⟩)
theorem zcG(h:E8 gd B ad bm i G K D st N w)(hE:J0 B ad m w)(hX:pr gd lo wC w)(kp:o9 wC p 46 [ptB bm])(hp:lo<=p)(hC:Q8 lo wC p (2,⟨#[78]⟩,40) c):rL gd B ad bm i w K st N (2,⟨#[78]⟩,40) c:=by
 obtain ⟨s,q,rfl,kq,ks⟩:=hC;refine ⟨_,_,rfl,(enters_of func84 zk rfl),fun ps x W v0 v1 v2 hx bg hb hS hV=> ?_⟩;obtain ⟨n,hn,rfl⟩:=OI hx;refine (Al hS ((hX _ _ _ kq.1 kq.2).1 W hb) (enters_of func40 zk rfl) (fun V ai=>DJ V (fun k=>w.heap.size<=k\/gd k≠none) ad _ s p bm v0 v1 v2 _ _ (hS.later ai) rfl ((hX _ _ _ ks.1 ks.2).1 V (zi hb ai)) ((hX _ _ _ hp kp).1 V (zi hb ai)) ⟨.inr (hX _ _ _ ks.1 ks.2).2,.inr (hX _ _ _ hp kp).2,.inl (zi hb ai).size,fun k q=>.inl (hV k (.inl q)),fun k q=>.inl (hV k (.inr q))⟩ (fun U ah=>(fun gy=>Je h gy n hn) ((zi hb ai).trans (ah.mono (zi hb ai).size))) (fun _ _ _ q hb'=>q.later hb'))).mono ?_;exact kg7
theorem VV(h:E8 gd B ad bm i G K D st N w)(hE:J0 B ad m w)(hX:pr gd lo wC w)(kp:o9 wC p 46 [ptB bm])(hp:lo<=p)(hC:Q8 lo wC p (2,⟨#[78]⟩,42) c):rL gd B ad bm i w K st N (2,⟨#[78]⟩,42) c:=by
 obtain ⟨s,q,rfl,kq,ks⟩:=hC;refine ⟨_,_,rfl,(enters_of func84 zk rfl),fun ps x W v0 v1 v2 hx bg hb hS hV=> ?_⟩;obtain ⟨n,hn,rfl⟩:=OI hx;refine (Al hS ((hX _ _ _ kq.1 kq.2).1 W hb) (enters_of func42 zk rfl) (fun V ai=>Jd V (fun k=>w.heap.size<=k\/gd k≠none) ad _ s p bm v0 v1 v2 _ _ (hS.later ai) rfl ((hX _ _ _ ks.1 ks.2).1 V (zi hb ai)) ((hX _ _ _ hp kp).1 V (zi hb ai)) ⟨.inr (hX _ _ _ ks.1 ks.2).2,.inr (hX _ _ _ hp kp).2,.inl (zi hb ai).size,fun k q=>.inl (hV k (.inl q)),fun k q=>.inl (hV k (.inr q))⟩ (fun U ah=>(fun gy=>VH h gy n hn) ((zi hb ai).trans (ah.mono (zi hb ai).size))) (fun _ _ _ q hb'=>q.later hb'))).mono ?_;exact kg7
theorem OB(h:E8 gd B ad bm i G K D st N w)(hE:J0 B ad m w)(hX:pr gd lo wC w)(kp:o9 wC p 46 [ptB bm])(hp:lo<=p)(hC:Q8 lo wC p (2,⟨#[78]⟩,44) c):rL gd B ad bm i w K st N (2,⟨#[78]⟩,44) c:=by
 obtain ⟨s,q,rfl,kq,ks⟩:=hC;refine ⟨_,_,rfl,(enters_of func84 zk rfl),fun ps x W v0 v1 v2 hx bg hb hS hV=> ?_⟩;obtain ⟨n,hn,rfl⟩:=OI hx;refine (Al hS ((hX _ _ _ kq.1 kq.2).1 W hb) (enters_of func44 zk rfl) (fun V ai=>Fh V (fun k=>w.heap.size<=k\/gd k≠none) ad _ s p bm v0 v1 v2 _ _ (hS.later ai) rfl ((hX _ _ _ ks.1 ks.2).1 V (zi hb ai)) ((hX _ _ _ hp kp).1 V (zi hb ai)) ⟨.inr (hX _ _ _ ks.1 ks.2).2,.inr (hX _ _ _ hp kp).2,.inl (zi hb ai).size,fun k q=>.inl (hV k (.inl q)),fun k q=>.inl (hV k (.inr q))⟩ (fun U ah=>(fun gy=>OT h gy n hn) ((zi hb ai).trans (ah.mono (zi hb ai).size))) (fun _ _ _ q hb'=>q.later hb'))).mono ?_;exact kg7
theorem XG(h:E8 gd B ad bm i G K D st N w)(hE:J0 B ad m w)(hX:pr gd lo wC w)(kp:o9 wC p 46 [ptB bm])(hp:lo<=p)(hC:Q8 lo wC p (2,⟨#[68,78]⟩,46) c):rL gd B ad bm i w K st N (2,⟨#[68,78]⟩,46) c:=by
 obtain ⟨s,q,rfl,kq,ks⟩:=hC;refine ⟨_,_,rfl,(enters_of func84 zk rfl),fun ps x W v0 v1 v2 hx bg hb hS hV=> ?_⟩;obtain ⟨r,n,hr,hn,rfl⟩:=Io hx;refine (Al hS ((hX _ _ _ kq.1 kq.2).1 W hb) (enters_of func46 zk rfl) (fun V ai=>LA V (fun k=>w.heap.size<=k\/gd k≠none) ad _ s p bm v0 v1 v2 _ _ _ (hS.later ai) rfl rfl ((hX _ _ _ ks.1 ks.2).1 V (zi hb ai)) ((hX _ _ _ hp kp).1 V (zi hb ai)) ⟨.inr (hX _ _ _ ks.1 ks.2).2,.inr (hX _ _ _ hp kp).2,.inl (zi hb ai).size,fun k q=>.inl (hV k (.inl q)),fun k q=>.inl (hV k (.inr q))⟩ (fun U ah=>(fun gy=>zap h gy r hr (n:Int) ⟨zj,zj⟩) ((zi hb ai).trans (ah.mono (zi hb ai).size))) (fun _ _ _ q hb'=>q.later hb'))).mono ?_;intro e w' q
 exact q.mono (fun K' st' N' a q=>by
  obtain ⟨cd,ea,q⟩:=q
  exact ⟨r,n,rfl,by rw [ea,q.1],q.2⟩)
theorem VN(h:E8 gd B ad bm i G K D st N w)(hE:J0 B ad m w)(hX:pr gd lo wC w)(kp:o9 wC p 46 [ptB bm])(hp:lo<=p)(hC:Q8 lo wC p (2,⟨#[68]⟩,48) c):rL gd B ad bm i w K st N (2,⟨#[68]⟩,48) c:=by
 obtain ⟨s,q,rfl,kq,ks⟩:=hC;refine ⟨_,_,rfl,(enters_of func84 zk rfl),fun ps x W v0 v1 v2 hx bg hb hS hV=> ?_⟩;obtain ⟨r,hr,rfl⟩:=Pc hx;refine (Al hS ((hX _ _ _ kq.1 kq.2).1 W hb) (enters_of func48 zk rfl) (fun V ai=>Jf V (fun k=>w.heap.size<=k\/gd k≠none) ad _ s p bm v0 v1 v2 _ _ (hS.later ai) rfl ((hX _ _ _ ks.1 ks.2).1 V (zi hb ai)) ((hX _ _ _ hp kp).1 V (zi hb ai)) ⟨.inr (hX _ _ _ ks.1 ks.2).2,.inr (hX _ _ _ hp kp).2,.inl (zi hb ai).size,fun k q=>.inl (hV k (.inl q)),fun k q=>.inl (hV k (.inr q))⟩ (fun U ah=>(fun gy=>WT h gy r hr) ((zi hb ai).trans (ah.mono (zi hb ai).size))) (fun _ _ _ q hb'=>q.later hb'))).mono ?_;intro e w' q
 exact q.mono (fun K' st' N' a q=>by
  obtain ⟨cd,ea,q⟩:=q
  exact ⟨r,rfl,by rw [ea,q.1],q.2⟩)
theorem TM(h:E8 gd B ad bm i G K D st N w)(hE:J0 B ad m w)(hX:pr gd lo wC w)(kp:o9 wC p 46 [ptB bm])(hp:lo<=p)(hC:Q8 lo wC p (3,⟨#[]⟩,50) c):rL gd B ad bm i w K st N (3,⟨#[]⟩,50) c:=by
 obtain ⟨s,rfl,ks⟩:=hC;refine ⟨_,_,rfl,(enters_of func50 zk rfl),fun ps x W v0 v1 v2 hx bg hb hS hV=> ?_⟩;obtain rfl:=XP hx;refine (za7 h hb hS ((hX _ _ _ ks.1 ks.2).1 W hb) ((hX _ _ _ hp kp).1 W hb)).mono ?_;intro e w' q;exact q.mono (fun K' st' N' a q=>⟨rfl,q⟩)
theorem Xf(h:E8 gd B ad bm i G K D st N w)(hE:J0 B ad m w)(hX:pr gd lo wC w)(kp:o9 wC p 46 [ptB bm])(hp:lo<=p)(hC:Q8 lo wC p (3,⟨#[]⟩,53) c):rL gd B ad bm i w K st N (3,⟨#[]⟩,53) c:=by
 obtain ⟨s,rfl,ks⟩:=hC;refine ⟨_,_,rfl,(enters_of func53 zk rfl),fun ps x W v0 v1 v2 hx bg hb hS hV=> ?_⟩;obtain rfl:=XP hx;refine (zc2 h hb hS ((hX _ _ _ ks.1 ks.2).1 W hb) ((hX _ _ _ hp kp).1 W hb)).mono ?_;intro e w' q;exact q.mono (fun K' st' N' a q=>⟨rfl,q⟩)
theorem Oj(h:E8 gd B ad bm i G K D st N w)(hE:J0 B ad m w)(hX:pr gd lo wC w)(kp:o9 wC p 46 [ptB bm])(hp:lo<=p)(hC:Q8 lo wC p (4,⟨#[68]⟩,57) c):rL gd B ad bm i w K st N (4,⟨#[68]⟩,57) c:=by
 obtain ⟨a,b,rfl,ka,kb⟩:=hC;refine ⟨_,_,rfl,(enters_of func98 zk rfl),fun ps x W v0 v1 v2 hx bg hb hS hV=> ?_⟩;obtain ⟨r,hr,rfl⟩:=Pc hx;refine (CV h hE hb hr hS rfl ((hX _ _ _ ka.1 ka.2).1 W hb) ((hX _ _ _ kb.1 kb.2).1 W hb) ((hX _ _ _ hp kp).1 W hb) (enters_of func57 zk rfl) (fun a=>∃s,a=Oc s/\G3 (lY (K r)) s) (fun V c br ai iI hR hRK hl fj=> ?_)).mono ?_
 ·refine QA V _ br v0 v1 v2 _ fj (fun U ah=> ?_);refine (zdP (hR.later ah) hRK hl (iI.later ah)).mono ?_;exact kd8
 intro e w' q;exact q.mono (fun K' st' N' a q=>by obtain ⟨⟨s,e1,e2⟩,e3⟩:=q;exact ⟨r,s,rfl,e1,e2,e3⟩)
theorem Vo(h:E8 gd B ad bm i G K D st N w)(hE:J0 B ad m w)(hX:pr gd lo wC w)(kp:o9 wC p 46 [ptB bm])(hp:lo<=p)(hC:Q8 lo wC p (4,⟨#[68,78]⟩,59) c):rL gd B ad bm i w K st N (4,⟨#[68,78]⟩,59) c:=by
 obtain ⟨a,b,rfl,ka,kb⟩:=hC;refine ⟨_,_,rfl,(enters_of func98 zk rfl),fun ps x W v0 v1 v2 hx bg hb hS hV=> ?_⟩;obtain ⟨r,n,hr,hn,rfl⟩:=Io hx;refine (CV h hE hb hr hS rfl ((hX _ _ _ ka.1 ka.2).1 W hb) ((hX _ _ _ kb.1 kb.2).1 W hb) ((hX _ _ _ hp kp).1 W hb) (enters_of func59 zk rfl) (fun a=>∃es,a=TA es/\ME (lY (K r)) (n:Int) es) (fun V c br ai iI hR hRK hl fj=> ?_)).mono ?_
 ·refine Nn V _ br v0 v1 v2 _ fj (n:Int) rfl (fun U ah=> ?_);refine (zdQ (hR.later ah) hl (iI.later ah) (n:Int)).mono ?_;exact kd8
 intro e w' q;exact q.mono (fun K' st' N' a q=>by obtain ⟨⟨s,e1,e2⟩,e3⟩:=q;exact ⟨r,n,s,rfl,e1,e2,e3⟩)
theorem UM(h:E8 gd B ad bm i G K D st N w)(hE:J0 B ad m w)(hX:pr gd lo wC w)(kp:o9 wC p 46 [ptB bm])(hp:lo<=p)(hC:Q8 lo wC p (4,⟨#[68,80]⟩,61) c):rL gd B ad bm i w K st N (4,⟨#[68,80]⟩,61) c:=by
 obtain ⟨a,b,rfl,ka,kb⟩:=hC;refine ⟨_,_,rfl,(enters_of func98 zk rfl),fun ps x W v0 v1 v2 hx bg hb hS hV=> ?_⟩;obtain ⟨r,u,hr,hu,rfl⟩:=zbk (k:=80) zo zo hx;refine (CV h hE hb hr hS rfl ((hX _ _ _ ka.1 ka.2).1 W hb) ((hX _ _ _ kb.1 kb.2).1 W hb) ((hX _ _ _ hp kp).1 W hb) (enters_of func61 zk rfl) (fun a=>∃b is,a=(if is=true then Lib.itoa b else JX)/\Js (lY (K r)) u.data.toList b is) (fun V c br ai iI hR hRK hl fj=> ?_)).mono ?_
 ·refine OS V _ br v0 v1 v2 _ fj u rfl (fun U ah=> ?_);refine (zdM (hR.later ah) hl (iI.later ah) u (bg u hu)).mono ?_;exact kd8
 intro e w' q;exact q.mono (fun K' st' N' a q=>by obtain ⟨⟨b,is,e1,e2⟩,e3⟩:=q;exact ⟨r,u,b,is,rfl,e1,e2,e3⟩)
theorem UJ(h:E8 gd B ad bm i G K D st N w)(hE:J0 B ad m w)(hX:pr gd lo wC w)(kp:o9 wC p 46 [ptB bm])(hp:lo<=p)(hC:Q8 lo wC p (4,⟨#[68,78]⟩,63) c):rL gd B ad bm i w K st N (4,⟨#[68,78]⟩,63) c:=by
 obtain ⟨a,b,rfl,ka,kb⟩:=hC;refine ⟨_,_,rfl,(enters_of func98 zk rfl),fun ps x W v0 v1 v2 hx bg hb hS hV=> ?_⟩;obtain ⟨r,n,hr,hn,rfl⟩:=Io hx;refine (CV h hE hb hr hS rfl ((hX _ _ _ ka.1 ka.2).1 W hb) ((hX _ _ _ kb.1 kb.2).1 W hb) ((hX _ _ _ hp kp).1 W hb) (enters_of func63 zk rfl) (fun a=>∃s is,a=(if is=true then s else JX)/\LD (lY (K r)) (n:Int) s is) (fun V c br ai iI hR hRK hl fj=> ?_)).mono ?_
 ·refine Oz V _ br v0 v1 v2 _ fj (n:Int) rfl (fun U ah=> ?_);refine (zdJ (hR.later ah) hl (iI.later ah) (n:Int) ⟨zj,zj⟩).mono ?_;exact kd8
 intro e w' q;exact q.mono (fun K' st' N' a q=>by obtain ⟨⟨s,is,e1,e2⟩,e3⟩:=q;exact ⟨r,n,s,is,rfl,e1,e2,e3⟩)
theorem MF(h:E8 gd B ad bm i G K D st N w)(hE:J0 B ad m w)(hX:pr gd lo wC w)(kp:o9 wC p 46 [ptB bm])(hp:lo<=p)(hC:Q8 lo wC p (4,⟨#[68]⟩,65) c):rL gd B ad bm i w K st N (4,⟨#[68]⟩,65) c:=by
 obtain ⟨a,b,rfl,ka,kb⟩:=hC;refine ⟨_,_,rfl,(enters_of func98 zk rfl),fun ps x W v0 v1 v2 hx bg hb hS hV=> ?_⟩;obtain ⟨r,hr,rfl⟩:=Pc hx;refine (CV h hE hb hr hS rfl ((hX _ _ _ ka.1 ka.2).1 W hb) ((hX _ _ _ kb.1 kb.2).1 W hb) ((hX _ _ _ hp kp).1 W hb) (enters_of func65 zk rfl) (fun a=>a=QL (oW (K r) 0) (oW (K r) 1) (oW (K r) 2) (oW (K r) 3)) (fun V c br ai iI hR hRK hl fj=> ?_)).mono ?_
 ·refine Qz V _ br v0 v1 v2 _ _ _ _ _ fj (fun U ah=>tQ U c br (r:Int) (K r) (hR.later ah) zj) (fun U ah=> ?_);have l0:=Ad (K r) (show 0<4 by omega);have l1:=Ad (K r) (show 1<4 by omega);have l2:=Ad (K r) (show 2<4 by omega);have l3:=Ad (K r) (show 3<4 by omega);refine (So _ _ _ _ U (iI.later ah).tab zj zj zj zj zj zj zj zj).mono ?_;rintro e w' ⟨rfl,hbt⟩;exact ⟨_,rfl,_,rfl,rfl,zi ah hbt⟩
 intro e w' q;exact q.mono (fun K' st' N' a q=>⟨r,rfl,q.1,q.2⟩)
end
theorem EQ{k}{sp} :∀ {l:Tbl},l.lookup k=some sp->(k,sp)∈l
 | [],h=>qd
 | (a,b)::l,h=>by
  rw [List.lookup_cons] at h;split at h
  ·simp_all
  exact Za _ (EQ h)
section
variable {gd:Nat→Option Obj} {B:Nat} {ad:qF} {m:Int} {bm i lo p:Nat} {G:qX} {K:qH} {D:Nat→List OpX} {st:qD} {N:qJ} {wC w W:qW} {c:Cmd}
theorem zb5(h:E8 gd B ad bm i G K D st N w)(hE:J0 B ad m w)(hX:pr gd lo wC w)(kp:o9 wC p 46 [ptB bm])(hp:lo<=p){k}{sp}(hl:tblAll.lookup k=some sp)(hC:Q8 lo wC p sp c):rL gd B ad bm i w K st N sp c/\sp.2.1.size<=50:=by
 have hm:=EQ hl;simp only [tblAll,th,pM,rR,ZI,ZE,uZ,ZS,or_false,Prod.mk.injEq] at hm
 rcases hm with ⟨_,rfl⟩ | ⟨_,rfl⟩ | ⟨_,rfl⟩ | ⟨_,rfl⟩ | ⟨_,rfl⟩ | ⟨_,rfl⟩ | ⟨_,rfl⟩ | ⟨_,rfl⟩ | ⟨_,rfl⟩ | ⟨_,rfl⟩ | ⟨_,rfl⟩ | ⟨_,rfl⟩ | ⟨_,rfl⟩ | ⟨_,rfl⟩ | ⟨_,rfl⟩ | ⟨_,rfl⟩ | ⟨_,rfl⟩ | ⟨_,rfl⟩
 ·exact ⟨MF h hE hX kp hp hC,zo⟩
 ·exact ⟨UJ h hE hX kp hp hC,zo⟩
 ·exact ⟨UM h hE hX kp hp hC,zo⟩
 ·exact ⟨Vo h hE hX kp hp hC,zo⟩
 ·exact ⟨Oj h hE hX kp hp hC,zo⟩
 ·exact ⟨Xf h hE hX kp hp hC,zo⟩
 ·exact ⟨TM h hE hX kp hp hC,zo⟩
 ·exact ⟨VN h hE hX kp hp hC,zo⟩
 ·exact ⟨XG h hE hX kp hp hC,zo⟩
 ·exact ⟨OB h hE hX kp hp hC,zo⟩
 ·exact ⟨VV h hE hX kp hp hC,zo⟩
 ·exact ⟨zcG h hE hX kp hp hC,zo⟩
 ·exact ⟨XI h hE hX kp hp hC,zo⟩
 ·exact ⟨VY h hE hX kp hp hC,zo⟩
 ·exact ⟨Qm h hE hX kp hp hC,zo⟩
 ·exact ⟨Sq h hE hX kp hp hC,zo⟩
 ·exact ⟨Vb h hE hX kp hp hC,zo⟩
 exact ⟨Ve h hE hX kp hp hC,zo⟩
def zd6(gd:Nat->Option Obj)(B bm i:Nat)(w:qW)(C9:qY)(K:qH)(st:qD)(N:qJ)(e:Ending)(w':qW):Prop:=∃s,e= .returned (.string s)/\Aside (∃a K' st' N',s=⟨a.toArray⟩/\Got gd B bm i w K' st' N' w'/\LX C9 K st N K' st' N' a)
theorem WS(h:E8 gd B ad bm i G K D st N w)(hE:J0 B ad m w)(hX:pr gd lo wC w)(kp:o9 wC p 46 [ptB bm])(hp:lo<=p){S}(hT:J3 lo wC p S 18 tblAll)(hS:w.heap[S]? =wC.heap[S]?)(C9)(hsz:C9.size<=1000000):
  qC 15 #[.map (some S),.string C9] w (zd6 gd B bm i w C9 K st N):=by
 obtain ⟨f,hM,hf⟩:=hT.map;have hM':=hM.same hS;obtain ⟨p0,ps,hw⟩:=EM C9;have hsp:=JH C9 m w hsz hE.see.max
 have hall:∀u∈rB C9,u.size<=C9.size:=fun u hu=>tA _ _ _ u hu
 have hlen:=Rm C9;rw [hw] at hsp hall hlen;have h0:p0.size<=maxLen:=uQ (uQ (hall p0 Zq) hsz) zo
 have bg:∀u∈ps,u.size<=1000000:=fun u hu=>uQ (hall u (Za _ hu)) hsz
 have hf0:=hf p0.data.toList
 have bad:∀e w',Ku (ad 0) w e w'->(LX C9 K st N K st N (sg 1))->(∃told,e=qT #[.string told,.nilIface]/\Aside (∃a K' st' N',told=⟨a.toArray⟩/\Got gd B bm i w K' st' N' w'/\LX C9 K st N K' st' N' a))\/∃a s,e= .returned (.tuple #[.string ⟨#[]⟩,.iface 437 (.pointer (some a))])/\w'.cell? a=some (.string s)/\Aside (∃a K' st' N',s=⟨a.toArray⟩/\Got gd B bm i w K' st' N' w'/\LX C9 K st N K' st' N' a):=fun e w' q hl=>by
  obtain ⟨rfl,hb⟩:=q;exact .inr ⟨ad 0,_,rfl,mu hb.o (hE.txt 0 zj).1,sg 1,K,st,N,rfl,h.same hb.o,hl⟩
 refine Pb w S C9 (fun s W'=>∃a K' st' N',s=⟨a.toArray⟩/\Got gd B bm i w K' st' N' W'/\LX C9 K st N K' st' N' a) ?_
 cases hl:tblAll.lookup p0.data.toList with
 | none=>
  rw [hl] at hf0;refine (PG w _ S 18 f C9 p0 ps hM' hsp h0 (ad 0) hE.err hf0).mono ?_
  grind [LX]
 | some sp=>
  rw [hl] at hf0;obtain ⟨c,hc,hC⟩:=hf0;obtain ⟨⟨fn,bs,rfl,eg,ae⟩,h50⟩:=zb5 h hE hX kp hp hl hC
  have hz:2<=min 6 (C9.size+1):=by
   rcases Nat.eq_zero_or_pos C9.size with q | q
   ·have k1:=hall p0 Zq;have k2:p0.data.toList.length=p0.size:=zq;have k3:p0.data.toList= []:=Zi.1 zj;rw [k3] at hl
    cases hl
   omega
  refine (Xe w _ S 18 f C9 p0 ps hM' hsp h0 (ad 0) hE.err sp.2.1 fn bs hz hc h50 zN bg eg (fun x told ev w'=>zel gd B ad bm i w (fun K' st' N' a=>Tg sp.2.2 x K st N K' st' N' a) told ev w') (fun x W v0 v1 v2 hx hb fj hV=>ae ps x W v0 v1 v2 hx bg hb fj hV)).mono ?_;rintro e w' (⟨hn,q⟩ | ⟨x,told,ev,hx,rfl,H⟩)
  ·grind [LX]
  obtain ⟨a,K',st',N',hG,hP,hk⟩:=H.o
  have hLX:LX C9 K st N K' st' N' a:=by
   unfold LX;rw [hw];dsimp only;rw [hl];dsimp only;rw [hx];exact hP
  rcases hk with ⟨rfl,rfl⟩ | ⟨cd,c1,c2,rfl,rfl,rfl⟩
  ·exact .inl ⟨_,rfl,a,K',st',N',rfl,hG,hLX⟩
  have ht:=hE.txt (cd - 1) zj;rw [show cd - 1+1=cd by omega] at ht
  have hGB:Below B w w':=by obtain ⟨_,_,_,q,_⟩:=hG;exact q
  exact .inr ⟨ad (cd - 1),⟨(sg cd).toArray⟩,by rw [mL zj],(hGB.cell ht.2).trans ht.1,sg cd,K',st',N',rfl,hG,hLX⟩
end
theorem Q8.acq{lo lo'}{w}{p}{x}{c}(h:Q8 lo w p x c)(eK:lo'<=lo):Q8 lo' w p x c:=by
 have hl:∀ {b t cs},Kl lo w b t cs->Kl lo' w b t cs:=fun q=>⟨uQ eK q.1,q.2⟩
 obtain ⟨k,f,g⟩:=x
 unfold Q8 at h |-
 match k with
 | 0=>grind
 | 1=>grind
 | 2=>grind
 | 3=>grind
 | n+4=>grind
theorem J3.acq{lo lo'}{w}{p b n}{l}(h:J3 lo w p b n l)(eK:lo'<=lo):J3 lo' w p b n l:=by
 obtain ⟨f,h1,h2⟩:=h.map;refine ⟨f,h1,fun s=> ?_⟩;have:=h2 s
 cases e:l.lookup s with
 | none=>simp_all
 | some x=>rw [e] at this;obtain ⟨c,k1,k2⟩:=this;exact ⟨c,k1,k2.acq eK⟩
def WF(w:qW)(L:List ByteArray)(e:Ending)(w':qW):Prop:=∃(v:Value) (tl:List qU) (K:qH) (st:qD) (K':qH) (st':qD) (N':qJ),e=qT #[v,.nilIface]/\Aside (LsX L K st [] K' st' N' tl/\(∀r,r<3->K r=fun _=>[])/\(∀r,r<3->st r=([],false,false,0))/\tl.length=L.length/\w'.ownsRow w.heap.size 9 1 v tl.length (sh tl)/\qL w w')
theorem Ef{ad}{m}(w)(hE:J0 w.heap.size ad m w)(so)(cap)(L)(hL:F5 w so L)(hn:L.length<=100)(hs:∀x∈L,x.size<=1000000):
  qC 6 #[.slice so L.length cap] w (WF w L):=by
 have hnew:=WO (B:=w.heap.size) w 3 zj zj zg;have d0:decide ((L.length:Int)>100)=false:=zl;have d0':qlt 100 L.length=false:=zl
 have HM:Aside (J0 w.heap.size ad m w/\F5 w so L/\L.length<=100/\∀x∈L,x.size<=1000000):=⟨hE,hL,hn,hs⟩
 go_enter func6,ntmps6;go_wp2_with fail;refine hnew.mono ?_;rintro e w1 ⟨bm,rfl,K,st,hm1,hb1,hK,hst,hbm⟩;have hcm:=GY (w1.alloc (.cells #[ptB bm] 46)) w1.heap.size
 have H1:Aside (p9 (fun _=>none) w.heap.size 3 bm K st [] w1/\qL w w1/\(∀r,r<3->K r=fun _=>[])/\(∀r,r<3->st r=([],false,false,0))):=⟨hm1,hb1,hK,hst⟩
 go_wp2_with fail;refine hcm.mono ?_;rintro e w3 ⟨S,hSl,rfl,H3⟩;obtain ⟨w2,hw2⟩:=za (w1.alloc (.cells #[ptB bm] 46));rw [<-hw2] at H3 hSl
 have hb2:qL w1 w2:=by rw [hw2];exact zh w1 _
 have kp2:o9 w2 w1.heap.size 46 [ptB bm]:=by rw [hw2];exact mq w1 [ptB bm] _
 have aN:w2.heap.size=w1.heap.size+1:=by rw [hw2];simp
 obtain ⟨hT,hb3⟩:=H3.o;have hb13:=zi hb2 hb3;have hT':=hT.acq (lo':=w1.heap.size) zj;have kp3:=kp2.later hb3 zj;obtain ⟨gd,hgd⟩:=ze (gdN (fun _=>none) w1.heap.size w3)
 have cA:p9 gd w.heap.size 3 bm K st [] w3:=by rw [hgd.o];exact H1.o.1.u zg hb13
 have HC:Aside (J3 w1.heap.size w3 w1.heap.size S 18 tblAll/\o9 w3 w1.heap.size 46 [ptB bm]/\w1.heap.size<=S):=⟨hT',kp3,zj⟩
 have HI:r9 3 0 [] K (fun _=>[]) st []:=⟨(J7.start 3 _).congr (fun r hr x=>by rw [H1.o.2.2.1 r hr];rfl),fun r hr=>by rw [H1.o.2.2.2 r hr];exact SI,fun x hx=>ya,fun r hr=>by rw [H1.o.2.2.1 r hr];exact wY⟩
 have HS:Aside (R6 gd w.heap.size 3 bm K st [] 9 qE [] w3/\qL w w3/\r9 3 0 [] K (fun _=>[]) st []):=⟨R6.bare _ cA,zi H1.o.2.1 hb13,HI⟩
 have HK:Aside ((∀r,r<3->K r=fun _=>[])/\(∀r,r<3->st r=([],false,false,0))):=⟨H1.o.2.2.1,H1.o.2.2.2⟩
 generalize bu:w1.heap.size=lo at HC hgd;go_wp2;go_loopg [8,29] L.length (fun kx s8 s29 wr=>∃(k:Nat) (ov:Value),ov=s8/\s29=qN k/\k<=L.length/\L.length - k<=kx/\Aside (∃(tl:List qU) (G':qX) (K':qH) (D':Nat->List OpX) (st':qD) (N':qJ),R6 gd w.heap.size 3 bm K' st' N' 9 ov (sh tl) wr/\qL w wr/\r9 3 k G' K' D' st' N'/\N'.length<=30/\LsX (L.take k) K st [] K' st' N' tl/\tl.length=k))
 case atStart=>exact ⟨0,_,rfl,rfl,uW _,uM _,[],[],K,fun _=>[],st,[],HS.o.1,HS.o.2.1,HS.o.2.2,zq,⟨rfl,rfl,rfl,rfl⟩,rfl⟩
 case round=>
  obtain ⟨k,ov,rfl,rfl,hk,aY,A⟩:=hrel;by_cases hlt:k<L.length
  ·have d1:qlt k L.length=true:=by simp;omega
   have dM:k<100:=by have:=HM.o.2.2.1;omega
   have wk:((k:Int)).toNat=k:=zj;have pk:(0:Int)<=(k:Int):=zj;have bk:(k:Int)<(L.length:Int):=zj;obtain ⟨tl,G1,K1,D1,st1,N1,hV,hb,hI1,fZ,hR,dN⟩:=A.o
   obtain ⟨x,hx⟩:∃x,Aside (L[k]? =some x):=⟨L[k],uL hlt⟩
   obtain ⟨g,o,hso,hg,hc⟩:=HM.o.2.1 k x hx.o;subst hso;have c0:=(hb.cell (p:=(qA g (o+k))) hg).trans hc;have hEr:=HM.o.1.later hb
   have bL:pr (gdQ gd ov wr) lo w3 wr:=fun b t cs hlb gK=>by
    have e:gd b=some (.cells cs.toArray t (0,0)):=by rw [hgd.o];unfold gdN;rw [if_pos hlb];exact gK
    have hq:o9 wr b t cs:=hV.D8.held e;refine ⟨fun W hW=>hq.later hW hq.lt,?_⟩;unfold gdQ;split
    ·intro q;rw [show wr.heap[b]? =some (.cells cs.toArray t (0,0)) from hq] at q;cases q
    rw [e];intro q;cases q
   have iI:wr.heap[S]? =w3.heap[S]? :=by
    have gq:=HC.o.1.lt
    have e:gd S=some w3.heap[S]:=by rw [hgd.o];unfold gdN;rw [if_pos HC.o.2.2];exact Yf gq
    rw [hV.D8.held e];exact (Yf gq).symm
   have hans:=WS (m:=m) (⟨hV.1,hI1,fZ,hEr.G6,zj⟩:E8 (gdQ gd ov wr) w.heap.size ad bm k G1 K1 D1 st1 N1 wr) hEr bL HC.o.2.1 zg HC.o.1 iI x (HM.o.2.2.2 x (uR hx.o))
   have HA:Aside (R6 gd w.heap.size 3 bm K1 st1 N1 9 ov (sh tl) wr/\qL w wr/\LsX (L.take k) K st [] K1 st1 N1 tl/\tl.length=k):=⟨hV,hb,hR,dN⟩
   obtain ⟨u0,b9⟩:=za wr;subst b9;go_wp2_with fail;refine hans.mono ?_;rintro e w4 ⟨s,rfl,a,K2,st2,N2,rfl,hG,HX⟩;obtain ⟨G2,D2,jw,hb4,hI4,kP⟩:=hG;have hV4:=HA.o.1.on jw;have hB4:=uQ HA.o.2.1.size hb4.size;obtain ⟨v',w6,ae,ho6,hg6,hv6⟩:=AR (S:=22) (T:=9) underlying22 Gd zj rfl hV4.2.1 hB4 (by unfold sh;rw [Zj];have:=HA.o.2.2.2;omega) (rz ⟨a.toArray⟩) rfl 22
   have et:sh tl++ [rz ⟨a.toArray⟩]=sh (tl++ [a]):=by unfold sh;rw [Zz];rfl
   rw [et] at ho6
   have hV6:=hV4.ac4 (lS hg6) (by
    have:(sh (tl++ [a])).length=(sh tl).length+1:=by unfold sh;simp
    rw [this];exact ho6) (fun g hg=>hv6.elim (fun q=>.inl (q▸hg)) (fun q=>.inr (q g hg)))
   have hb6:=(HA.o.2.1.trans hb4).grown hg6 hB4 (fun k hk=>(hV4.2.1.lt k hk).1)
   have H6:Aside (R6 gd w.heap.size 3 bm K2 st2 N2 9 v' (sh (tl++ [a])) w6/\qL w w6/\r9 3 (k+1) G2 K2 D2 st2 N2/\N2.length<=30/\LsX (L.take (k+1)) K st [] K2 st2 N2 (tl++ [a])/\(tl++ [a]).length=k+1):=⟨hV6,hb6,hI4,kP,by
    rw [ZF,hx.o]
    exact HA.o.2.2.1.aaV HX,by rw [uS,HA.o.2.2.2];rfl⟩
   unfold rz at ae;go_wp2_with (at_builtin;refine Lib.wpList_append_run _ rfl _ _ _ _ rfl _ _ rfl rfl _ _ ae ?_);go_wp2;go_roundg (L.length - (k+1))
   case measure=>omega
   case rel=>exact ⟨k+1,v',rfl,zJ,zj,uM _,tl++ [a],G2,K2,D2,st2,N2,H6.o⟩
  have d1:qlt k L.length=false:=by have:=HM.o.2.2.1;simp;omega
  obtain rfl:k=L.length:=zj;obtain ⟨tl,G1,K1,D1,st1,N1,hV,hb,hI1,fZ,hR,dN⟩:=A.o
  have H6:Aside (LsX L K st [] K1 st1 N1 tl/\(∀r,r<3->K r=fun _=>[])/\(∀r,r<3->st r=([],false,false,0))/\tl.length=L.length/\wr.ownsRow w.heap.size 9 1 ov tl.length (sh tl)/\qL w wr):=⟨by rw [Yq] at hR;exact hR,HK.o.1,HK.o.2,dN,by have:=hV.2.1;unfold sh at this |-;rwa [Zj] at this,hb⟩
  go_wp2;go_ret2;exact ⟨ov,tl,K,st,K1,st1,N1,rfl,H6.o⟩
end
section
open RowKit Lib Go.Sort
open scoped Classical
theorem J0.up{B B'}{ad}{m}{w}(h:J0 B ad m w)(hB:B<=B')(hs:B'<=w.heap.size):J0 B' ad m w:=⟨h.G6.up hB hs,h.see,h.err,fun k hk=>⟨(h.txt k hk).1,uY (h.txt k hk).2 hB⟩,uQ h.low hB⟩
theorem GI(w:qW)(L):F5 (w.alloc (.cells (L.map rz).toArray 9)) (qS w.heap.size) L:=fun i x hx=>⟨w.heap.size,0,rfl,zq,by
 grind [Ym,rz]⟩
def helloV:List ByteArray:=[⟨#[52]⟩,⟨#[56]⟩,⟨#[121,101,115]⟩,⟨#[52,32,105,110,32,48,32,97,59,32,52,32,116,101,120,116,32,120]⟩]
theorem QP{B}{ad}{m}(w)(hE:J0 B ad m w)(hB:B<=w.heap.size):
  qC 5 #[] w (qR (.bool true) w):=by
 have hb0:qL w (w.alloc (.cells (helloL.map rz).toArray 9)):=zh w _;have ae:qC 6 #[qG w.heap.size 4 4] (w.alloc (.cells (helloL.map rz).toArray 9)) (WF (w.alloc (.cells (helloL.map rz).toArray 9)) helloL):=Ef _ ((hE.later hb0).up (uQ hB hb0.size) zg) (qS w.heap.size) 4 helloL (GI w helloL) zo zo;have H0:Aside (qL w (w.alloc (.cells (helloL.map rz).toArray 9))):=hb0;unfold helloL rz at ae H0;simp only [ZR,Yu] at ae H0;go_enter func5,ntmps5;go_wp2_with fail;refine ae.mono ?_;rintro e w1 ⟨v,tl,K,st,K',st',N',rfl,H⟩;obtain ⟨h1,h2,h3,h4,h5,h6⟩:=H.o;obtain rfl:=Mw h2 h3 h1;obtain ⟨ao,cap,rfl⟩:=mC h5;have hl1:=pC (L:=helloV) h5;have HB:Aside (qL w w1):=zi H0.o h6;have hb2:qL w1 (w1.alloc (.cells (helloV.map rz).toArray 9)):=zh w1 _
 have bQ:qC 12 #[.slice ao 4 cap,qG w1.heap.size 4 4] (w1.alloc (.cells (helloV.map rz).toArray 9)) fun e w'=>e= .returned (.bool true)/\qL (w1.alloc (.cells (helloV.map rz).toArray 9)) w':=ta _ ao _ cap 4 helloV zo (hl1.later hb2) (GI w1 helloV)
 have cP:Aside (qL w (w1.alloc (.cells (helloV.map rz).toArray 9))):=zi HB.o hb2;unfold helloV rz at bQ cP;simp only [ZR,Yu] at bQ cP;rw [show helloA.length=4 from rfl];go_wp2_with fail;refine bQ.mono ?_;rintro e w2 ⟨rfl,hb3⟩;have H3:Aside (qL w w2):=zi cP.o hb3;go_wp2;go_ret;exact ⟨rfl,H3.o⟩
end
section
open RowKit Lib Go.Sort Maps
open scoped Classical
theorem Rl{ls}(n){K L K' L':qH}{s t s' t':qD}{N' M'}{tl ul}(hl:∀l∈ls,l.size<=1000000)(hK:∀r,r<3->K r=fun _=>[])(hs:∀r,r<3->s r=([],false,false,0))(hL:∀r,r<3->L r=fun _=>[])(ht:∀r,r<3->t r=([],false,false,0))
  (h:LsX ls K s [] K' s' N' tl) (h':LsX (ls.take n) L t [] L' t' M' ul):ul=tl.take (ls.take n).length:=
 Se hl ⟨fun r hr j _=>by rw [hK r hr,hL r hr],fun r hr=>by rw [hs r hr,ht r hr],rfl⟩ ⟨fun q hq=>by rw [hK q hq];exact wY,fun x hx=>ya⟩ h ⟨n,rfl⟩ h'
end
section
open RowKit Lib Go.Sort
open scoped Classical
structure zdt (w:qW) (v:Value) (P:List ByteArray) (na:Nat) (wr:qW):Prop where
 m8:qL w wr
 row:wr.ownsRow w.heap.size 9 1 v P.length (P.map rz)
 size:∀x∈P,x.size<=1000
 ahead:na<=P.length
theorem Ca{B}{ad}{m}(w)(hE:J0 B ad m w)(so)(cap)(L)(cut)(hL:Xd w so L)(hn:L.length<9223372036854775808)(hcut: -9223372036854775808<=cut/\cut<=9223372036854775807):
  qC 4 #[.slice so L.length cap,qI cut] w (qR (.bool true) w):=by
 have hB:=hE.G6.t.G6.size;have hhel:=QP w hE hB
 have H0:Aside (J0 B ad m w/\Xd w so L/\B<=w.heap.size):=⟨hE,hL,hB⟩
 go_enter func4,ntmps4;go_wp2_with fail;refine hhel.mono ?_;rintro e w1 ⟨rfl,hb1⟩;have HB1:Aside (qL w w1):=hb1;by_cases h40:40<L.length
 ·have d1:qlt 40 L.length=true:=by simp;omega
  have dg:decide (40<L.length)=true:=zl;exact ko7
 have d1:qlt 40 L.length=false:=zl;have dg:decide (40<L.length)=false:=zl;by_cases fB:cut<0
 ·have d2:decide (cut<0)=true:=by simp;omega
  exact ko7
 have d2:decide (cut<0)=false:=zl;by_cases hc1:(L.length:Int)<cut
 ·have d3:decide ((L.length:Int)<cut)=true:=by simp;omega
  exact ko7
 have d3:decide ((L.length:Int)<cut)=false:=zl
 obtain ⟨ct,rfl⟩:∃ct:Nat,cut=(ct:Int):=⟨cut.toNat,zj⟩
 have d3n:decide (L.length<ct)=false:=zl;go_wp2;go_loopg [6,7,8] L.length (fun kx s6 s7 s8 wr=>∃(k na:Nat) (v:Value) (P:List ByteArray),v=s6/\s7=qN na/\s8=qN k/\k<=L.length/\L.length - k<=kx/\P.length<=k/\Aside (zdt w v P na wr))
 case atStart=>exact ⟨0,0,_,[],rfl,rfl,rfl,uW _,uM _,uM _,HB1.o,Zk _ _ _ _,zq,uM _⟩
 case round=>
  obtain ⟨k,na,v,P,rfl,rfl,rfl,hk,aY,hP,A⟩:=hrel;by_cases hlt:k<L.length
  ·have aq:qlt k L.length=true:=by simp;omega
   have ek:((k:Int)).toNat=k:=zj;have pk:(0:Int)<=(k:Int):=zj;have bk:(k:Int)<(L.length:Int):=zj
   obtain ⟨x,hx⟩:∃x,Aside (L[k]? =some x):=⟨L[k],uL hlt⟩
   obtain ⟨g,o,e1,aI,ar⟩:=H0.o.2.1 k x hx.o;subst e1;obtain ⟨wd,⟨ia,nc,xs⟩,⟨wa,wc,ws⟩⟩:=x;obtain ⟨r0,r1,r2⟩:=aI;unfold lnN at r1;unfold lnW at r2;dsimp only at r0 r1 r2;have z0:=mu A.o.m8 r0;have z1:=mu A.o.m8 r1;have z2:=mu A.o.m8 r2;have HI:Aside (LV w (wd,(ia,nc,xs),(wa,wc,ws))):=ar;by_cases h5:5<xs.length
   ·have q1:qlt 5 xs.length=true:=by simp;omega
    have q1n:decide (5<xs.length)=true:=zl;exact kj1
   have q1:qlt 5 xs.length=false:=zl;have q1n:decide (5<xs.length)=false:=zl;by_cases h60:60<wd.size
   ·have q2:qlt 60 wd.size=true:=by simp;omega
    have q2n:decide (60<wd.size)=true:=zl;exact kj1
   have q2:qlt 60 wd.size=false:=zl;have q2n:decide (60<wd.size)=false:=zl;by_cases h3:3<ws.length
   ·have q3:qlt 3 ws.length=true:=by simp;omega
    have q3n:decide (3<ws.length)=true:=zl;exact kj1
   have q3:qlt 3 ws.length=false:=zl;have q3n:decide (3<ws.length)=false:=zl;obtain ⟨u0,b9⟩:=za wr;subst b9;go_wp2;go_loopg [9] ws.length (fun ky s9 wy=>∃j:Nat,s9=qN j/\j<=ws.length/\ws.length - j<=ky/\wy=u0/\Aside (∀u∈ws.take j,u.size<=60))
   case atStart=>exact ⟨0,rfl,uW _,uM _,rfl,fun u hu=>by simp at hu⟩
   case round=>
    obtain ⟨j,rfl,hj,hjy,lA,AJ⟩:=hrel;subst lA;by_cases d9:j<ws.length
    ·have dj:qlt j ws.length=true:=by simp;omega
     have ej:((j:Int)).toNat=j:=zj;have pj:(0:Int)<=(j:Int):=zj;have bj:(j:Int)<(ws.length:Int):=zj
     obtain ⟨u,hu⟩:∃u,Aside (ws[j]? =some u):=⟨ws[j],uL d9⟩
     obtain ⟨g4,o4,e4,_,r4⟩:=HI.o.ach j u hu.o;dsimp only at e4;subst e4;have z4:=mu A.o.m8 r4;by_cases hu60:60<u.size
     ·have q4:qlt 60 u.size=true:=by simp;omega
      have q4n:decide (60<u.size)=true:=zl;exact kj1
     have q4:qlt 60 u.size=false:=zl;have q4n:decide (60<u.size)=false:=zl
     have HJ:Aside (∀y∈ws.take (j+1),y.size<=60):=fun y hy=>by
      rw [ZF,hu.o] at hy
      rcases uU.1 hy with q | q
      ·exact AJ.o y q
      simp at q;subst q;omega
     go_wp2;go_roundg (ws.length - (j+1))
     case measure=>omega
     case rel=>exact ⟨j+1,zJ,zj,uM _,rfl,HJ.o⟩
    have dj:qlt j ws.length=false:=zl;obtain rfl:j=ws.length:=zj
    have HJ:Aside (∀y∈ws,y.size<=60):=by have:=AJ.o;rwa [Yq] at this
    have fu:=MB wr wd ia wa nc wc xs ws zj zj zj HJ.o HI.o.aab (HI.o.adg.later A.o.m8) (HI.o.ach.later A.o.m8);go_wp2_with fail;refine fu.mono ?_;rintro e w5 ⟨s,is,rfl,H5⟩;have hb5:qL w w5:=zi A.o.m8 H5.o.2;have ho5:w5.ownsRow w.heap.size 9 1 v P.length (P.map rz):=mE A.o.row (fun q hq=>H5.o.2.block q (A.o.row.lt q hq).2)
    have HR:Aside (zdt w v P na w5/\s.size<=1000):=⟨⟨hb5,ho5,A.o.size,A.o.ahead⟩,H5.o.1⟩
    cases is with
    | false=>
     by_cases hct:k<ct
     ·have dc:qlt k ct=true:=by simp;omega
      have dcn:decide (k<ct)=true:=zl
      have H6:Aside (zdt w v P P.length w5):=⟨HR.o.1.m8,HR.o.1.row,HR.o.1.size,uM _⟩
      obtain ⟨va,vc,hv⟩:=mC HR.o.1.row;subst hv;go_wp2;go_roundg (L.length - (k+1))
      case measure=>omega
      case rel=>exact ⟨k+1,P.length,_,P,rfl,rfl,zJ,zj,uM _,zj,H6.o⟩
     have dc:qlt k ct=false:=zl;have dcn:decide (k<ct)=false:=zl;go_wp2;go_roundg (L.length - (k+1))
     case measure=>omega
     case rel=>exact ⟨k+1,na,_,P,rfl,rfl,zJ,zj,uM _,zj,HR.o.1⟩
    | true=>
     obtain ⟨v',w6,ae,ho6,hg6,-⟩:=AR (S:=22) (T:=9) underlying22 Gd zj rfl HR.o.1.row HR.o.1.m8.size zj (rz s) rfl 22
     have H6:Aside (zdt w v' (P++ [s]) na w6/\(P++ [s]).length=P.length+1):=by
      refine ⟨⟨HR.o.1.m8.grown hg6 HR.o.1.m8.size (fun q hq=>(HR.o.1.row.lt q hq).1),?_,fun y hy=> ?_,?_⟩,zq⟩
      ·rw [uS,Zz];exact ho6
      ·rcases uU.1 hy with q | q
       ·exact HR.o.1.size y q
       rw [Zc.1 q];exact HR.o.2
      rw [uS];exact uQ HR.o.1.ahead (Nat.le_add_right _ _)
     unfold rz at ae;obtain ⟨va,vc,hv⟩:=mC H6.o.1.row;subst hv;rw [H6.o.2] at ae;by_cases hct:k<ct
     ·have dc:qlt k ct=true:=by simp;omega
      have dcn:decide (k<ct)=true:=zl;go_wp2_with (at_builtin;refine Lib.wpList_append_run _ rfl _ _ _ _ rfl _ _ rfl rfl _ _ ae ?_);go_wp2;go_roundg (L.length - (k+1))
      case measure=>omega
      case rel=>exact ⟨k+1,P.length+1,_,P++ [s],by rw [H6.o.2],zJ,zJ,zj,uM _,by rw [H6.o.2];omega,H6.o.1.m8,H6.o.1.row,H6.o.1.size,by rw [H6.o.2];exact uM _⟩
     have dc:qlt k ct=false:=zl;have dcn:decide (k<ct)=false:=zl;go_wp2_with (at_builtin;refine Lib.wpList_append_run _ rfl _ _ _ _ rfl _ _ rfl rfl _ _ ae ?_);go_wp2;go_roundg (L.length - (k+1))
     case measure=>omega
     case rel=>exact ⟨k+1,na,_,P++ [s],by rw [H6.o.2],rfl,zJ,zj,uM _,by rw [H6.o.2];omega,H6.o.1⟩
  have aq:qlt k L.length=false:=zl;have hP40:P.length<=40:=zj;obtain ⟨va,vc,hv⟩:=mC A.o.row;subst hv;have hcap:=QX A.o.row;have hLv:F5 wr va P:=pC A.o.row;obtain ⟨v2,w2,ae,kj,hg2⟩:=Gb (n:=0) (v:=qE) (xs:=[]) (Zk wr wr.heap.size _ _) zj zg va vc P zj hLv hcap.2;rw [Ze] at kj;rw [ZE] at kj;have hb2:qL wr w2:=(uO _ wr).grown hg2 zg (fun q hq=>by cases hq);have hB2:qL w w2:=zi A.o.m8 hb2;obtain ⟨a2,c2,dh⟩:=mC kj;subst dh
  have hsz:∀x∈P,x.size<=1000000:=fun x hx=>uQ (A.o.size x hx) zo
  have hr1:=Ef w2 ((H0.o.1.later hB2).up (uQ H0.o.2.2 hB2.size) zg) a2 c2 P (pC kj) zj hsz
  have H2:Aside (qL w w2/\F5 w2 va P/\na<=P.length/\na<=vc/\∀x∈P,x.size<=1000000):=⟨hB2,hLv.later hb2,A.o.ahead,uQ A.o.ahead hcap.1,hsz⟩
  go_wp2_with (at_builtin;refine Lib.wpList_append_run _ rfl _ _ _ _ rfl _ _ rfl rfl _ _ ae ?_);refine hr1.mono ?_;rintro e w3 ⟨v3,tl,K,st,K',st',N',rfl,H3⟩;have aG:=Ha va P.length vc na H2.o.2.2.2.1;have hb3:=H3.o.2.2.2.2.2;have hB3:qL w w3:=zi H2.o.1 hb3
  have lM:(P.take na).length=na:=by rw [Zp];exact YW H2.o.2.2.1
  have hr2:=Ef w3 ((H0.o.1.later hB3).up (uQ H0.o.2.2 hB3.size) zg) va vc (P.take na) ((H2.o.2.1.later hb3).take na) (by rw [lM];have:=H2.o.2.2.1;omega) (fun x hx=>H2.o.2.2.2.2 x (Yw hx));rw [lM] at hr2
  have HP:Aside ((P.take na).length=na/\qL w w3):=⟨lM,hB3⟩
  obtain ⟨a3,c3,hv3⟩:=mC H3.o.2.2.2.2.1;subst hv3;have HL:Aside (tl.length=P.length):=H3.o.2.2.2.1;rw [HL.o];go_wp2_with fail;refine hr2.mono ?_;rintro e w4 ⟨v4,ul,K2,st2,K2',st2',N2',rfl,H4⟩
  have hul:ul=tl.take na:=by
   have:=Rl na H2.o.2.2.2.2 H3.o.2.1 H3.o.2.2.1 H4.o.2.1 H4.o.2.2.1 H3.o.1 H4.o.1;rwa [HP.o.1] at this
  subst hul
  have hnaT:(tl.take na).length=na:=by rw [Zp,HL.o];exact YW H2.o.2.2.1
  have hb4:=H4.o.2.2.2.2.2;have hB4:qL w w4:=zi HP.o.2 hb4;have kh:=H3.o.2.2.2.2.1;have kH:=(QX kh).1;rw [HL.o] at kH;have hl3:F5 w3 a3 (tl.map mkT):=Di kh rfl;obtain ⟨a4,c4,hv4⟩:=mC H4.o.2.2.2.2.1;subst hv4;have hl4:F5 w4 a4 ((tl.take na).map mkT):=Di H4.o.2.2.2.2.1 rfl;rw [List.map_take] at hl4;have aN:=Ha a3 P.length c3 na (uQ H2.o.2.2.1 kH);obtain ⟨M,hM⟩:=za ((tl.map mkT).take na);have hl5:=(hl3.later hb4).take na
  have hlM:M.length=na:=by rw [hM,Zp,Zj,HL.o];exact YW H2.o.2.2.1
  rw [<-hM] at hl4 hl5;have bQ:=ta w4 a3 a4 c3 c4 M (by rw [hlM];have:=H2.o.2.2.1;omega) hl5 hl4;rw [hlM] at bQ;rw [hnaT];have H5:Aside (qL w w4):=hB4;go_wp2_with fail;refine bQ.mono ?_;rintro e w5 ⟨rfl,hb5⟩;have H6:Aside (qL w w5):=zi H5.o hb5;go_wp2;go_ret;exact ⟨rfl,H6.o⟩
end
section
open ChangeShapes RowKit
theorem CU{P}{W}{ti tp te ts}{ms}{nm}{f}
  (hi:P.underlying ti=some (.interface ms)) (hrow:∀u,P.typeName? 3 u=some nm->u=tp) (hp:P.underlying tp=some (.pointer te)) (he:P.underlying te=some (.struct #[f])) (hft:f.type=ts) (hfo:f.offset=0) (hs:P.underlying ts=some .string) (hc:P.cellsOf te=1) (hcs:P.cellsOf ts=1):
  ∀(l:List (String×Nat×qU)) (ps:List MemPlace),
   (∀x∈l,P.globalNamed x.1=some x.2.1/\(P.globals[x.2.1]?).map (·.type)=some ti)->
   DataW.LaidVars P W (l.map fun x=>(x.1,.iface nm (.ptr (.agg [.lit (.string x.2.2)])))) ps->
   (∀b off,MemPlace.cell b off∈ps->∀u v,W.cell? (qA b off)=some (.iface u v)->Value.okWide P W .any 0 u v)->
   ∀x∈l,∃a,W.cell? (qB x.2.1)=some (.iface tp (.pointer (some a)))/\W.cell? a=some (.string ⟨x.2.2.toArray⟩)
 | [],ps,_,_,_,x,hx=>ya
 | y::l,ps,hx,hv,hr,x,hm=>by
  obtain ⟨g,t,cs,fuel,p,q,hg,ht,dU,hd,hq,e⟩:=hv;subst e
  rcases uZ.1 hm with rfl | hm
  ·obtain ⟨hg',gX⟩:=hx x Zq;obtain rfl:=Option.some.inj (hg'.symm.trans hg);obtain rfl:=Option.some.inj (gX.symm.trans ht);obtain ⟨l0⟩:=cs
   have ok0:∀u v,l0= [.iface u v]->Value.okWide P W .any 0 u v:=fun u v e=>by
    subst e;exact hr x.2.1 0 vW u v (by simpa using YV hg dU 0)
   obtain ⟨a0,s0,rfl,fB,fP,-,rfl⟩:=errorString_of_trod hi hrow hp he hft hfo hs hc hcs hd ok0;exact ⟨a0,by simpa using YV hg dU 0,by rw [fB,<-fP]⟩
  exact CU hi hrow hp he hft hfo hs hc hcs l q (fun z hz=>hx z (Za _ hz)) hq (fun b off hz=>hr b off (ZD _ hz)) x hm
def zdY(k:Nat):Nat:=[1,0,2,3,4,5,6,7,8,9,10].getD k 0
theorem Sl{B}{ad}{W}(h:E7 B ad W):∀k,k<11->W.cell? (qB (zdY k))=some (.iface 437 (.pointer (some (ad k))))
 | 0,_=>h.j.H.et
 | 1,_=>h.t.G6.Q1.c1
 | 2,_=>h.t.G6.Q1.c2
 | 3,_=>h.t.G6.Q1.c3
 | 4,_=>h.t.G6.Q1.c4
 | 5,_=>h.t.G6.c5
 | 6,_=>h.t.G6.c6
 | 7,_=>h.t.G6.c7
 | 8,_=>h.t.G6.c8
 | 9,_=>h.t.G6.c9 h.cyc.o
 | 10,_=>h.j.H.aaX.c10
 | k+11,hk=>zj
theorem Xy{ad}{W}(hE:E7 W.heap.size ad W)(l:List (String×Nat×qU))(hn:∀x∈l,prog.globalNamed x.1=some x.2.1/\(prog.globals[x.2.1]?).map (·.type)=some 25)(hl:∀k,k<11->(l[k]?).map (·.2)=some (zdY k,sg (k+1)))
  (h:laidMet prog (l.map fun x=>(x.1,.iface "*errors.errorString" (.ptr (.agg [.lit (.string x.2.2)])))) W):∃m:Int,J0 W.heap.size ad m W:=by
 obtain ⟨m,hm⟩:=hE.j.H.mx;obtain ⟨ps,hv,-,hr⟩:=h;have ht:=CU underlying25 Tryz.acM underlying437 underlying455 rfl rfl underlying9 Tryz.abB Tryz.U l ps hn hv (fun b off hz=>(hr b off hz).2);refine ⟨m,hE,⟨hE.t.is,hm⟩,Sl hE 0 zj,fun k hk=> ?_,hE.t.G6.low⟩;have e:=hl k hk
 cases hx:l[k]? with
 | none=>rw [hx] at e;cases e
 | some x=>
  rw [hx] at e;have e2:x.2=(zdY k,sg (k+1)):=Option.some.inj e;obtain ⟨a,h1,h2⟩:=ht x (uR hx);rw [e2] at h1 h2;have h3:=Sl hE k hk
  simp_all [Option.some.injEq,Value.iface.injEq,Value.pointer.injEq,true_and,uP]
end
section
open ChangeShapes WideShapes ChangeAt RowKit Joins ChangeMaps
theorem SAgain.L4:ownKnob prog.godebug=none:=zk
theorem SAgain.ab2:laidOutB prog=true:=zk
theorem SAgain.abK{W:qW}(h:laidMetH prog Rows.scriptAgainRow.laid W)(cl:W.ShapedOpen prog):∃(ad:qF) (m:Int),J0 W.heap.size ad m W:=by
 rw [MakeChecks.laidMetH_plain _ _ _ zk] at h;have h':laidMet prog BF W:=h;obtain ⟨ad,hE⟩:=zaz h' cl;obtain ⟨m,hS⟩:=Xy hE elevenE BP zo (BS _ sr _ h');exact ⟨ad,m,hS⟩
theorem SAgain.acz{H:Type}{enc:TypeId×Value->H}{C:Checked}{os:Os}{f:FuncId}{fn:Func}{s:ChangeSpec}{apart fresh handsOn kZ:Bool}{X:World->Array Value->Prop}
  (hX:∀(w w':qW) (args:Array Value),w.heap=w'.heap->X w args->X w' args)
  (L4:ownKnob C.prog.godebug=none) (started:os.Started) (lp:C.prog.inits.idxOf? f=none) (hfn:C.prog.funcs[f]? =some fn)
  (witness:∃(w:qW) (tape:Tape) (i:Input),w.os=os/\(w.forCall tape i).Shaped C.prog/\i.vars= []/\Input.okWide C.prog (w.forCall tape i) .any w.heap.size f i/\
   ((s.pre enc C.prog fn [] apart (w.forCall tape i).memory i.args/\X (w.forCall tape i).memory i.args)/\sizedMet enc C.prog fn (OpenSpec.ofChange s) apart (w.forCall tape i).memory i.args)/\({} :Assume).holds C.prog (lone (Frame.enter C.prog f i.args .normal) [] (w.forCall tape i)))
  (iK:∀(W:qW) (l9:Nat) (args:Array Value) (ds gs:List (DataW H)) (before:List MemPlace),
   (∀(j:Nat) t v,fn.params[j]? =some t->args[j]? =some v->Value.okWide C.prog W .any l9 t v)->
   DataW.Whole enc C.prog fn.params.toList s.vars apart W args.toList ds gs before->X W args->W.ShapedOpen C.prog->
   Calls C.prog f args W fun e W'=>∃v,e= .returned v/\s.post enc C.prog fn apart fresh handsOn kZ W args v W'):
  ReturnsInHanded {} C os f .any (fun w args=>(s.pre enc C.prog fn [] apart w args/\X w args)/\sizedMet enc C.prog fn (OpenSpec.ofChange s) apart w args) (s.post enc C.prog fn apart fresh handsOn kZ):=by
 refine returnsInHanded_of_calls L4 started lp witness ?_;intro w tape i _ aag _ ok pre _;obtain ⟨-,-,-,g,hg,-,-,-,-,vals⟩:=ok;obtain rfl:g=fn:=Option.some.inj (hg.symm.trans hfn);obtain ⟨⟨⟨ds,gs,before,whole,-⟩,listed⟩,-⟩:=pre;refine (iK (w.forCall tape i) w.heap.size i.args ds gs before vals (DataW.Whole.of_heap (w':=w.forCall tape i) zt whole) (hX _ _ _ zt listed) aag).mono ?_;rintro _ W' ⟨v,rfl,post⟩;exact ChangeSpec.post_blind post
theorem SAgain.acC(os:Os)(started:os.Started)(H:Type)(enc:TypeId×Value->H):
  ReturnsInHanded {} Tryz.checked os 4 .any (fun w args=>(Rows.scriptAgainSpec.pre enc prog f4 [] false w args/\laidMetH prog Rows.scriptAgainRow.laid w)/\sizedMet enc prog f4 (OpenSpec.ofChange Rows.scriptAgainSpec) false w args)
   (Rows.scriptAgainSpec.post enc prog f4 false true false false):=by
 refine acz (C:=Tryz.checked) (X:=fun w _=>laidMetH prog Rows.scriptAgainRow.laid w) (fun _ _ _ hh h=>h.of_heap hh) L4 started zk func4
  (ChangeSpec.witness_shaped (enc:=enc) (C:=Tryz.checked) (os:=os) (X:=fun w _=>laidMetH prog Rows.scriptAgainRow.laid w) false ((World.doorLaid prog 400 os).layVars prog J2) #[qE,qI 0] 8 (World.layVars_os _ _ _) (abA os _) zk zk zk (aci os _)) ?_
 intro W l9 args ds gs before hval0 hW hL cl;have hval:∀(j:Nat) t v,f4.params[j]? =some t->args[j]? =some v->Value.okWide prog W .any l9 t v:=hval0;have fX:=hW;obtain ⟨p,q,hA0,hV,rfl,hfz,bU⟩:=hW;have hA:DataW.TrodAll enc prog W 0 (fun _=>true) true f4.params.toList args.toList ds p:=hA0;rw [params4] at hA hval;obtain ⟨z0,z1,d0,d1,p0,p1,rfl,rfl,rfl,h0,h1⟩:=trodAll_two hA;obtain ⟨rfl,rfl⟩:=trodVars_none hV;obtain ⟨ao,y9,cap,rfl⟩:=okWide_slice underlying34 (hval 0 34 z0 rfl rfl);obtain ⟨aL,rfl,rfl,rfl,wm⟩:=open_int underlying3 (hval 1 3 z1 rfl rfl) h1;obtain ⟨xs,rfl,hmax,hX⟩:=zaU h0;obtain ⟨ad,m,hE⟩:=abK hL cl
 have walk:qC 4 #[.slice ao xs.length cap,qI aL] W (qR (.bool true) W):=
  Ca W hE ao cap xs aL hX (by simp only [maxLen] at hmax;omega) (zeE wm)
 refine walk.mono fun e W' ⟨he,hb⟩=> ?_
 subst he
 have hlt0:∀x∈p0,x.block<W.heap.size:=fun x hx=>by simpa using fX.lt x (by simp [hx])
 refine ⟨_,rfl,_,_,_,[],p0++ [],[],fX,?_,?_,?_,hb.frame _,fun h=>qd⟩
 ·exact trodAll_mk1 (shut_bool underlying4 true)
 ·exact trodAll_mk2 (Below.trod ab2 zk (of_decide_eq_true zk) h0 hb hlt0) (shut_int underlying3 wm)
 rfl
theorem SAgain.adj:Rows.ScriptAgainSaid:=
 OpenClaim.holds_of_wide 4 f4 rfl rfl rfl rfl rfl rfl rfl ⟨rfl,rfl,rfl,rfl,rfl⟩ rfl rfl rfl rfl rfl zk func4 acB
  (of_decide_eq_true zk) (by unfold Func.isWrapper;first | (rw [if_pos qb];kernel_rfl) | (rw [if_neg qb];exact ⟨rfl,rfl⟩))
  (fun os started H enc _=>acC os started H enc)

end