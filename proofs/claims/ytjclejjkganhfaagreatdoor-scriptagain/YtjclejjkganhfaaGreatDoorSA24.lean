import Derived.Test.YtjclejjkganhfaaGreatDoorSA22
import Derived.Test.YtjclejjkganhfaaGreatDoorSA23
set_option linter.unusedSimpArgs false
set_option linter.unusedVariables false
set_option maxRecDepth 100000
set_option maxHeartbeats 64000000
namespace Go.Proofs.YtjclejjkganhfaaGreatDoor
open Go.Proofs.Tryz
section
open RowKit Lib Go.Sort Maps
structure S9 (B:Nat) (ad:qF) (w:qW):Prop where
 G6:F1 B ad w
 tab:Lib.TabBelow prog B w "internal/strconv.uint64pow10" .u64 Lib.pow10Tab
theorem S9.mono{B}{ad}{w w'}(h:S9 B ad w)(hb:Below B w w'):S9 B ad w':=⟨h.G6.mono hb,fun w'' h'=>h.tab w'' (hb.trans h')⟩
theorem S9.later{B}{ad}{w w'}(h:S9 B ad w)(hb:qL w w'):S9 B ad w':=h.mono (hb.mono h.G6.size)
theorem S9.up{B B'}{ad}{w}(h:S9 B ad w)(hB:B<=B')(hs:B'<=w.heap.size):S9 B' ad w:=
 ⟨⟨h.G6.Q1,h.G6.c5,h.G6.c6,h.G6.c7,h.G6.c8,h.G6.c9,uQ h.G6.low hB,hs⟩,fun w' h'=>h.tab w' (h'.mono hB)⟩
theorem S9.is{B}{ad}{w}(h:S9 B ad w):Lib.TabIs prog w "internal/strconv.uint64pow10" .u64 Lib.pow10Tab:=h.tab w (uO _ w)
theorem C8.abE{B B'}{w}{c}{br}{o8}{R}(h:C8 B w c br o8 R)(hB:B'<=B):C8 B' w c br o8 R:=⟨h.G4,fun k hk=>uQ hB (h.low k hk),h.high⟩
theorem L0.D6{w}{c}{br}{o8}{R}(h:L0 w c br o8 R):t7 R:=ud
structure zeL (B:Nat) (w:qW) (n:Nat) (c:Nat->Nat->Nat) (br:Nat->Nat) (o8:Nat->Int) (R:qH):Prop where
 G4:∀r,r<n->C8 B w (c r) (br r) (o8 r) (R r)
 apart:∀r,r<n->∀s,s<n->r≠s->∀k,c r k=0\/c s k=0
def lR{α:Type}(f:Nat->α)(a:Nat)(x:α):Nat->α:=fun r=>if r=a then x else f r
theorem lU{α}(f)(a)(x:α):lR f a x a=x:=if_pos rfl
theorem lP{α}(f){a r}(x:α)(h:r≠a):lR f a x r=f r:=if_neg h
theorem C8.h{B}{w}{c}{br}{o8}{R}(h:C8 B w c br o8 R):t7 R:=h.G4.D6
theorem L0.time{w}{c}{br}{o8}{R}(h:L0 w c br o8 R):∃T kv bt bx bc A,I2 w c br T o8 kv bt bx bc R A/\A.Perm (lY R)/\oA (lY R) T:=by
 obtain ⟨T,kv,bt,bx,bc,A,h1,h2,_⟩:=h;exact ⟨T,kv,bt,bx,bc,A,h1,h2,⟨fun x hx=>h1.time.1 x (h2.mem_iff.2 hx),h1.time.2.1.imp id (fun ⟨x,hx,e⟩=>⟨x,h2.mem_iff.1 hx,e⟩),h1.time.2.2⟩⟩
end
section
open scoped Classical
theorem sM{x}(h:wR x=0):(mO x).length<=150:=by
 exact kc0
theorem Ml{D}(h:∀x∈D,wR x=0):(oM D).length<=160*D.length:=by
 induction D with
 | nil=>simp [oM]
 | cons x l ih=>
  grind [sM,nE,mO,oM,uS,nG,Zd]
def I1(st:DSt)(D:qX):Prop:=(∀x∈D,wR x=0)/\((st.2.1=false/\st.1=oM D)\/(st.2.1=true/\st.2.2.1=false/\∃r,st.1=oM D++r/\r.length<=160/\nB r=none))
theorem I1.y9{st}{D}(h:I1 st D):st.1.length<=160*D.length+160:=by
 have h1:=Ml h.1
 rcases h.2 with ⟨_,hB⟩ | ⟨_,_,r,hB,hr,_⟩
 ·rw [hB];omega
 grind
theorem I1.app{st}{D}(h:I1 st D)(hl:0<=st.2.2.2)(hD:D.length<=320){x}(he:wR x=0):((pJ st x).1=0/\st.2.1=false/\(pJ st x).2.2.1=false/\I1 (pJ st x).2 (D++ [x]))\/((pJ st x).1=11/\(pJ st x).2.2.1=true/\I1 (pJ st x).2 D):=by
 have hlen:=h.y9;have fp:=sM he;have dA:=nG (mO x);obtain ⟨B,off,waits,left⟩:=st;dsimp only at hl hlen;obtain ⟨h0,h⟩:=h;unfold pJ;rw [if_neg (fun q=>q he),if_neg yj]
 have dC:∀y∈D++ [x],wR y=0:=fun y hy=>by
  grind
 rcases h with ⟨h1,hB⟩ | ⟨h1,h2,r,hB,hr1,hr2⟩
 ·dsimp only at h1 hB;subst h1
  cases waits with
  | false=>
   rw [Ar];exact kl1
  | true=>
   obtain ⟨n,rfl⟩:∃n:Nat,left=(n:Int):=⟨left.toNat,zj⟩
   rw [LM];by_cases hn:(nE (mO x)).length<=n
   ·rw [if_pos hn];exact kl1
   rw [if_neg hn];dsimp only;rw [if_neg zq];refine .inr ⟨rfl,rfl,h0,.inr ⟨rfl,rfl,(nE (mO x)).take n,by rw [hB],?_,RY he zj⟩⟩
   grind
 dsimp only at h1 h2 hB;subst h1;subst h2;obtain ⟨c,r',hc⟩:=zbL (mO x);rw [hc,Pa];dsimp only;rw [if_neg zq];exact .inr ⟨rfl,rfl,h0,.inr ⟨rfl,rfl,r,hB,hr1,hr2⟩⟩
theorem I1.acN{st}{D}(h:I1 st D):(mp st.1).1=D/\I1 (tg st) D/\(tg st).2.1=false:=by
 have h1:mp st.1=(D,(oM D).length):=by
  rcases h.2 with ⟨_,hB⟩ | ⟨_,_,r,hB,_,hr⟩
  ·rw [hB];exact Ok D h.1
  rw [hB];exact AK D r h.1 hr
 refine ⟨by rw [h1],⟨h.1,.inl ⟨rfl,?_⟩⟩,rfl⟩;unfold tg;rw [h1];dsimp only
 rcases h.2 with ⟨_,hB⟩ | ⟨_,_,r,hB,_,hr⟩
 ·rw [hB,Zl zg]
 simp_all
theorem I1.cut{st}{D}(h:I1 st D)(n):I1 (BH st n) D/\(BH st n).2.1=st.2.1:=by
 unfold BH;split
 ·rename_i e;refine ⟨⟨h.1,?_⟩,rfl⟩
  rcases h.2 with ⟨h1,h2⟩ | ⟨h1,_⟩
  ·exact .inl ⟨h1,h2⟩
  grind [JS]
 exact ⟨h,rfl⟩
theorem SI:I1 ([],false,false,0) []:=⟨fun x hx=>ya,.inl ⟨rfl,rfl⟩⟩
theorem MC{S S' F}(hS:D5 S)(fl:D5 S')(dy:∀x∈S,x∈S')(hF:BR F)(hm:∀x,x∈F↔x∈S'/\x∉S)(k):D5 (S++F.take k):=by
 have up:∀x,x∈S++F.take k->x∈S':=fun x hx=>by
  grind
 have ahead:∀x,x∈F.take k->∀y,y∈S'->idO y<=idO x->y∈S++F.take k:=fun x hx y hy hle=>by
  by_cases hyS:y∈S
  ·simp_all
  have hyF:=(hm y).2 ⟨hy,hyS⟩;have bD:=(hm x).1 (Yw hx);refine ZD _ ?_;by_cases e:idO y=idO x
  ·rw [fl.J hy bD.1 (zcj (fl.ok y hy) (fl.ok x bD.1) e)];exact hx
  exact Qr hF hx hyF (zdf (fl.ok y hy) (fl.ok x bD.1) zj)
 have le_id:∀x y,x∈S'->y∈S'->CLt (stO y) (stO x)->idO y<=idO x:=fun x y hx hy h=>by
  have a:=mP (fl.ok x hx);have b:=mP (fl.ok y hy);unfold CLt stO at h;unfold idO;omega
 have mono:∀x,x∈S->x∈S++F.take k:=fun x hx=>Zo _ hx
 refine ⟨fun x hx=>fl.ok x (up x hx),fun x hx y hy=>fl.one x (up x hx) y (up y hy),fun x hx=> ?_,fun x hx y hy=>fl.K7 x (up x hx) y (up y hy),fun x hx=> ?_⟩
 ·rcases uU.1 hx with q | q
  ·exact (hS.gap x q).imp id (fun ⟨y,hy,e⟩=>⟨y,mono y hy,e⟩)
  rcases fl.gap x (up x hx) with e | ⟨y,hy,e1,e2⟩
  ·exact .inl e
  exact .inr ⟨y,ahead x q y hy (le_id x y (up x hx) hy (fl.K7 y hy x (up x hx) e1 e2)),e1,e2⟩
 rcases uU.1 hx with q | q
 ·exact (hS.Q6 x q).mono mono
 obtain ⟨r1,r2,r3⟩:=fl.Q6 x (up x hx);have hz:=mP (fl.ok x (up x hx));have hn:mU x<=idO x:=hz.2.2.2.2.2.2.2.2.1;have hoo:mT x<=idO x:=hz.2.2.2.2.2.2.2.2.2.2.1
 have kn:∀nd,nd<=idO x->m9 S' nd->m9 (S++F.take k) nd:=fun nd hn ⟨m,hm,q1,q2,q3⟩=>⟨m,ahead x q m hm zj,q1,q2,q3⟩
 have ln:∀nd id,id<=idO x->I8 S' nd id->I8 (S++F.take k) nd id:=fun nd id hn ⟨m,hm,q1,q2,q3⟩=>⟨m,ahead x q m hm zj,q1,q2,q3⟩
 exact ⟨r1.imp id (kn _ hn),fun e=>(r2 e).imp id (fun q=>q.imp id (kn _ hoo)),fun e=>ln _ _ hoo (r3 e)⟩
structure J7 (n i:Nat) (G:qX) (S D:Nat->List OpX) (off:Nat->Bool):Prop where
 one:∀x∈G,∀y∈G,byO x=byO y->mB x=mB y->x=y
 ok:∀x∈G,mz x=0
 I7:G.Nodup
 y9:G.length<=i
 time:∀x∈G,x.1<=(i:Int)
 L4:∀x∈G,∃r:Nat,r<n/\byO x=(r:Int)/\x∈D r
 sub:∀r,r<n->∀x∈S r,x∈G
 x8:∀r,r<n->∀x∈D r,x∈S r
 on:∀r,r<n->off r=false->∀x∈S r,x∈D r
 G5:∀r,r<n->D5 (S r)
 W9:∀r,r<n->D5 (D r)/\(D r).Nodup
section
variable {n i:Nat} {G:qX} {S D:Nat→List OpX} {off:Nat→Bool}
theorem J7.start(n)(off):J7 n 0 [] (fun _=>[]) (fun _=>[]) off:=
 ⟨fun x hx=>ya,fun x hx=>ya,YZ,uM _,fun x hx=>ya,fun x hx=>ya,fun _ _ x hx=>ya,fun _ _ x hx=>ya,fun _ _ _ x hx=>ya,fun _ _=>Cu,fun _ _=>⟨Cu,YZ⟩⟩
theorem J7.up(h:J7 n i G S D off){j}(ay:i<=j):J7 n j G S D off:=
 ⟨h.one,h.ok,h.I7,uQ h.y9 ay,fun x hx=>by have:=h.time x hx;omega,h.L4,h.sub,h.x8,h.on,h.G5,h.W9⟩
theorem J7.acv(h:J7 n i G S D off){r:Nat}{x}(hx:x∈G)(e:byO x=(r:Int)):x∈D r:=by
 obtain ⟨q,hq,e1,e2⟩:=h.L4 x hx
 grind
theorem J7.ada(h:J7 n i G S D off){r}(hr:r<n)(hn:(S r).Nodup):(S r).length<=i:=uQ (oS hn (fun x hx=>h.sub r hr x hx)) h.y9
theorem J7.aa9(h:J7 n i G S D off){r}(hr:r<n):(D r).length<=i:=uQ (oS (h.W9 r hr).2 (fun x hx=>h.sub r hr x (h.x8 r hr x hx))) h.y9
theorem J7.aa1(h:J7 n i G S D off){A C}(hA:∀x∈A,x∈G)(hC:∀x∈C,x∈G):R5 A C:=fun x hx y hy=>h.one x (hA x hx) y (hC y hy)
theorem J7.abT(h:J7 n i G S D off){off'}(ho:∀r,r<n->off' r=false->off r=false):J7 n i G S D off':=
 ⟨h.one,h.ok,h.I7,h.y9,h.time,h.L4,h.sub,h.x8,fun r hr e=>h.on r hr (ho r hr e),h.G5,h.W9⟩
theorem J7.congr(h:J7 n i G S D off){S'}(e:∀r,r<n->∀x,x∈S r↔x∈S' r):J7 n i G S' D off:=
 ⟨h.one,h.ok,h.I7,h.y9,h.time,h.L4,fun r hr x hx=>h.sub r hr x ((e r hr x).2 hx),fun r hr x hx=>(e r hr x).1 (h.x8 r hr x hx),fun r hr o x hx=>h.on r hr o x ((e r hr x).2 hx),fun r hr=>(h.G5 r hr).congr (e r hr),h.W9⟩
theorem J7.put(h:J7 n i G S D off){a:Nat}{S' D'}{o}(hS:∀x∈S',x∈G)(hD:∀x∈D',x∈S')(hk:∀x∈G,byO x=(a:Int)->x∈D')(ho:o=false->∀x∈S',x∈D')(hw:D5 S')(hd:D5 D')(hn:D'.Nodup):J7 n i G (lR S a S') (lR D a D') (lR off a o):=by
 refine ⟨h.one,h.ok,h.I7,h.y9,h.time,fun x hx=> ?_,fun r hr x hx=> ?_,fun r hr x hx=> ?_,fun r hr e x hx=> ?_,fun r hr=> ?_,fun r hr=> ?_⟩
 ·obtain ⟨q,hq,e1,e2⟩:=h.L4 x hx
  grind [lU,lP]
 ·by_cases e:r=a
  ·subst e;rw [lU] at hx;exact hS x hx
  rw [lP _ _ e] at hx;exact h.sub r hr x hx
 ·by_cases e:r=a
  ·grind [lU]
  rw [lP _ _ e] at hx |-;exact h.x8 r hr x hx
 ·by_cases q:r=a
  ·grind [lU]
  rw [lP _ _ q] at hx e |-;exact h.on r hr e x hx
 ·by_cases e:r=a
  ·subst e;rw [lU];exact hw
  rw [lP _ _ e];exact h.G5 r hr
 by_cases e:r=a
 ·subst e;rw [lU];exact ⟨hd,hn⟩
 rw [lP _ _ e];exact h.W9 r hr
theorem J7.aca(h:J7 n i G S D off){a}(ha:a<n){x}{S'}(hon:off a=false)(hb:byO x=(a:Int))(ht:x.1<=(i:Int)+1)(hw:D5 (x::S a))(hnew:∀y∈S a,byO y=byO x->mB y<mB x)(hm:∀y,y∈S'↔y=x\/y∈S a):J7 n (i+1) (G++ [x]) (lR S a S') (lR D a (D a++ [x])) (lR off a false):=by
 have hxG:∀y∈G,byO y=byO x->mB y<mB x:=fun y hy e=>hnew y (h.x8 a ha y (h.acv hy (e.trans hb))) e
 have gi:∀y∈G,y≠x:=fun y hy e=>zN
 have hD:∀y,y∈D a++ [x]↔y∈x::S a:=fun y=>by
  rw [uU,Zc,uZ];constructor
  ·rintro (q | q)
   ·exact .inr (h.x8 a ha y q)
   exact .inl q
  rintro (q | q)
  ·exact .inr q
  exact .inl (h.on a ha hon y q)
 refine ⟨fun y hy z hz e1 e2=> ?_,fun y hy=> ?_,?_,?_,fun y hy=> ?_,fun y hy=> ?_,fun r hr y hy=> ?_,fun r hr y hy=> ?_,fun r hr e y hy=> ?_,fun r hr=> ?_,fun r hr=> ?_⟩
 ·rcases uU.1 hy with p | p<;>rcases uU.1 hz with q | q
  ·exact h.one y p z q e1 e2
  ·rw [Zc.1 q] at e1 e2;have:=hxG y p e1;omega
  ·rw [Zc.1 p] at e1 e2;have:=hxG z q e1.symm;omega
  simp_all
 ·rcases uU.1 hy with p | p
  ·exact h.ok y p
  rw [Zc.1 p];exact hw.ok x Zq
 ·rw [ZM];refine ⟨h.I7,zq,fun y hy z hz=> ?_⟩
  simp_all
 ·rw [uS];have:=h.y9;simp;omega
 ·rcases uU.1 hy with p | p
  ·have:=h.time y p;omega
  simp_all
 ·rcases uU.1 hy with p | p
  ·obtain ⟨q,hq,e1,e2⟩:=h.L4 y p;refine ⟨q,hq,e1,?_⟩;by_cases e:q=a
   ·subst e;rw [lU];exact Zo _ e2
   rw [lP _ _ e];exact e2
  grind [lU]
 ·by_cases e:r=a
  ·subst e;rw [lU] at hy
   rcases (hm y).1 hy with q | q
   ·rw [q];simp
   exact Zo _ (h.sub r hr y q)
  rw [lP _ _ e] at hy;exact Zo _ (h.sub r hr y hy)
 ·by_cases e:r=a
  ·grind [lU]
  rw [lP _ _ e] at hy |-;exact h.x8 r hr y hy
 ·by_cases q:r=a
  ·grind [lU]
  rw [lP _ _ q] at hy e |-;exact h.on r hr e y hy
 ·by_cases e:r=a
  ·subst e;rw [lU];exact hw.congr (fun y=>zM)
  rw [lP _ _ e];exact h.G5 r hr
 by_cases e:r=a
 ·subst e;rw [lU];refine ⟨hw.congr (fun y=>(hD y).symm),?_⟩;rw [ZM];refine ⟨(h.W9 r hr).2,zq,fun y hy z hz=> ?_⟩;rw [Zc.1 hz];exact gi y (h.sub r hr y (h.x8 r hr y hy))
 rw [lP _ _ e];exact h.W9 r hr
theorem J7.aaQ(h:J7 n i G S D off){a}(ha:a<n){l S' F:qX}{k}{o}(hl:∀x∈l,x∈G)(hm:∀x,x∈S'↔x∈S a\/x∈l)(hw:D5 S')(hF:BR F)(hFn:F.Nodup)(hFm:∀x,x∈F↔x∈S'/\x∉S a)(iW:off a=true->k=0)(hko:o=false->off a=false/\F.length<=k):J7 n i G (lR S a S') (lR D a (D a++F.take k)) (lR off a o):=by
 have hS:∀x∈S',x∈G:=fun x hx=>((hm x).1 hx).elim (h.sub a ha x) (hl x)
 refine h.put hS (fun x hx=> ?_) (fun x hx e=>Zo _ (h.acv hx e)) (fun e x hx=> ?_) hw ?_ ?_
 ·rcases uU.1 hx with q | q
  ·exact (hm x).2 (.inl (h.x8 a ha x q))
  grind
 ·obtain ⟨e1,e2⟩:=hko e;rw [Zl e2];by_cases bD:x∈S a
  ·exact Zo _ (h.on a ha e1 x bD)
  simp_all
 ·cases ho:off a with
  | true=>rw [iW ho,List.take_zero,Ye];exact (h.W9 a ha).1
  | false=>
   refine (MC (h.G5 a ha) hw (fun x hx=>(hm x).2 (.inl hx)) hF hFm k).congr (fun x=> ?_);rw [uU,uU];exact or_congr ⟨h.on a ha ho x,h.x8 a ha x⟩ Iff.rfl
 rw [ZM];refine ⟨(h.W9 a ha).2,hFn.sublist (List.take_sublist _ _),fun x hx y hy e=> ?_⟩;subst e;exact ((hFm x).1 (Yw hy)).2 (h.x8 a ha x hx)
theorem J7.acc(h:J7 n i G S D off){a}(ha:a<n){S'}(hm:∀x,x∈S'↔x∈D a):J7 n i G (lR S a S') (lR D a (D a)) (lR off a false):=
 h.put (fun x hx=>h.sub a ha x (h.x8 a ha x ((hm x).1 hx))) (fun x hx=>(hm x).2 hx) (fun x hx e=>h.acv hx e) (fun _ x hx=>(hm x).1 hx) ((h.W9 a ha).1.congr (fun x=>(hm x).symm)) (h.W9 a ha).1 (h.W9 a ha).2
end
end
section
open RowKit Lib Go.Sort Maps
open scoped Classical
theorem By{l}(h:∀x∈l,mz x=0):WN l:=fun x hx=>by
 have q:=mP (h x hx);have l1:x.2.2.2.2.2.2.1.data.toList.length=x.2.2.2.2.2.2.1.size:=zq;have l2:x.2.2.2.2.2.2.2.data.toList.length=x.2.2.2.2.2.2.2.size:=zq;omega
def Sh(B:Nat)(w:qW)(c:Nat->Nat)(br:Nat)(o8:Int)(R:Rws)(l:qX)(e:Ending)(w':qW):Prop:=∃(n:Nat) (c':Nat->Nat) (R':Rws),e=qT #[qN n,.nilIface]/\M5 w c w' c'/\C8 B w' c' br o8 R'/\(∀x,x∈lY R'↔x∈lY R\/x∈l)/\(lY R').length=(lY R).length+n
theorem Uq{R R'}{F}(hR:t7 R)(hR':t7 R')(hF:M8 (lY R) F)(hm:∀x,x∈lY R'↔x∈lY R++F):(lY R').length=(lY R).length+F.length:=by
 have n1:=hR'.num.I7
 have n2:(lY R++F).Nodup:=by
  exact kh3
 have a1:=oS n1 (fun x hx=>(hm x).1 hx);have a2:=oS n2 (fun x hx=>(hm x).2 hx);rw [uS] at a1 a2;omega
theorem Wu{B}{ad}(w)(c)(br)(o8)(R)(la)(lc)(T l)(h:C8 B w c br o8 R)(hE:S9 B ad w)(ar:F2 w la l)(hT:D5 T)(hc:R5 (lY R) T)(hl:∀x,x∈l->x∈T)(ir:∀x,x∈T->x∈lY R\/x∈l)(hn:(lY R).length+l.length<=250):
  qC 116 #[qP br,.slice la l.length lc] w (Sh B w c br o8 R l):=by
 obtain ⟨fresh,h1,h2,h3,h4⟩:=Hr h.h hT hc hl ir zj;refine (Tq w c br o8 R la lc l h hE.G6 ar (By (fun x hx=>hT.ok x (hl x hx))) hn).mono ?_;rintro e w' ⟨a,c',hj,hA,hm⟩;rw [h1 a hj] at hm;obtain ⟨he,R',hR',hmem⟩:=hm;refine ⟨fresh.length,c',R',he,hA,hR',fun x=> ?_,Uq h.h hR'.h h2 hmem⟩;rw [hmem x,h3 x];constructor
 ·rintro (q | q)
  ·exact .inl q
  exact ir x q
 rintro (q | q)
 ·exact .inl q
 exact .inr (hl x q)
theorem NK{B}{ad}(w)(c)(br)(i:Nat)(R)(la)(lc)(T)(x)(h:C8 B w c br (i:Int) R)(hE:S9 B ad w)(hi:i<4)(ar:F2 w la [x])(hx:U0 R i T x)(hT:∀y∈lY R,y.1<=T)(hn:(lY R).length<=240):
  qC 116 #[qP br,.slice la 1 lc] w fun e w'=>∃(c':Nat->Nat) (R':Rws),e=qT #[qI 1,.nilIface]/\M5 w c w' c'/\C8 B w' c' br (i:Int) R'/\(∀y,y∈lY R'↔y=x\/y∈lY R)/\(lY R').length=(lY R).length+1:=by
 have hw:=hx.G5 h.h hi hT
 have hxn:x∉lY R:=fun q=>by have:=hw.2 x q rfl;omega
 refine (Wu w c br (i:Int) R la lc (x::lY R) [x] h hE ar hw.1 (MI hx h.h hi hT) (fun y hy=>by simp at hy;rw [hy];exact Zq) (fun y hy=>by rcases uZ.1 hy with q | q;exact .inr (by simp [q]);exact .inl q) zl).mono ?_;rintro e w' ⟨n,c',R',he,hA,hR',hm,hlen⟩
 have hm':∀y,y∈lY R'↔y=x\/y∈lY R:=fun y=>by rw [hm y];simp only [Zc];exact Or.comm
 have n1:n=1:=by
  have a1:=oS hR'.h.num.I7 (H:=x::lY R) (fun y hy=>by rcases (hm' y).1 hy with q | q;exact uZ.2 (.inl q);exact Za _ q);have a2:=oS (l:=x::lY R) (H:=lY R') (List.nodup_cons.2 ⟨hxn,h.h.num.I7⟩) (fun y hy=>(hm' y).2 (uZ.1 hy));rw [Zd] at a1 a2;omega
 subst n1;exact ⟨c',R',he,hA,hR',hm',hlen⟩
end
section
open RowKit Lib
open scoped Classical
abbrev nO:=Nat×Nat×Bool×(Nat->Int)×Option Addr×Nat×List OpX
abbrev IG(x:nO):List OpX:=x.2.2.2.2.2.2
def At(x:nO):Value:=.slice x.2.2.2.2.1 x.2.2.2.2.2.2.length x.2.2.2.2.2.1
def nY(x:nO):List Value:=[qN x.1,qN x.2.1,.bool x.2.2.1,qI (x.2.2.2.1 0),qI (x.2.2.2.1 1),qI (x.2.2.2.1 2),qI (x.2.2.2.1 3),At x]
theorem mj(x):(nY x).length=8:=rfl
theorem CI(x):∀v∈nY x,v.oneCell'=true:=by
 intro v hv;unfold nY At at hv;simp only [uZ,ZS,or_false] at hv;exact kh5
def BN(bp:Nat->Nat)(n:Nat):List Value:=(List.range n).map fun r=>qP (bp r)
theorem Mr(bp)(n):BN bp (n+1)=BN bp n++ [qP (bp n)]:=by unfold BN;rw [Yt,Zz];rfl
theorem CM(bp){n r}(h:r<n):(BN bp n)[r]? =some (qP (bp r)):=by unfold BN;simp_all
theorem Jn{bp bp'}{n}(h:∀r,r<n->bp r=bp' r):BN bp n=BN bp' n:=by
 grind [BN,Yp]
def u7(w:qW)(p b d:Nat):Prop:=w.heap[p]? =some (.cells #[qP b,qP d] 81 (0,0))
theorem u7.lt{w}{p b d}(h:u7 w p b d):p<w.heap.size:=(uN.1 h).1
theorem u7.c0{w}{p b d}(h:u7 w p b d):w.cell? (qB p)=some (qP b):=by unfold u7 at h;simp [World.cell?,h]
theorem u7.c1{w}{p b d}(h:u7 w p b d):w.cell? (qA p 1)=some (qP d):=by unfold u7 at h;simp [World.cell?,h]
theorem u7.fz{w}{p b d}(h:u7 w p b d)(o):w.frozen? (qA p o)=false:=by unfold u7 at h;simp [World.frozen?,h]
theorem u7.same{w w'}{p b d}(h:u7 w p b d)(e:w'.heap[p]? =w.heap[p]?):u7 w' p b d:=e.trans h
def G7(w:qW)(bm:Nat)(pv fv:Value):Prop:=w.heap[bm]? =some (.cells #[pv,fv] 56 (0,0))
theorem G7.lt{w}{bm}{pv fv}(h:G7 w bm pv fv):bm<w.heap.size:=(uN.1 h).1
theorem G7.c0{w}{bm}{pv fv}(h:G7 w bm pv fv):w.cell? (qB bm)=some pv:=by unfold G7 at h;simp [World.cell?,h]
theorem G7.c1{w}{bm}{pv fv}(h:G7 w bm pv fv):w.cell? (qA bm 1)=some fv:=by unfold G7 at h;simp [World.cell?,h]
theorem G7.fz{w}{bm}{pv fv}(h:G7 w bm pv fv)(o):w.frozen? (qA bm o)=false:=by unfold G7 at h;simp [World.frozen?,h]
theorem G7.aaW{w}{bm}{pv fv}(h:G7 w bm pv fv)(v):G7 (w.setCell (qB bm) v) bm v fv:=heap_setCell_same w bm 0 _ _ _ h
theorem G7.abl{w}{bm}{pv fv}(h:G7 w bm pv fv)(v):G7 (w.setCell (qA bm 1) v) bm pv v:=heap_setCell_same w bm 1 _ _ _ h
theorem u7.aaW{w}{p b d}(h:u7 w p b d)(b'):u7 (w.setCell (qB p) (qP b')) p b' d:=heap_setCell_same w p 0 _ _ _ h
structure P7 (w:qW) (ow:Nat->Nat) (n:Nat) (x:nO):Prop where
 S8:x.1<n
 to_:x.2.1<n
 ops:N5 w (At x) (IG x)
 L4:∀g,(At x).ownBlock=some g->ow g=4
structure n9 (gd:Nat->Option Obj) (B:Nat) (w:qW) (ow:Nat->Nat) (n bm:Nat) (pv fv:Value) (bp br d:Nat->Nat) (dv:Nat->Value) (c:Nat->Nat->Nat) (K:qH) (st:qD) (N:qJ):Prop where
 X7:n<=4
 D8:G7 w bm pv fv
 om:ow bm=1
 K9:w.ownsRow B 57 1 pv n (BN bp n)
 op:∀g,pv.ownBlock=some g->ow g=2
 L8:w.ownsRow B 149 8 fv N.length (mN nY N)
 of:∀g,fv.ownBlock=some g->ow g=3
 B8:∀x∈N,P7 w ow n x
 G0:∀r,r<n->u7 w (bp r) (br r) (d r)/\ow (bp r)=30+r
 G4:∀r,r<n->C8 B w (c r) (br r) (r:Int) (K r)/\∀k,c r k≠0->ow k=10+r
 x8:∀r,r<n->t6 w (d r) (dv r) (st r)/\∀k,DA (d r) (dv r) k->ow k=20+r
 low:∀k,ow k≠0->B<=k
 high:∀k,w.heap.size<=k->ow k=0
 l9:B<=w.heap.size
 guard:∀k o,gd k=some o->ow k=5/\w.heap[k]? =some o
def mQ(ow:Nat->Nat)(w w':qW)(j:Nat):Nat->Nat:=fun k=>if k<w.heap.size then ow k else if k<w'.heap.size then j else 0
theorem mg{ow}{w w'}{j k}(h:k<w.heap.size):mQ ow w w' j k=ow k:=if_pos h
theorem wO{ow}{w w'}{j k}(h:w.heap.size<=k)(h':k<w'.heap.size):mQ ow w w' j k=j:=by simp_all [mQ,if_neg,if_pos]
theorem no{w w'}{v}{xs}(h:N5 w v xs)(e:∀g,v.ownBlock=some g->w'.heap[g]? =w.heap[g]?):N5 w' v xs:=by
 rcases h with h | ⟨g,o,cp,rfl,h2⟩
 ·exact .inl h
 exact .inr ⟨g,o,cp,rfl,fun j u hj=>by rw [uV (a:=(qA g (o+j))) (e g rfl)];exact h2 j u hj⟩
theorem C8.GC{B}{w w'}{c}{br}{o8}{R}(h:C8 B w c br o8 R)(hs:w.heap.size<=w'.heap.size)(e:∀k,k<w.heap.size->c k≠0->w'.heap[k]? =w.heap[k]?):C8 B w' c br o8 R:=
 ⟨h.G4.kept (fun i hi=>⟨fun k hk q=>e k hk (by rw [q];exact hi),fun _ _=>rfl⟩),h.low,fun k hk=>h.high k (uQ hs hk)⟩
structure zbb (gd:Nat->Option Obj) (j:Nat) (B:Nat) (w:qW) (ow:Nat->Nat) (n bm:Nat) (pv fv:Value) (bp br d:Nat->Nat) (dv:Nat->Value) (c:Nat->Nat->Nat) (K:qH) (st:qD) (N:qJ):Prop where
 X7:n<=4
 D8:j≠1->G7 w bm pv fv
 om:ow bm=1
 K9:j≠2->w.ownsRow B 57 1 pv n (BN bp n)
 op:∀g,pv.ownBlock=some g->ow g=2
 L8:j≠3->w.ownsRow B 149 8 fv N.length (mN nY N)
 of:∀g,fv.ownBlock=some g->ow g=3
 B8:j≠4->∀x∈N,P7 w ow n x
 G0:∀r,r<n->(j≠30+r->u7 w (bp r) (br r) (d r))/\ow (bp r)=30+r
 G4:∀r,r<n->(j≠10+r->C8 B w (c r) (br r) (r:Int) (K r))/\∀k,c r k≠0->ow k=10+r
 x8:∀r,r<n->(j≠20+r->t6 w (d r) (dv r) (st r))/\∀k,DA (d r) (dv r) k->ow k=20+r
 low:∀k,ow k≠0->B<=k
 high:∀k,w.heap.size<=k->ow k=0
 l9:B<=w.heap.size
 guard:j≠5->∀k o,gd k=some o->ow k=5/\w.heap[k]? =some o
section
variable {gd:Nat→Option Obj} {B:Nat} {w:qW} {ow:Nat→Nat} {n bm:Nat} {pv fv:Value} {bp br d:Nat→Nat} {dv:Nat→Value} {c:Nat→Nat→Nat} {K:qH} {st:qD} {N:qJ}
theorem n9.F(h:n9 gd B w ow n bm pv fv bp br d dv c K st N){k}(hk:ow k≠0):k<w.heap.size:=by
 by_cases q:k<w.heap.size
 ·exact q
 exact absurd (h.high k zj) hk
theorem n9.but(h:n9 gd B w ow n bm pv fv bp br d dv c K st N){w'}{j}(hk:m7 (fun k=>ow k=j) w w'):zbb gd j B w' (mQ ow w w' j) n bm pv fv bp br d dv c K st N:=by
 have ar:∀ {k i:Nat},ow k=i->i≠0->k<w.heap.size:=fun {k i} e hi=>h.F yI
 have same:∀ {k i:Nat},ow k=i->i≠0->j≠i->w'.heap[k]? =w.heap[k]? :=fun {k i} e hi hj=>hk.block k (ar e hi) (fun q=>hj (by rw [<-q,e]))
 have B9:∀ {k i:Nat},ow k=i->i≠0->mQ ow w w' j k=i:=fun {k i} e hi=>(mg (ar e hi)).trans e
 refine ⟨h.X7,fun hj=>(same h.om zj hj).trans h.D8,B9 h.om zj,fun hj=>mE h.K9 (fun g hg=>same (h.op g hg) zj hj),fun g hg=>B9 (h.op g hg) zj,fun hj=>mE h.L8 (fun g hg=>same (h.of g hg) zj hj),fun g hg=>B9 (h.of g hg) zj,fun hj x hx=> ?_,fun r hr=> ?_,fun r hr=> ?_,fun r hr=> ?_,fun k hq=> ?_,fun k hq=> ?_,uQ h.l9 hk.size,fun hj k o e=>⟨B9 (h.guard k o e).1 zj,(same (h.guard k o e).1 zj hj).trans (h.guard k o e).2⟩⟩
 ·have hn:=h.B8 x hx;exact ⟨hn.S8,hn.to_,no hn.ops (fun g hg=>same (hn.L4 g hg) zj hj),fun g hg=>B9 (hn.L4 g hg) zj⟩
 ·obtain ⟨h1,h2⟩:=h.G0 r hr;exact ⟨fun hj=>h1.same (same h2 zj hj),B9 h2 zj⟩
 ·obtain ⟨h1,h2⟩:=h.G4 r hr;exact ⟨fun hj=>h1.GC hk.size (fun k _ e=>same (h2 k e) zj hj),fun k e=>B9 (h2 k e) zj⟩
 ·obtain ⟨h1,h2⟩:=h.x8 r hr;exact ⟨fun hj=>h1.same (fun k e=>same (h2 k e) zj hj),fun k e=>B9 (h2 k e) zj⟩
 ·by_cases q:k<w.heap.size
  ·rw [mg q] at hq;exact h.low k hq
  have:=h.l9;omega
 have:=hk.size;unfold mQ
 grind
theorem n9.Z(h:n9 gd B w ow n bm pv fv bp br d dv c K st N){w'}{S}(hk:m7 S w w')(hS:∀k,S k->ow k=0):n9 gd B w' ow n bm pv fv bp br d dv c K st N:=by
 have same:∀ {k i:Nat},ow k=i->i≠0->w'.heap[k]? =w.heap[k]? :=fun {k i} e hi=>hk.block k (h.F yI) (fun q=>hi zM)
 exact ⟨h.X7,(same h.om zj).trans h.D8,h.om,mE h.K9 (fun g hg=>same (h.op g hg) zj),h.op,mE h.L8 (fun g hg=>same (h.of g hg) zj),h.of,fun x hx=>⟨(h.B8 x hx).S8,(h.B8 x hx).to_,no (h.B8 x hx).ops (fun g hg=>same ((h.B8 x hx).L4 g hg) zj),(h.B8 x hx).L4⟩,fun r hr=>⟨(h.G0 r hr).1.same (same (h.G0 r hr).2 zj),(h.G0 r hr).2⟩,fun r hr=>⟨(h.G4 r hr).1.GC hk.size (fun k _ e=>same ((h.G4 r hr).2 k e) zj),(h.G4 r hr).2⟩,fun r hr=>⟨(h.x8 r hr).1.same (fun k e=>same ((h.x8 r hr).2 k e) zj),(h.x8 r hr).2⟩,h.low,fun k hq=>h.high k (uQ hk.size hq),uQ h.l9 hk.size,fun k o e=>⟨(h.guard k o e).1,(same (h.guard k o e).1 zj).trans (h.guard k o e).2⟩⟩
theorem n9.later(h:n9 gd B w ow n bm pv fv bp br d dv c K st N){w'}(hb:qL w w'):n9 gd B w' ow n bm pv fv bp br d dv c K st N:=h.Z (lW hb) (fun k e=>h.high k e)
theorem n9.aa0(h:n9 gd B w ow n bm pv fv bp br d dv c K st N){a}(ha:a<n){w'}{c'}{R'}(hA:M5 w (c a) w' c')(hR:C8 B w' c' (br a) (a:Int) R'):n9 gd B w' (mQ ow w w' (10+a)) n bm pv fv bp br d dv (lR c a c') (lR K a R') st N/\m7 (fun k=>ow k=10+a) w w':=by
 have hf:=h.X7;have hk:=hA.L5.mono (fun k _ e=>(h.G4 a ha).2 k e);have hb:=h.but hk;refine ⟨⟨hf,hb.D8 zj,hb.om,hb.K9 zj,hb.op,hb.L8 zj,hb.of,hb.B8 zj,fun r hr=>⟨(hb.G0 r hr).1 zj,(hb.G0 r hr).2⟩,fun r hr=> ?_,fun r hr=>⟨(hb.x8 r hr).1 zj,(hb.x8 r hr).2⟩,hb.low,hb.high,hb.l9,hb.guard zj⟩,hk⟩;by_cases e:r=a
 ·subst e;rw [lU,lU];refine ⟨hR,fun k q=> ?_⟩;by_cases hk':k<w.heap.size
  ·rw [mg hk'];rw [hA.B9 k hk'] at q;exact (h.G4 r ha).2 k q
  refine wO zj ?_;by_cases h2:k<w'.heap.size
  ·exact h2
  exact absurd (hR.high k zj) q
 rw [lP _ _ e,lP _ _ e];exact ⟨(hb.G4 r hr).1 zj,(hb.G4 r hr).2⟩
theorem n9.aaI(h:n9 gd B w ow n bm pv fv bp br d dv c K st N){a}(ha:a<n){w'}{st'}(hW:E4 (d a) (dv a) w st' w'):∃v',n9 gd B w' (mQ ow w w' (20+a)) n bm pv fv bp br d (lR dv a v') c K (lR st a st') N/\m7 (fun k=>ow k=20+a) w w':=by
 obtain ⟨v',h1,h2,h3⟩:=hW;have hf:=h.X7;have hk:=h2.mono (fun k _ e=>(h.x8 a ha).2 k e);have hb:=h.but hk;refine ⟨v',⟨hf,hb.D8 zj,hb.om,hb.K9 zj,hb.op,hb.L8 zj,hb.of,hb.B8 zj,fun r hr=>⟨(hb.G0 r hr).1 zj,(hb.G0 r hr).2⟩,fun r hr=>⟨(hb.G4 r hr).1 zj,(hb.G4 r hr).2⟩,fun r hr=> ?_,hb.low,hb.high,hb.l9,hb.guard zj⟩,hk⟩;by_cases e:r=a
 ·subst e;rw [lU,lU];refine ⟨h1,fun k q=> ?_⟩
  rcases q with q | q
  ·exact (hb.x8 r hr).2 k (.inl q)
  rcases h3 k q with p | p
  ·exact (hb.x8 r hr).2 k (.inr p)
  exact wO p (h1.row.lt q)
 rw [lP _ _ e,lP _ _ e];exact ⟨(hb.x8 r hr).1 zj,(hb.x8 r hr).2⟩
theorem n9.abt(h:n9 gd B w ow n bm pv fv bp br d dv c K st N){w1}{v}{N'}(gv:m7 (fun k=>some k=fv.ownBlock) w w1)(hrow:w1.ownsRow B 149 8 v N'.length (mN nY N'))(hv:∀g,v.ownBlock=some g->fv.ownBlock=some g\/w.heap.size<=g)(hN:∀x∈N',P7 w ow n x):n9 gd B (w1.setCell (qA bm 1) v) (mQ ow w w1 3) n bm pv v bp br d dv c K st N'/\m7 (fun k=>ow k=3\/ow k=1) w (w1.setCell (qA bm 1) v):=by
 have hf:=h.X7;have hk:=gv.mono (fun k _ e=>h.of k (Eq.symm e));have hb:=h.but hk;have hs:=lZ bm [v] 1 w1;have hsz:(w1.setCell (qA bm 1) v).heap.size=w1.heap.size:=zq
 have hbm:∀ {k i:Nat},mQ ow w w1 3 k=i->i≠1->i≠0->(w1.setCell (qA bm 1) v).heap[k]? =w1.heap[k]? :=fun {k i} e hi h0=>by
  have hkl:k<w1.heap.size:=by
   by_cases q:k<w1.heap.size
   ·exact q
   exact absurd (hb.high k zj) (by rw [e];exact h0)
  exact hs.block k hkl (fun q=>hi (by rw [<-e,q];exact hb.om))
 have fV:∀g,v.ownBlock=some g->mQ ow w w1 3 g=3:=fun g hg=>by
  rcases hv g hg with q | q
  ·exact hb.of g q
  exact wO q (hrow.lt g hg).2
 refine ⟨⟨hf,(hb.D8 zj).abl v,hb.om,mE (hb.K9 zj) (fun g hg=>hbm (hb.op g hg) zj zj),hb.op,mE hrow (fun g hg=>hbm (fV g hg) zj zj),fV,fun x hx=> ?_,fun r hr=> ?_,fun r hr=> ?_,fun r hr=> ?_,hb.low,fun k hk=>hb.high k zj,by rw [hsz];exact hb.l9,fun k o e=>⟨(hb.guard zj k o e).1,(hbm (hb.guard zj k o e).1 zj zj).trans (hb.guard zj k o e).2⟩⟩,?_⟩
 ·have hn:=hN x hx
  have h4:∀g,(At x).ownBlock=some g->mQ ow w w1 3 g=4:=fun g hg=>(mg (h.F (by rw [hn.L4 g hg];omega))).trans (hn.L4 g hg)
  exact ⟨hn.S8,hn.to_,no hn.ops (fun g hg=>(hbm (h4 g hg) zj zj).trans (hk.block g (h.F (by rw [hn.L4 g hg];omega)) (fun q=>by have q':=q;rw [hn.L4 g hg] at q';omega))),h4⟩
 ·obtain ⟨h1,h2⟩:=hb.G0 r hr;exact ⟨(h1 zj).same (hbm h2 zj zj),h2⟩
 ·obtain ⟨h1,h2⟩:=hb.G4 r hr;exact ⟨(h1 zj).GC zj (fun k _ e=>hbm (h2 k e) zj zj),h2⟩
 ·obtain ⟨h1,h2⟩:=hb.x8 r hr;exact ⟨(h1 zj).same (fun k e=>hbm (h2 k e) zj zj),h2⟩
 exact (hk.mono (fun k _ e=>.inl e)).then hs (fun k _ e=>.inr (by have e':=e;rw [e'];exact h.om))
theorem n9.acO(h:n9 gd B w ow n bm pv fv bp br d dv c K st N){w'}(hb:qL w w'):n9 gd B w' (mQ ow w w' 4) n bm pv fv bp br d dv c K st N/\∀k,w.heap.size<=k->k<w'.heap.size->mQ ow w w' 4 k=4:=by
 have h':=h.later hb
 have B9:∀ {k i:Nat},ow k=i->i≠0->mQ ow w w' 4 k=i:=fun {k i} e hi=>(mg (h.F yI)).trans e
 refine ⟨⟨h.X7,h'.D8,B9 h.om zj,h'.K9,fun g hg=>B9 (h.op g hg) zj,h'.L8,fun g hg=>B9 (h.of g hg) zj,fun x hx=>⟨(h'.B8 x hx).S8,(h'.B8 x hx).to_,(h'.B8 x hx).ops,fun g hg=>B9 ((h.B8 x hx).L4 g hg) zj⟩,fun r hr=>⟨(h'.G0 r hr).1,B9 (h.G0 r hr).2 zj⟩,fun r hr=>⟨(h'.G4 r hr).1,fun k e=>B9 ((h.G4 r hr).2 k e) zj⟩,fun r hr=>⟨(h'.x8 r hr).1,fun k e=>B9 ((h.x8 r hr).2 k e) zj⟩,fun k q=> ?_,fun k q=> ?_,h'.l9,fun k o e=>⟨B9 (h.guard k o e).1 zj,(h'.guard k o e).2⟩⟩,fun k h1 h2=>wO h1 h2⟩
 ·by_cases e:k<w.heap.size
  ·rw [mg e] at q;exact h.low k q
  have:=h.l9;omega
 have:=hb.size;unfold mQ
 grind
theorem n9.adi(h:n9 gd B w ow n bm pv fv bp br d dv c K st N){a}(ha:a<n){w1}{c'}{b}{R'}(hb:qL w w1)(hR:C8 w.heap.size w1 c' b (a:Int) R'):n9 gd B (w1.setCell (qB (bp a)) (qP b)) (mQ ow w w1 (10+a)) n bm pv fv bp (lR br a b) d dv (lR c a c') (lR K a R') st N/\m7 (fun k=>ow k=30+a) w (w1.setCell (qB (bp a)) (qP b)):=by
 have hf:=h.X7;have h':=h.later hb
 have B9:∀ {k i:Nat},ow k=i->i≠0->mQ ow w w1 (10+a) k=i:=fun {k i} e hi=>(mg (h.F yI)).trans e
 obtain ⟨W,hW⟩:=za (w1.setCell (qB (bp a)) (qP b))
 have hs:m7 (fun k=>k=bp a) w1 W:=by rw [hW];exact lZ (bp a) [qP b] 0 w1
 have hsz:W.heap.size=w1.heap.size:=by rw [hW];simp
 have hbp:=(h.G0 a ha).2
 have same:∀ {k i:Nat},ow k=i->i≠0->i≠30+a->W.heap[k]? =w1.heap[k]? :=fun {k i} e h0 hi=>hs.block k (uY (h.F (by rw [e];exact h0)) hb.size) (fun q=>hi zM)
 rw [<-hW];refine ⟨⟨hf,(same h.om zj zj).trans h'.D8,B9 h.om zj,mE h'.K9 (fun g hg=>same (h.op g hg) zj zj),fun g hg=>B9 (h.op g hg) zj,mE h'.L8 (fun g hg=>same (h.of g hg) zj zj),fun g hg=>B9 (h.of g hg) zj,fun x hx=> ?_,fun r hr=> ?_,fun r hr=> ?_,fun r hr=> ?_,fun k q=> ?_,fun k q=> ?_,by rw [hsz];exact h'.l9,fun k o e=>⟨B9 (h.guard k o e).1 zj,(same (h.guard k o e).1 zj zj).trans (h'.guard k o e).2⟩⟩,?_⟩
 ·have hn:=h'.B8 x hx;exact ⟨hn.S8,hn.to_,no hn.ops (fun g hg=>same (hn.L4 g hg) zj zj),fun g hg=>B9 (hn.L4 g hg) zj⟩
 ·obtain ⟨h1,h2⟩:=h'.G0 r hr;by_cases e:r=a
  ·subst e;rw [lU];exact ⟨by rw [hW];exact h1.aaW b,B9 h2 zj⟩
  rw [lP _ _ e];exact ⟨h1.same (same h2 zj zj),B9 h2 zj⟩
 ·by_cases e:r=a
  ·subst e;rw [lU,lU,lU];refine ⟨(hR.abE h.l9).GC zj (fun k hk q=> ?_),fun k q=> ?_⟩
   ·refine hs.block k hk (fun p=> ?_);have p':=p;have:=hR.low k q;have:=h.F (k:=bp r) (by rw [hbp];omega);omega
   refine wO (hR.low k q) ?_;by_cases h2:k<w1.heap.size
   ·exact h2
   exact absurd (hR.high k zj) q
  rw [lP _ _ e,lP _ _ e,lP _ _ e];obtain ⟨h1,h2⟩:=h'.G4 r hr;exact ⟨h1.GC zj (fun k _ q=>same (h2 k q) zj zj),fun k q=>B9 (h2 k q) zj⟩
 ·obtain ⟨h1,h2⟩:=h'.x8 r hr;exact ⟨h1.same (fun k q=>same (h2 k q) zj zj),fun k q=>B9 (h2 k q) zj⟩
 ·by_cases e:k<w.heap.size
  ·rw [mg e] at q;exact h.low k q
  have:=h.l9;omega
 ·have:=hb.size;unfold mQ
  grind
 exact ((lW hb).mono (fun k hk q=>absurd hk zj)).then hs (fun k _ e=>zM)
theorem n9.m8(h:n9 gd B w ow n bm pv fv bp br d dv c K st N){w'}{S}(hk:m7 S w w')(hS:∀k,S k->ow k≠0):Below B w w':=hk.m8 h.l9 (fun k e=>h.low k (hS k e))
theorem n9.adk(h:n9 gd B w ow n bm pv fv bp br d dv c K st N){x}(hx:P7 w ow n x){w' w2}{S}(hk:m7 S w w')(hS:∀k,S k->ow k≠4)(j):P7 w' (mQ ow w w2 j) n x:=by
 have hl:∀g,(At x).ownBlock=some g->g<w.heap.size:=fun g hg=>h.F (by rw [hx.L4 g hg];omega)
 exact ⟨hx.S8,hx.to_,no hx.ops (fun g hg=>hk.block g (hl g hg) (fun q=>hS g q (hx.L4 g hg))),fun g hg=>(mg (hl g hg)).trans (hx.L4 g hg)⟩
theorem P7.later{x}(hx:P7 w ow n x){w'}(hb:qL w w'):P7 w' ow n x:=⟨hx.S8,hx.to_,hx.ops.later hb,hx.L4⟩
end
def p9(gd:Nat->Option Obj)(B n bm:Nat)(K:qH)(st:qD)(N:qJ)(w:qW):Prop:=∃ow pv fv bp br d dv c,n9 gd B w ow n bm pv fv bp br d dv c K st N
theorem p9.held{gd}{B n bm}{K}{st}{N}{w}(h:p9 gd B n bm K st N w){q}{o}(hq:gd q=some o):w.heap[q]? =some o:=by
 obtain ⟨ow,pv,fv,bp,br,d,dv,c,hm⟩:=h;exact (hm.guard q o hq).2
theorem p9.later{gd}{B n bm}{K}{st}{N}{w w'}(h:p9 gd B n bm K st N w)(hb:qL w w'):p9 gd B n bm K st N w':=by
 obtain ⟨ow,pv,fv,bp,br,d,dv,c,hm⟩:=h;exact ⟨_,_,_,_,_,_,_,_,hm.later hb⟩
theorem CP(K)(a)(R'):(fun r=>lY (lR K a R' r))=lR (fun r=>lY (K r)) a (lY R'):=by
 funext r;unfold lR;split<;>rfl
theorem wj(st)(a)(s:DSt):(fun r=>(lR st a s r).2.1)=lR (fun r=>(st r).2.1) a s.2.1:=by
 funext r;unfold lR;split<;>rfl
theorem sL{α}(f:Nat->α)(a):lR f a (f a)=f:=by
 funext r
 grind [lR]
structure r9 (n i:Nat) (G:qX) (K:qH) (D:Nat->List OpX) (st:qD) (N:qJ):Prop where
 G9:J7 n i G (fun r=>lY (K r)) D (fun r=>(st r).2.1)
 x8:∀r,r<n->I1 (st r) (D r)
 B8:∀x∈N,(∀y∈IG x,y∈G)/\(IG x).length<=i
 D6:∀r,r<n->t7 (K r)
section
variable {n i:Nat} {G:qX} {K:qH} {D:Nat→List OpX} {st:qD} {N:qJ}
theorem r9.up(h:r9 n i G K D st N){j}(ay:i<=j):r9 n j G K D st N:=⟨h.G9.up ay,h.x8,fun x hx=>⟨(h.B8 x hx).1,uQ (h.B8 x hx).2 ay⟩,h.D6⟩
theorem r9.L8(h:r9 n i G K D st N){N'}(hN:∀x∈N',x∈N\/((∀y∈IG x,y∈G)/\(IG x).length<=i)):r9 n i G K D st N':=⟨h.G9,h.x8,fun x hx=>(hN x hx).elim (h.B8 x) id,h.D6⟩
theorem r9.y9(h:r9 n i G K D st N){r}(hr:r<n):(lY (K r)).length<=i:=h.G9.ada hr (h.D6 r hr).num.I7
theorem r9.time(h:r9 n i G K D st N){r}(hr:r<n){T}(hT:oA (lY (K r)) T):T<=(i:Int):=by
 rcases hT.2.1 with q | ⟨x,hx,q⟩
 ·omega
 have:=h.G9.time x (h.G9.sub r hr x hx);omega
theorem r9.aa9(h:r9 n i G K D st N){r}(hr:r<n):(D r).length<=i:=h.G9.aa9 hr
theorem r9.acR(h:r9 n i G K D st N){r}(hr:r<n)(hi:i<=200):(st r).1.length<=65536:=by
 have h1:=(h.x8 r hr).y9;have h2:=h.aa9 hr;omega
theorem r9.abT(h:r9 n i G K D st N){a}{s}(hs:I1 s (D a))(ho:s.2.1=false->(st a).2.1=false):r9 n i G K D (lR st a s) N:=by
 refine ⟨?_,fun r hr=> ?_,h.B8,h.D6⟩
 ·rw [wj];refine h.G9.abT (fun r hr e=> ?_)
  grind [lU,lP]
 by_cases q:r=a
 ·subst q;rw [lU];exact hs
 rw [lP _ _ q];exact h.x8 r hr
theorem r9.cut(h:r9 n i G K D st N){a}(ha:a<n)(m):r9 n i G K D (lR st a (BH (st a) m)) N:=by
 have:=(h.x8 a ha).cut m;exact h.abT this.1 (fun e=>zM)
theorem r9.aca(h:r9 n i G K D st N){a}(ha:a<n){x}{T}{R'}{s}(ha4:a<4)(hT:oA (lY (K a)) T)(hx:U0 (K a) a T x)(hon:(st a).2.1=false)(hs:I1 s (D a++ [x]))(hso:s.2.1=false)(hR:t7 R')(hm:∀y,y∈lY R'↔y=x\/y∈lY (K a)):r9 n (i+1) (G++ [x]) (lR K a R') (lR D a (D a++ [x])) (lR st a s) N:=by
 have hw:=hx.G5 (h.D6 a ha) ha4 hT.1;refine ⟨?_,fun r hr=> ?_,fun y hy=>⟨fun z hz=>Zo _ ((h.B8 y hy).1 z hz),uQ (h.B8 y hy).2 zj⟩,fun r hr=> ?_⟩
 ·rw [CP,wj,hso];exact h.G9.aca ha hon hx.o8 (by have:=hx.time;have:=h.time ha hT;omega) hw.1 hw.2 hm
 ·by_cases q:r=a
  ·subst q;rw [lU,lU];exact hs
  exact km6
 by_cases q:r=a
 ·subst q;rw [lU];exact hR
 rw [lP _ _ q];exact h.D6 r hr
theorem r9.aaQ(h:r9 n i G K D st N){a}(ha:a<n){l F:qX}{R'}{k}{s}(hl:∀x∈l,x∈G)(hm:∀x,x∈lY R'↔x∈lY (K a)\/x∈l)(hR:t7 R')(hF:BR F)(hFn:F.Nodup)(hFm:∀x,x∈F↔x∈lY R'/\x∉lY (K a))(iW:(st a).2.1=true->k=0)(hko:s.2.1=false->(st a).2.1=false/\F.length<=k)(hs:I1 s (D a++F.take k)):r9 n i G (lR K a R') (lR D a (D a++F.take k)) (lR st a s) N:=by
 refine ⟨?_,fun r hr=> ?_,h.B8,fun r hr=> ?_⟩
 ·rw [CP,wj];exact h.G9.aaQ ha hl hm hR.G5 hF hFn hFm iW hko
 ·by_cases q:r=a
  ·subst q;rw [lU,lU];exact hs
  exact km6
 by_cases q:r=a
 ·subst q;rw [lU];exact hR
 rw [lP _ _ q];exact h.D6 r hr
theorem r9.acc(h:r9 n i G K D st N){a}(ha:a<n){R'}{s}(hm:∀x,x∈lY R'↔x∈D a)(hR:t7 R')(hs:I1 s (D a))(ho:s.2.1=false):r9 n i G (lR K a R') D (lR st a s) N:=by
 refine ⟨?_,fun r hr=> ?_,h.B8,fun r hr=> ?_⟩
 ·rw [CP,wj,ho];have:=h.G9.acc ha hm;rwa [sL] at this
 ·by_cases q:r=a
  ·subst q;rw [lU];exact hs
  rw [lP _ _ q];exact h.x8 r hr
 by_cases q:r=a
 ·subst q;rw [lU];exact hR
 rw [lP _ _ q];exact h.D6 r hr
end
def zau(G S l:qX):Prop:=∃T:List OpX,D5 T/\(∀x∈T,x∈G)/\(∀x∈l,x∈T)/\∀x∈T,x∈S\/x∈l
def oW(R:Rws):Nat->Int:=fun i=>((R i).length:Int)
theorem TF{R}(h:t7 R){x}(hx:x∈lY R):pG (oW R) x=true:=by
 obtain ⟨i,hi,hb,i8⟩:=Ab (h.G5.ok x hx);have:=Wj h.num hi hx hb
 grind [pG,oW,decide_eq_true]
theorem Um{R}(h:t7 R){x}(he:mz x=0)(hc:∀y∈lY R,byO y=byO x->mB y=mB x->y=x)(hx:pG (oW R) x=true):x∈lY R:=by
 obtain ⟨i,hi,hb,i8⟩:=Ab he;have hp:=EA he;unfold pG oW at hx;have e:x.2.1.toNat=i:=i8;rw [e] at hx;have hle:mB x<=((R i).length:Int):=of_decide_eq_true hx;have hj:(mB x - 1).toNat<(R i).length:=zj;have hm:=Qc hj;have hg:=h.num i hi _ _ (uL hj);have:=hc _ (mem_allR.2 ⟨i,hi,hm⟩) (hg.1.trans hb.symm) (by have:=hg.2.1;omega);rw [<-this];exact mem_allR.2 ⟨i,hi,hm⟩
theorem Eu{R R'}(h:t7 R)(h':t7 R')(hc:R5 (lY R) (lY R')){ys}(hst:nH (lY R') ys):BR (ys.filter (fun x=> !pG (oW R) x))/\(ys.filter (fun x=> !pG (oW R) x)).Nodup/\∀x,x∈ys.filter (fun x=> !pG (oW R) x)↔x∈lY R'/\x∉lY R:=by
 obtain ⟨hp,hb⟩:=nA hst;refine ⟨hb.sublist List.filter_sublist,((hp.nodup_iff).2 h'.num.I7).sublist List.filter_sublist,fun x=> ?_⟩;rw [Yo,hp.mem_iff];constructor
 ·grind [TF]
 rintro ⟨h1,h2⟩;refine ⟨h1,?_⟩
 cases e:pG (oW R) x with
 | false=>rfl
 | true=>exact absurd (Um h (h'.G5.ok x h1) (fun y hy=>hc y hy x h1) e) h2
end
section
open RowKit Lib Go.Sort Maps
open scoped Classical
def x0:OpX:=(1,2,1,109,6,0,⟨#[97]⟩,⟨#[]⟩)
theorem we{S}(h:∀x∈S,mz x=0){nd}(k:m9 S nd):2<=nd:=by
 obtain ⟨x,hx,k1,k2,k3⟩:=k
 grind [rI]
theorem PZ(x):mz x<=5:=by
 grind [mz,opE,AG,nC,Du,FO,En]
theorem Ky{n}{L}{id}(h:atL n L=(id,true)):id∈L.map (·.1):=by
 unfold atL at h;split at h
 ·split at h
  ·rename_i l hl
   cases h
   exact Zm.2 ⟨l,(Yo.1 (uR hl)).1,rfl⟩
  cases h
 cases h
theorem wB{R}{i}{T}{kd}{nd o}{s v}(he:mz (nR T i (R i).length kd nd o s v)=0)(hr:M0 (nR T i (R i).length kd nd o s v::lY R) (nR T i (R i).length kd nd o s v)):U0 R i T (nR T i (R i).length kd nd o s v):=⟨he,rfl,rfl,rfl,hr⟩
theorem sv{T}{i m kd}{nd o}{s v}(h:nd≠0):mU (nR T i m kd nd o s v)=nd:=if_neg h
section
variable {B:Nat} {ad:qF} (w:qW) (c:Nat→Nat) (br:Nat) (i:Nat) (R:Rws)
end
def Tt(ad:qF)(w:qW)(R:Rws)(i:Nat)(P:OpX->Nat->Prop)(e:Ending)(w':qW):Prop:=∃(y:OpX) (cd:Nat),e=qT #[mH y,eV ad cd]/\Aside (qL w w'/\cd<=12/\((cd≠0/\y=lQ)\/(cd=0/\∃T,oA (lY R) T/\U0 R i T y)))/\Aside (P y cd)
structure E7 (B:Nat) (ad:qF) (w:qW):Prop where
 t:S9 B ad w
 j:O8 B ad w
 cyc:Aside (Cyc ad)
theorem E7.mono{B}{ad}{w w'}(h:E7 B ad w)(hb:Below B w w'):E7 B ad w':=⟨h.t.mono hb,h.j.mono hb,h.cyc⟩
theorem E7.later{B}{ad}{w w'}(h:E7 B ad w)(hb:qL w w'):E7 B ad w':=h.mono (hb.mono h.t.G6.size)
theorem E7.up{B B'}{ad}{w}(h:E7 B ad w)(hB:B<=B')(hs:B'<=w.heap.size):E7 B' ad w:=⟨h.t.up hB hs,h.j.up hB hs,h.cyc⟩
theorem mL{ad}{cd}(h:cd≠0):eV ad cd= .iface 437 (.pointer (some (ad (cd - 1)))):=if_neg h
def zdU(x:OpX):Prop:=x.2.2.2.2.2.2.1.size<=60/\x.2.2.2.2.2.2.2.size<=60/\x.2.2.2.1<256/\(-9223372036854775808<=mU x/\mU x<=9223372036854775807)/\(-9223372036854775808<=mT x/\mT x<=9223372036854775807)
def zdz(ow:Nat->Nat)(w:qW)(ow':Nat->Nat)(w':qW):Prop:=∀k,k<w.heap.size->ow k=0->ow' k=0/\w'.heap[k]? =w.heap[k]?
def zdG(gd:Nat->Option Obj)(B n bm:Nat)(ow:Nat->Nat)(w:qW)(K:qH)(st:qD)(N:qJ)(w':qW):Prop:=∃ow' pv fv bp br d dv c,n9 gd B w' ow' n bm pv fv bp br d dv c K st N/\zdz ow w ow' w'
def DoX(K K':qH)(st st':qD)(a:Nat)(y0:OpX)(cd0:Nat)(y:OpX)(cd:Nat):Prop:=(cd0≠0/\cd=cd0/\y=lQ/\K'=K/\st'=st)\/(cd0=0/\(pJ (st a) y0).1≠0/\cd=(pJ (st a) y0).1/\y=lQ/\K'=K/\st'=lR st a (pJ (st a) y0).2)\/(cd0=0/\(pJ (st a) y0).1=0/\cd=0/\y=y0/\(∃R',K'=lR K a R'/\t7 R'/\∀z,z∈lY R'↔z=y0\/z∈lY (K a))/\st'=lR st a (pJ (st a) y0).2)
def zdS(gd:Nat->Option Obj)(B n bm i:Nat)(ad:qF)(ow:Nat->Nat)(G:qX)(K:qH)(st:qD)(N:qJ)(a:Nat)(P:OpX->Nat->Prop)(w:qW)(e:Ending)(w':qW):Prop:=∃(y:OpX) (cd:Nat) (G':qX) (K':qH) (D':Nat->List OpX) (st':qD),e=qT #[mH y,eV ad cd]/\Aside (zdG gd B n bm ow w K' st' N w'/\Below B w w'/\r9 n (i+1) G' K' D' st' N/\(∀r,r<n->∀x∈lY (K r),x∈lY (K' r))/\((cd≠0/\G'=G)\/(cd=0/\G'=G++ [y]/\byO y=(a:Int)))/\∃y0 cd0,P y0 cd0/\(cd0=0->(st a).2.1=false->(st a).2.2.1=false->cd=0/\y=y0)/\(∀r,r≠a->K' r=K r/\st' r=st r)/\DoX K K' st st' a y0 cd0 y cd)
theorem zcY{gd}{B}{ad}{ow}{n bm}{pv fv}{bp br d}{dv}{c}{K}{st}{N}{i}{G}{D}(w)(a)(x)(h:n9 gd B w ow n bm pv fv bp br d dv c K st N)(hI:r9 n i G K D st N)(hE:E7 B ad w)(ha:a<n)(hi:i<=155)(P)(jq:∀U,qL w U->qC 152 #[qP (bp a),mH x] U (Tt ad U (K a) a P)):
  qC 113 #[qP (bp a),mH x] w (zdS gd B n bm i ad ow G K st N a P w):=by
 obtain ⟨t,b,m,kd,nd,o,s,v⟩:=x;have ha4:=uY ha h.X7;obtain ⟨S,hS⟩:=za w.heap.size;obtain ⟨U,hU⟩:=za ((w.alloc (qOc t b m kd nd o s v)).alloc qZc);have ah:qL w U:=zP;have O0:m6 U S (t,b,m,kd,nd,o,s,v):=qh
 have Z0:m6 U (S+1) lQ:=by
  rw [hU,hS];have:=m6.GA (w.alloc (qOc t b m kd nd o s v)) lQ;exact kc7
 obtain ⟨j0,j1,j2,j3,j4,j5,j6,j7,-⟩:=O0.cells;dsimp only at j0 j1 j2 j3 j4 j5 j6 j7;have hUm:=h.later ah;have cz:=jq U ah;unfold mH at cz
 have H0:Aside (U=(w.alloc (qOc t b m kd nd o s v)).alloc qZc/\m6 U (S+1) lQ/\qL w U/\S=w.heap.size):=⟨hU,Z0,ah,hS⟩
 have HM:Aside (n9 gd B w ow n bm pv fv bp br d dv c K st N/\r9 n i G K D st N/\E7 B ad w):=⟨h,hI,hE⟩
 clear hU ah hS O0 Z0 hUm h hI hE jq;unfold mH;go_enter func113,ntmps113;go_upto_region 1 with fail;rw [<-H0.o.1,<-H0.o.2.2.2];go_wp2_with fail;refine cz.mono ?_;rintro e w2 ⟨⟨t',b',m',kd',nd',o',s',v'⟩,cd,rfl,H2,HP⟩;unfold mH
 obtain ⟨y,hy⟩:∃y:OpX,Aside (y=(t',b',m',kd',nd',o',s',v')):=⟨_,rfl⟩
 obtain ⟨V,hV⟩:=ze (w2.alloc (qOc t' b' m' kd' nd' o' s' v'));obtain ⟨M,hM⟩:=ze w2.heap.size;have hbw2:=zi H0.o.2.2.1 H2.o.1
 have ai:qL w V:=by rw [hV.o];exact hbw2.alloc hbw2.size _
 have OY:m6 V M y:=by rw [hV.o,hM.o,hy.o];exact m6.GA w2 (t',b',m',kd',nd',o',s',v')
 have Z2:=H0.o.2.1.later H2.o.1
 have ZV:m6 V (S+1) lQ:=by
  rw [hV.o];exact (uT _ _ _ Z2.lt).trans Z2
 have HV:Aside (qL w V/\m6 V M y/\m6 V (S+1) lQ/\S+1<M/\w.heap.size<=M):=⟨ai,OY,ZV,by have:=Z2.lt;rw [hM.o];exact this,by have:=hbw2.size;rw [hM.o];exact this⟩
 obtain ⟨z0,z1,z2,z3,z4,z5,z6,z7,zf⟩:=m6.ct ZV;by_cases hcd:cd=0
 ·subst hcd
  obtain ⟨T,hT,bT⟩:∃T,oA (lY (K a)) T/\U0 (K a) a T y:=by
   rw [hy.o]
   rcases H2.o.2.2 with ⟨q,_⟩ | ⟨_,q⟩
   ·exact absurd rfl q
   exact q
  have HN:Aside (oA (lY (K a)) T/\U0 (K a) a T y):=⟨hT,bT⟩
  have gL:=HV.o.1.drew;have jI:=HM.o.1.later gL;have hsz:=By (l:=[y]) (fun z hz=>by rw [Zc.1 hz];exact bT.ok) y zq;have bB:=Do V.drew y (jI.x8 a ha).1 (HM.o.2.2.later gL).j (fun k hk=>jI.low k (by rw [(jI.x8 a ha).2 k hk];omega)) hsz.1 hsz.2 (HM.o.2.1.acR ha zj);have hst:=(HM.o.2.1.x8 a ha).app (jI.x8 a ha).1.left.1 (by have:=HM.o.2.1.aa9 ha;omega) bT.ok
  obtain ⟨gM,s2,hcs⟩:∃gM s2,Aside (pJ (st a) y=(gM,s2)):=⟨(pJ (st a) y).1,(pJ (st a) y).2,rfl⟩
  rw [hcs.o] at bB hst;dsimp only at bB hst;have HST:Aside ((gM=0/\(st a).2.1=false/\s2.2.1=false/\I1 s2 (D a++ [y]))\/(gM=11/\s2.2.1=true/\I1 s2 (D a))):=hst
  have HFR:Aside ((st a).2.1=false->(st a).2.2.1=false->gM=0):=fun f1 f2=>by
   have cg:=(HM.o.2.1.x8 a ha).y9;have hDl:=HM.o.2.1.aa9 ha;have fp:=sM bT.ok;have dA:=nG (mO y);have hc:=hcs.o
   obtain ⟨sq,hsq⟩:∃sq:DSt,sq=st a:=⟨_,rfl⟩
   rw [<-hsq] at f1 f2 cg hc;obtain ⟨B0,off0,wt0,lf0⟩:=sq;dsimp only at f1 f2 cg;subst f1;subst f2;rw [Bj bT.ok zj] at hc
   cases hc
   rfl
  have SD:u7 V.drew (bp a) (br a) (d a)/\m6 V.drew M y:=⟨(jI.G0 a ha).1,HV.o.2.1⟩
  have jT:Aside (n9 gd B V.drew ow n bm pv fv bp br d dv c K st N/\m6 V.drew (S+1) lQ/\qL w V.drew/\ow M=0/\ow (S+1)=0):=⟨jI,HV.o.2.2.1,gL,HM.o.1.high M HV.o.2.2.2.2,HM.o.1.high (S+1) yV⟩
  rw [hy.o] at bB;unfold Iw at bB;dsimp only at bB;rw [show eV ad 0= .nilIface from rfl];go_upto_region 4 with fail;rw [<-hV.o,<-hM.o];refine lV (S:=(fun w'=>u7 w' (bp a) (br a) (d a)/\m6 w' M y)) zk SD (fun aa=> ?_);refine tk 0 aa ?_ (y:=ty zm);refine tk 1 aa ?_ (y:=ty zm);refine tk 2 aa ?_ (y:=ty zm);refine tk 3 aa ?_ (y:=ty xr);refine tk 4 aa ?_ (y:=ty yv);refine an (i:=5) zk rfl (fun kQ hK=> ?_);go_simp;refine bB.mono ?_;rintro e w5 ⟨rfl,H5⟩;obtain ⟨kY,ft,cW⟩:=jT.o.1.aaI ha H5.o
  have S5:u7 w5 (bp a) (br a) (d a)/\m6 w5 M y:=⟨(ft.G0 a ha).1,(cW.block M HV.o.2.1.lt (fun q=>by have q':=q;rw [jT.o.2.2.2.1] at q';omega)).trans HV.o.2.1⟩
  have Z5:m6 w5 (S+1) lQ:=(cW.block (S+1) HV.o.2.2.1.lt (fun q=>by have q':=q;rw [jT.o.2.2.2.2] at q';omega)).trans HV.o.2.2.1;have hb5:=(jT.o.2.2.1.mono HM.o.1.l9).trans (jT.o.1.m8 cW (fun k e=>zj))
  have fd:Aside (n9 gd B w5 (mQ ow V.drew w5 (20+a)) n bm pv fv bp br d (lR dv a kY) c K (lR st a s2) N/\Below B w w5/\mQ ow V.drew w5 (20+a) M=0/\mQ ow V.drew w5 (20+a) (S+1)=0/\zdz ow w (mQ ow V.drew w5 (20+a)) w5):=⟨ft,hb5,(mg HV.o.2.1.lt).trans jT.o.2.2.2.1,(mg HV.o.2.2.1.lt).trans jT.o.2.2.2.2,fun k hk e=>by
   have hkV:=uY hk jT.o.2.2.1.size
   exact ⟨(mg hkV).trans e,(cW.block k hkV (fun q=>zj)).trans (jT.o.2.2.1.block k hk)⟩⟩
  refine hK _ _ S5 ?_;refine qn ?_;refine an (i:=6) zk rfl (fun kQ hK=> ?_);go_simp;refine hK _ _ S5 ?_;refine wpAnyH_done zk ?_ _;refine qn ?_
  obtain ⟨ow5,how5⟩:∃f,Aside (f=mQ ow V.drew w5 (20+a)):=⟨_,rfl⟩
  rw [<-how5.o] at fd;obtain ⟨z0,z1,z2,z3,z4,z5,z6,z7,zf⟩:=m6.ct Z5
  have HZ5:Aside (m6 w5 (S+1) lQ/\u7 w5 (bp a) (br a) (d a)/\m6 w5 M y):=⟨Z5,S5.1,S5.2⟩
  rcases HST.o with ⟨rfl,hon,hso,hdi⟩ | ⟨rfl,hso,hdi⟩
  ·have HD:Aside ((st a).2.1=false/\s2.2.1=false/\I1 s2 (D a++ [y])):=⟨hon,hso,hdi⟩
   rw [show eV ad 0= .nilIface from rfl];obtain ⟨X,hX⟩:=ze ((w5.alloc (qOc t' b' m' kd' nd' o' s' v')).drew)
   have hbX:qL w5 X:=by rw [hX.o];exact (zh w5 _).drew
   have hinX:F2 X (qS w5.heap.size) [y]:=by
    refine .inr ⟨w5.heap.size,0,rfl,fun j u hj=> ?_⟩;rw [hX.o];have:=pU w5 (t',b',m',kd',nd',o',s',v') 88 j u (by rw [hy.o] at hj;simpa [cellsOf,mN] using hj);rw [Addr.add_lit] at this;exact this
   have kt:=fd.o.1.later hbX;have iX:=NK X (c a) (br a) a (K a) (qS w5.heap.size) 1 T y (kt.G4 a ha).1 ((HM.o.2.2.mono fd.o.2.1).later hbX).t ha4 hinX HN.o.2 HN.o.1.1 (by have:=HM.o.2.1.y9 ha;omega)
   have HX:Aside (n9 gd B X ow5 n bm pv fv bp br d (lR dv a kY) c K (lR st a s2) N/\m6 X (S+1) lQ/\u7 X (bp a) (br a) (d a)/\m6 X M y/\Below B w X/\qL w5 X):=⟨kt,HZ5.o.1.later hbX,(kt.G0 a ha).1,HZ5.o.2.2.later hbX,fd.o.2.1.trans (hbX.mono fd.o.1.l9),hbX⟩
   have SD7:u7 w5.drew (bp a) (br a) (d a)/\m6 w5.drew M y:=HZ5.o.2
   have SX:u7 X (bp a) (br a) (d a)/\m6 X M y:=⟨HX.o.2.2.1,HX.o.2.2.2.1⟩
   go_upto_region 7 with fail;refine lV (S:=(fun w'=>u7 w' (bp a) (br a) (d a)/\m6 w' M y)) zk SD7 (fun aa=> ?_);refine tk 0 aa ?_ (y:=ty zm);refine tk 1 aa ?_ (y:=ty zm);refine tk 2 aa ?_ (y:=ty zm);refine tk 3 aa ?_ (y:=ty zI);refine tk 4 aa ?_ (y:=ty yv);refine an (i:=5) zk rfl (fun kQ hK=> ?_);go_simp;rw [<-hX.o];refine hK _ _ SX ?_;refine qn ?_;refine an (i:=6) zk rfl (fun kQ hK=> ?_);go_simp;refine iX.mono ?_;rintro e w6 ⟨c',R',rfl,hA,hR',hmem,hlen⟩;obtain ⟨hm6,hk6⟩:=HX.o.1.aa0 ha hA hR'
   have k0:∀k,k<X.heap.size->ow5 k=0->w6.heap[k]? =X.heap[k]? :=fun k hk e=>hk6.block k hk (fun q=>zj)
   have S6:u7 w6 (bp a) (br a) (d a)/\m6 w6 M y:=⟨(hm6.G0 a ha).1,(k0 M HX.o.2.2.2.1.lt fd.o.2.2.1).trans HX.o.2.2.2.1⟩
   have Z6:m6 w6 (S+1) lQ:=(k0 (S+1) HX.o.2.1.lt fd.o.2.2.2.1).trans HX.o.2.1
   have H6:Aside (n9 gd B w6 (mQ ow5 X w6 (10+a)) n bm pv fv bp br d (lR dv a kY) (lR c a c') (lR K a R') (lR st a s2) N/\Below B w w6/\mQ ow5 X w6 (10+a) (S+1)=0/\t7 R'/\(∀z,z∈lY R'↔z=y\/z∈lY (K a))/\zdz ow w (mQ ow5 X w6 (10+a)) w6):=⟨hm6,HX.o.2.2.2.2.1.trans (HX.o.1.m8 hk6 (fun k e=>zj)),(mg HX.o.2.1.lt).trans fd.o.2.2.2.1,hR'.h,hmem,fun k hk e=>by
    obtain ⟨e5,b5⟩:=fd.o.2.2.2.2 k hk e
    have cW:=uY hk fd.o.2.1.size
    have hkX:=uY cW HX.o.2.2.2.2.2.size
    exact ⟨(mg hkX).trans e5,((k0 k hkX e5).trans (HX.o.2.2.2.2.2.block k cW)).trans b5⟩⟩
   have aa:=S6;refine hK _ _ S6 ?_;refine qn ?_;refine tk 7 aa ?_ (y:=ty zm);refine tk 8 aa ?_ (y:=ty zm);refine tk 9 aa ?_ (y:=ty zm);refine tk 10 aa ?_ (y:=ty zm);refine an (i:=11) zk rfl (fun kQ hK=> ?_);go_simp;refine hK _ _ S6 ?_;refine wpAnyH_done zk ?_ _;refine qn ?_;have Y6:=S6.2;rw [hy.o] at Y6;obtain ⟨q0,q1,q2,q3,q4,q5,q6,q7,-⟩:=Y6.cells;dsimp only at q0 q1 q2 q3 q4 q5 q6 q7;obtain ⟨z0,z1,z2,z3,z4,z5,z6,z7,zf⟩:=m6.ct Z6;go_wp2;(try simp only [Exit.inBlock,Exit.then]);refine bodyPost_ret (v:=.tuple #[.agg (qOa t' b' m' kd' nd' o' s' v'),.nilIface]) ?_ rfl ?_
   ·exact kc3
   have cV:=lZ (S+1) (qOl t' b' m' kd' nd' o' s' v') 0 w6;refine ⟨(t',b',m',kd',nd',o',s',v'),0,G++ [y],lR K a R',lR D a (D a++ [y]),lR st a s2,rfl,⟨_,_,_,_,_,_,_,_,H6.o.1.Z cV (fun k e=>by have e':=e;rw [e'];exact H6.o.2.2.1),fun k hk e=>⟨(H6.o.2.2.2.2.2 k hk e).1,(cV.block k (uY hk H6.o.2.1.size) (fun q=>xi)).trans (H6.o.2.2.2.2.2 k hk e).2⟩⟩,H6.o.2.1.trans (cV.m8 (uQ HM.o.1.l9 H6.o.2.1.size) (fun k e=>yS)),HM.o.2.1.aca ha ha4 HN.o.1 HN.o.2 HD.o.1 HD.o.2.2 HD.o.2.1 H6.o.2.2.2.1 H6.o.2.2.2.2.1,fun r hr x hx=> ?_,.inr ⟨rfl,by rw [hy.o],by have:=HN.o.2.o8;rw [hy.o] at this;exact this⟩,_,_,HP.o,fun _ _ _=>⟨rfl,rfl⟩,fun r hr=>⟨lP _ _ hr,lP _ _ hr⟩,.inr (.inr ⟨rfl,by rw [<-hy.o,hcs.o],rfl,rfl,⟨R',rfl,H6.o.2.2.2.1,fun z=>by rw [<-hy.o];exact H6.o.2.2.2.2.1 z⟩,by rw [<-hy.o,hcs.o]⟩)⟩;by_cases q:r=a
   ·subst q;rw [lU];exact (H6.o.2.2.2.2.1 x).2 (.inr hx)
   rw [lP _ _ q];exact hx
  have HD:Aside (s2.2.1=true/\I1 s2 (D a)):=⟨hso,hdi⟩
  rw [mL (show (11:Nat)≠0 by omega)];go_wp2;(try simp only [Exit.inBlock,Exit.then]);refine bodyPost_ret (v:=.tuple #[.agg qZa,.iface 437 (.pointer (some (ad (11 - 1))))]) ?_ rfl ?_
  ·exact kc3
  have cV:=lZ (S+1) qZl 0 w5;exact ⟨lQ,11,G,K,D,lR st a s2,rfl,⟨_,_,_,_,_,_,_,_,fd.o.1.Z cV (fun k e=>by have e':=e;rw [e'];exact fd.o.2.2.2.1),fun k hk e=>⟨(fd.o.2.2.2.2 k hk e).1,(cV.block k (uY hk fd.o.2.1.size) (fun q=>xi)).trans (fd.o.2.2.2.2 k hk e).2⟩⟩,fd.o.2.1.trans (cV.m8 (uQ HM.o.1.l9 fd.o.2.1.size) (fun k e=>yS)),(HM.o.2.1.abT HD.o.2 (fun e=>by rw [HD.o.1] at e;cases e)).up zj,fun r hr x hx=>hx,.inl ⟨zj,rfl⟩,_,_,HP.o,fun _ f1 f2=>absurd (HFR.o f1 f2) zj,fun r hr=>⟨rfl,lP _ _ hr⟩,.inr (.inl ⟨rfl,by rw [<-hy.o,hcs.o];omega,by rw [<-hy.o,hcs.o],rfl,rfl,by rw [<-hy.o,hcs.o]⟩)⟩
 obtain ⟨er,aB⟩:=ze (ad (cd - 1));have HB:Aside (cd≠0):=hcd;rw [mL hcd,<-aB.o];go_upto_region 3 with fail;rw [<-hV.o,<-hM.o];go_wp2;(try simp only [Exit.inBlock,Exit.then]);refine bodyPost_ret (v:=.tuple #[.agg qZa,.iface 437 (.pointer (some er))]) ?_ rfl ?_
 ·exact kc3
 have cV:=lZ (S+1) qZl 0 V;have jI:=HM.o.1.later HV.o.1;have ai:=HV.o.1.mono HM.o.1.l9;exact ⟨lQ,cd,G,K,D,st,by rw [mL HB.o,<-aB.o];rfl,⟨_,_,_,_,_,_,_,_,jI.Z cV (fun k e=>by have e':=e;rw [e'];exact HM.o.1.high _ yV),fun k hk e=>⟨e,(cV.block k (uY hk HV.o.1.size) (fun q=>xi)).trans (HV.o.1.block k hk)⟩⟩,ai.trans (cV.m8 jI.l9 (fun k e=>yS)),HM.o.2.1.up zj,fun r hr x hx=>hx,.inl ⟨HB.o,rfl⟩,_,_,HP.o,fun q=>absurd q HB.o,fun r hr=>⟨rfl,rfl⟩,.inl ⟨HB.o,rfl,rfl,rfl,rfl⟩⟩
def GB(w:qW)(b:Nat)(x:nO):Prop:=w.heap[b]? =some (.cells #[qN x.1,qN x.2.1,.bool x.2.2.1,qI (x.2.2.2.1 0),qI (x.2.2.2.1 1),qI (x.2.2.2.1 2),qI (x.2.2.2.1 3),At x] 149 (0,0))
theorem GB.lt{w}{b}{x}(h:GB w b x):b<w.heap.size:=(uN.1 h).1
theorem GB.same{w w'}{b}{x}(h:GB w b x)(e:w'.heap[b]? =w.heap[b]?):GB w' b x:=e.trans h
theorem GB.later{w w'}{b}{x}(h:GB w b x)(hb:qL w w'):GB w' b x:=h.same (hb.block b h.lt)
theorem GB.GA(w:qW)(x):GB (w.alloc (.cells #[qN x.1,qN x.2.1,.bool x.2.2.1,qI (x.2.2.2.1 0),qI (x.2.2.2.1 1),qI (x.2.2.2.1 2),qI (x.2.2.2.1 3),At x] 149)) w.heap.size x:=heap_alloc_new w _
theorem GB.cells{w}{b}{x}(h:GB w b x):w.cell? (qB b)=some (qN x.1)/\w.cell? (qA b 1)=some (qN x.2.1)/\w.cell? (qA b 2)=some (.bool x.2.2.1)/\w.cell? (qA b 3)=some (qI (x.2.2.2.1 0))/\w.cell? (qA b 4)=some (qI (x.2.2.2.1 1))/\w.cell? (qA b 5)=some (qI (x.2.2.2.1 2))/\w.cell? (qA b 6)=some (qI (x.2.2.2.1 3))/\w.cell? (qA b 7)=some (At x)/\∀o,w.frozen? (qA b o)=false:=by
 unfold GB at h;exact kn4
def Ws(x:nO):Value:=.agg #[qN x.1,qN x.2.1,.bool x.2.2.1,qI (x.2.2.2.1 0),qI (x.2.2.2.1 1),qI (x.2.2.2.1 2),qI (x.2.2.2.1 3),At x]
theorem OU:(prog.info? 149).map (fun i=>(i.zero,i.size,i.bytes))=some (some (.agg #[qI 0,qI 0,.bool false,qI 0,qI 0,qI 0,qI 0,qE]),8,80):=zk
theorem Er{gd}{B}{ad}{ow}{n bm}{pv fv}{bp br d}{dv}{c}{K}{st}{N}(w)(x)(h:n9 gd B w ow n bm pv fv bp br d dv c K st N)(hE:E7 B ad w)(hx:P7 w ow n x):
  qC 86 #[qP bm,Ws x] w fun e w'=>(30<=N.length/\e= .returned (eV ad 8)/\Aside (qL w w'))\/(N.length<30/\e= .returned .nilIface/\Aside (∃fv' ow',n9 gd B w' ow' n bm pv fv' bp br d dv c K st (N++ [x])/\Below B w w')):=by
 obtain ⟨i0,hi,aD,aw,aJ⟩:=info_parts OU;obtain ⟨x1,x2,x3,x4,x5,x6,x7⟩:=x
 obtain ⟨x,b6⟩:∃x:nO,Aside (x=(x1,x2,x3,x4,x5,x6,x7)):=⟨_,rfl⟩
 obtain ⟨Q,hQ⟩:=ze w.heap.size;obtain ⟨U,hU⟩:=ze (w.alloc (.cells #[qN x1,qN x2,.bool x3,qI (x4 0),qI (x4 1),qI (x4 2),qI (x4 3),.slice x5 x7.length x6] 149));have ah:qL w U:=yC
 have XU:GB U Q x:=by rw [hU.o,hQ.o,b6.o];exact GB.GA w (x1,x2,x3,x4,x5,x6,x7)
 have dK:=h.later ah;have m1:=dK.D8.c1;obtain ⟨fo,fc,hfv⟩:=mC h.L8
 have HM:Aside (n9 gd B w ow n bm pv fv bp br d dv c K st N/\E7 B ad w/\P7 w ow n x/\n9 gd B U ow n bm pv fv bp br d dv c K st N/\qL w U/\GB U Q x):=⟨h,hE,by rw [b6.o];exact hx,dK,ah,XU⟩
 have ef:=(hE.later ah).t.G6.c7;subst hfv;unfold Ws At;dsimp only;clear h hE hx ah dK XU;by_cases hlen:30<=N.length
 ·have d1:decide ((30:Int)<=(N.length:Int))=true:=by simp;omega
  have dg:decide (30<=N.length)=true:=zl;go_enter func86,ntmps86;go_upto_region 1 with fail;rw [<-hU.o,<-hQ.o];go_wp2;go_ret;exact .inl ⟨hlen,rfl,HM.o.2.2.2.2.1⟩
 have d1:decide ((30:Int)<=(N.length:Int))=false:=zl;have dg:decide (30<=N.length)=false:=zl;obtain ⟨X,hX⟩:=ze ((U.alloc (.cells #[qN x1,qN x2,.bool x3,qI (x4 0),qI (x4 1),qI (x4 2),qI (x4 3),.slice x5 x7.length x6] 149)).drew)
 have hbX:qL U X:=by rw [hX.o];exact (zh U _).drew
 have kt:=HM.o.2.2.2.1.later hbX
 have hXc:X.heap[U.heap.size]? =some (.cells #[qN x1,qN x2,.bool x3,qI (x4 0),qI (x4 1),qI (x4 2),qI (x4 3),.slice x5 x7.length x6] 149 (0,0)):=by rw [hX.o];exact heap_alloc_new U _
 obtain ⟨v2,w2,ae,hown,ag,av⟩:=rX (P:=prog) X B 54 54 149 i0 _ 8 80 underlying54 hi aD aw aJ rfl zj (.slice fo N.length fc) N.length (mN nY N) kt.L8 (qB U.heap.size) 1 1 zj (nY x) (by rw [mj])
  (by rw [b6.o];exact YJ (cs:= #[qN x1,qN x2,.bool x3,qI (x4 0),qI (x4 1),qI (x4 2),qI (x4 3),.slice x5 x7.length x6]) (t:=149) (fr:=(0,0)) hXc) (CI x) zB zj kt.l9
 have hown':w2.ownsRow B 149 8 v2 (N++ [x]).length (mN nY (N++ [x])):=by
  rw [uS]
  have e:mN nY (N++ [x])=mN nY N++nY x:=by simp [mN]
  rw [e];exact hown
 have hkU:=((lW hbX).mono (fun k hk q=>absurd hk zj)).then (lS ag) (fun k _ q=>q)
 have hnU:=HM.o.2.2.1.later HM.o.2.2.2.2.1
 obtain ⟨ju,jz⟩:=HM.o.2.2.2.1.abt (v:=v2) (N':=N++ [x]) hkU hown' (fun g hg=>by
  rcases av with ⟨g',cp,e1,e2⟩ | ⟨e1,_⟩
  ·left
   rw [e2] at hg
   rw [e1]
   exact hg
  ·right
   rw [hg] at e1
   cases e1
   exact hbX.size) (fun y hy=>by
  rcases uU.1 hy with q | q
  ·exact HM.o.2.2.2.1.B8 y q
  ·rw [Zc.1 q];exact hnU)
 have HF:Aside (n9 gd B (w2.setCell (qA bm 1) v2) (mQ ow U w2 3) n bm pv v2 bp br d dv c K st (N++ [x])/\Below B w (w2.setCell (qA bm 1) v2)):=⟨ju,(HM.o.2.2.2.2.1.mono HM.o.1.l9).trans (HM.o.2.2.2.1.m8 jz (fun k e=>zj))⟩
 have kbm:∀ {b:Nat},b<U.heap.size->ow b≠3->w2.heap[b]? =U.heap[b]? :=fun {b} hb ho=>hkU.block b hb (fun q=>ho (HM.o.1.of b (Eq.symm q)))
 have SU:G7 U.drew bm pv (.slice fo N.length fc)/\GB U.drew Q x:=⟨HM.o.2.2.2.1.D8,HM.o.2.2.2.2.2⟩
 have SX:G7 X bm pv (.slice fo N.length fc)/\GB X Q x:=⟨kt.D8,HM.o.2.2.2.2.2.later hbX⟩
 have S2:G7 w2 bm pv (.slice fo N.length fc)/\GB w2 Q x:=⟨(kbm HM.o.2.2.2.1.D8.lt (by rw [HM.o.1.om];omega)).trans HM.o.2.2.2.1.D8,HM.o.2.2.2.2.2.same (kbm HM.o.2.2.2.2.2.lt (by rw [HM.o.1.high Q (by rw [hQ.o];exact uM _)];omega))⟩
 have n1:=S2.1.c1;have nf:=S2.1.fz 1
 obtain ⟨g2,cp2,dh⟩:∃g cap,v2=qG g (N.length+1) cap:=by
  rcases hown.2 with ⟨_,q⟩ | ⟨g,cap,cur,q,_⟩
  ·omega
  exact ⟨g,cap,q⟩
 subst dh
 have HFS:Aside (∃fv' ow',n9 gd B (w2.setCell (qA bm 1) (qG g2 (N.length+1) cp2)) ow' n bm pv fv' bp br d dv c K st (N++ [(x1,x2,x3,x4,x5,x6,x7)])/\Below B w (w2.setCell (qA bm 1) (qG g2 (N.length+1) cp2))):=⟨_,_,by rw [<-b6.o];exact HF.o.1,HF.o.2⟩
 clear hbX kt hXc hown hown' ag av hkU hnU ju jz HF kbm;go_enter func86,ntmps86;go_upto_region 1 with fail;rw [<-hU.o,<-hQ.o];go_upto_region 3 with fail;refine nT (S:=(fun w'=>G7 w' bm pv (.slice fo N.length fc)/\GB w' Q x)) (z:=10) zk SU (fun aa=> ?_);refine lX (i:=0) (v:= ?va0) zo rfl zk zk zk (fun _ _ _ h=>h) (Or.inl ⟨zt,?hya0⟩) aa ?resta0
 case hya0=>(intro w' _;go_simp;try with_reducible rfl)
 refine qn ?_;refine lX (i:=1) (v:= ?va1) zo rfl zk zk zk (fun _ _ _ h=>h) (Or.inl ⟨zt,?hya1⟩) aa ?resta1
 case hya1=>(intro w' _;go_simp;try with_reducible rfl)
 refine qn ?_;refine lX (i:=2) (v:= ?va2) zo rfl zk zk zk (fun _ _ _ h=>h) (Or.inl ⟨zt,?hya2⟩) aa ?resta2
 case hya2=>(intro w' _;go_simp;try with_reducible rfl)
 refine qn ?_;refine lX (i:=3) (v:= ?va3) zo rfl zk zk zk (fun _ _ _ h=>h) (Or.inl ⟨zt,?hya3⟩) aa ?resta3
 case hya3=>(intro w' _;go_simp;try with_reducible rfl)
 refine qn ?_;refine mS (i:=4) (v:= ?va4) zo zk rfl zk zk zk zk (fun _ _ _ h=>h) (Or.inl ⟨zt,?hya4⟩) aa ?resta4
 case hya4=>(intro w' ab;have q1:=ab.1.c1;clear ab;go_simp;try with_reducible rfl)
 refine qn ?_;refine mS (i:=5) (v:= ?va5) zo zk rfl zk zk zk zk (fun _ _ _ h=>h) (Or.inl ⟨zt,?hya5⟩) aa ?resta5
 case hya5=>(intro w' ab;have q9:=ab.2;rw [b6.o] at q9;obtain ⟨q0,q1,q2,q3,q4,q5,q6,q7,-⟩:=GB.cells q9;unfold At at q7;dsimp only at q0 q1 q2 q3 q4 q5 q6 q7;clear q9;clear ab;go_simp;try with_reducible rfl)
 refine qn ?_;refine mY (i:=6) zk rfl (fun kQ hK=> ?_);go_simp;rw [<-hX.o];refine hK _ _ (.inl SX) ?_;clear hK kQ aa;refine qn ?_;refine mY (i:=7) zk rfl (fun kQ hK=> ?_);simp only [ZU,ZZ,Ya];refine Lib.wp_append_run _ _ _ _ _ rfl (.slice fo N.length fc) (qG U.heap.size 1 1) ?ahs ?ahx _ w2 ae ?_
 case ahs=>rfl
 case ahx=>rfl
 refine hK _ _ (.inl S2) ?_;clear hK kQ;refine qn ?_;refine lX (i:=8) (v:= ?vb8) zo rfl zk zk zk (fun _ _ _ h=>h) (Or.inl ⟨zt,?hyb8⟩) S2 ?restb8
 case hyb8=>(intro w' _;go_simp;try with_reducible rfl)
 refine qn ?_;refine lX (i:=9) (v:= ?vb9) zo rfl zk zk zk (fun _ _ _ h=>h) (Or.inl ⟨zt,?hyb9⟩) S2 ?restb9
 case hyb9=>(intro w' _;go_simp;try with_reducible rfl)
 refine qn ?_;refine mY (i:=10) zk rfl (fun kQ hK=> ?_);go_simp;refine hK _ _ (.inr ⟨rfl,zo⟩) ?_;clear hK kQ;refine ma zk ?_ _;clear n1 nf S2 SX SU;go_wp2;go_ret;exact .inr ⟨zj,rfl,HFS.o⟩
theorem GE{bm}{pv}{fo}{m fc}(w)(p8)(h:G7 w bm pv (.slice fo m fc))(ho: -9223372036854775808<=p8/\p8<=9223372036854775807):
  qC 90 #[qP bm,qI p8] w fun e w'=>e= .returned (.bool (decide (0<=p8/\p8<(m:Int))))/\w'=w:=by
 have m1:=h.c1;by_cases h0:0<=p8
 ·have d0:decide (0<=p8)=true:=by simp;omega
  have e:decide (0<=p8/\p8<(m:Int))=decide (p8<(m:Int)):=xn;rw [e];go_enter func90,ntmps90;exact ka7
 have d0:decide (0<=p8)=false:=zl;have e:decide (0<=p8/\p8<(m:Int))=false:=xn;rw [e];go_enter func90,ntmps90;exact ka7
def Ti(K K':qH)(st st':qD)(a:Nat):Prop:=(∃R',K'=lR K a R'/\t7 R'/\∀z,z∈lY R'↔z∈(mp (st a).1).1)/\st'=lR st a (tg (st a))
def Xx(gd:Nat->Option Obj)(B n bm i:Nat)(G:qX)(K:qH)(D:Nat->List OpX)(st:qD)(N:qJ)(a:Nat)(w:qW)(e:Ending)(w':qW):Prop:=∃(K':qH) (st':qD),e= .returned .nilIface/\Aside (p9 gd B n bm K' st' N w'/\Below B w w'/\r9 n i G K' D st' N/\(∀r,r≠a->K' r=K r)/\Ti K K' st st' a)
theorem Fn{α}(f)(a)(x y:α):lR (lR f a x) a y=lR f a y:=by
 funext r;unfold lR;split<;>rfl
theorem Nl{gd}{B}{ad}{ow}{n bm}{pv fv}{bp br d}{dv}{c}{K}{st}{N}{i}{G}{D}(w)(a)(h:n9 gd B w ow n bm pv fv bp br d dv c K st N)(hI:r9 n i G K D st N)(hE:E7 B ad w)(ha:a<n)(hi:i<=155):
  qC 92 #[qP (bp a)] w (Xx gd B n bm i G K D st N a w):=by
 have ha4:=uY ha h.X7;have p0:=(h.G0 a ha).1.c0;obtain ⟨T,kv,bt,bx,bc,A,hM,-⟩:=(h.G4 a ha).1.G4;have bK:=zbu w (br a) T (a:Int) kv bt bx bc hM.cell;have hnew:=SC w (a:Int) zj zj
 have HM:Aside (n9 gd B w ow n bm pv fv bp br d dv c K st N/\r9 n i G K D st N/\E7 B ad w):=⟨h,hI,hE⟩
 go_enter func92,ntmps92;go_wp2_with fail;refine bK.mono ?_;rintro e w1 ⟨rfl,rfl⟩;go_wp2_with fail;refine hnew.mono ?_;rintro e w2 ⟨c0,b0,rfl,hR0,hb2⟩;have bJ:=HM.o.1.later hb2;have p2:=(bJ.G0 a ha).1;have p0:=p2.c0;have pf:=p2.fz 0;obtain ⟨cA,hk3⟩:=HM.o.1.adi ha hb2 hR0;obtain ⟨W,hW⟩:=ze (w2.setCell (qB (bp a)) (qP b0));rw [<-hW.o] at cA hk3
 obtain ⟨ow3,lL⟩:∃f,Aside (f=mQ ow w1 w2 (10+a)):=⟨_,rfl⟩
 rw [<-lL.o] at cA;have hb3:=HM.o.1.m8 hk3 (fun k e=>zj);have hrec:=IC W (cA.x8 a ha).1 (HM.o.2.2.mono hb3).j (fun k hk=>cA.low k (by rw [(cA.x8 a ha).2 k hk];omega)) (HM.o.2.1.acR ha zj);have lK:=(cA.G0 a ha).1;rw [lU] at lK
 have H3:Aside (n9 gd B W ow3 n bm pv fv bp (lR br a b0) d dv (lR c a c0) (lR K a (fun _=>[])) st N/\Below B w1 W/\u7 W (bp a) b0 (d a)):=⟨cA,hb3,lK⟩
 have r1:=lK.c1;go_upto_region 5 with fail;rw [<-hW.o];go_wp2_with fail;refine hrec.mono ?_;rintro e w4 ⟨rv,rfl,H4⟩;obtain ⟨kY,jw,hk4⟩:=H3.o.1.aaI ha H4.o.1;have hbk:=(HM.o.2.1.x8 a ha).acN;have hrow:=H4.o.2.1;rw [hbk.1] at hrow;obtain ⟨ra,rc,hrv⟩:=mC hrow
 have eF:F2 w4 ra (D a):=by
  rw [hrv] at hrow
  rcases Cx hrow with ⟨_,q⟩ | ⟨b,o,cp,q1,q2⟩
  ·exact .inl q
  exact kk0
 obtain ⟨ow4,how4⟩:∃f,Aside (f=mQ ow3 W w4 (20+a)):=⟨_,rfl⟩
 rw [<-how4.o] at jw;have hb4:=H3.o.2.1.trans (H3.o.1.m8 hk4 (fun k e=>zj));have hr4:=(jw.G4 a ha).1;simp only [lU] at hr4;have hdw:=(HM.o.2.1.G9.W9 a ha).1;have iX:=Wu w4 c0 b0 (a:Int) (fun _=>[]) ra rc (D a) (D a) hr4 (HM.o.2.2.mono hb4).t eF hdw (fun x hx=>by simp [lY] at hx) (fun x hx=>hx) (fun x hx=>.inr hx) (by have:=HM.o.2.1.aa9 ha;simp [lY];omega);have hp4:=(jw.G0 a ha).1;rw [lU] at hp4;have r0:=hp4.c0
 have H5:Aside (n9 gd B w4 ow4 n bm pv fv bp (lR br a b0) d (lR dv a kY) (lR c a c0) (lR K a (fun _=>[])) (lR st a (tg (st a))) N/\Below B w1 w4):=⟨jw,hb4⟩
 subst hrv;go_wp2_with fail;refine iX.mono ?_;rintro e w5 ⟨m,c',R',rfl,hA,hR',hmem,hlen⟩;obtain ⟨ft,cW⟩:=H5.o.1.aa0 (a:=a) (c':=c') (R':=R') ha (by rw [lU];exact hA) (by rw [lU];exact hR');rw [Fn,Fn] at ft
 have H6:Aside (p9 gd B n bm (lR K a R') (lR st a (tg (st a))) N w5/\Below B w1 w5/\t7 R'/\∀x,x∈lY R'↔x∈D a):=⟨⟨_,_,_,_,_,_,_,_,ft⟩,H5.o.2.trans (H5.o.1.m8 cW (fun k e=>zj)),hR'.h,fun x=>by rw [hmem x];simp [lY]⟩
 go_wp2;go_ret;have hbk:=(HM.o.2.1.x8 a ha).acN;exact ⟨lR K a R',lR st a (tg (st a)),rfl,H6.o.1,H6.o.2.1,HM.o.2.1.acc ha H6.o.2.2.2 H6.o.2.2.1 hbk.2.1 hbk.2.2,fun r hr=>lP _ _ hr,⟨R',rfl,H6.o.2.2.1,fun z=>by rw [hbk.1];exact H6.o.2.2.2 z⟩,rfl⟩
def x4:OpX:=(1,0,1,109,4,0,⟨#[97]⟩,⟨#[]⟩)
theorem Bn{R:Rws}(h:R=fun _=>[]):lY R= []:=by rw [h];rfl
theorem Ud{R:Rws}(h:R=fun _=>[]){T}(ht:oA (lY R) T):T=0:=by
 rw [Bn h] at ht
 rcases ht.2.1 with q | ⟨x,hx,_⟩
 ·exact q
 simp at hx
end
section
open RowKit Lib Go.Sort
def Bu(ok:Bool)(x:OpX):OpX×Nat:=if ok=false then (lQ,6) else if pZ x=0 then (x,0) else (lQ,pZ x)

end