import Derived.Test.YtjclejjkganhfaaGreatDoorSR27
import Derived.Test.YtjclejjkganhfaaGreatDoorSR28
set_option linter.unusedSimpArgs false
set_option linter.unusedVariables false
namespace Go.Proofs.YtjclejjkganhfaaGreatDoor
section
open RowKit Lib Go.Sort Maps
structure S7 (B:Nat) (ad:qF) (w:qW):Prop where
 G3:E8 B ad w
 tab:Lib.TabBelow Tryz.prog B w "internal/strconv.uint64pow10" .u64 Lib.pow10Tab
theorem S7.mono{B}{ad}{w w'}(h:S7 B ad w)(hb:Below B w w'):S7 B ad w':=⟨h.G3.mono hb,fun w'' h'=>h.tab w'' (hb.trans h')⟩
theorem S7.later{B}{ad}{w w'}(h:S7 B ad w)(hb:qL w w'):S7 B ad w':=h.mono (hb.mono h.G3.size)
theorem S7.up{B B'}{ad}{w}(h:S7 B ad w)(hB:B<=B')(hs:B'<=w.heap.size):S7 B' ad w:=
 ⟨⟨h.G3.P7,h.G3.c5,h.G3.c6,h.G3.c7,h.G3.c8,h.G3.c9,uO h.G3.low hB,hs⟩,fun w' h'=>h.tab w' (h'.mono hB)⟩
theorem S7.is{B}{ad}{w}(h:S7 B ad w):Lib.TabIs Tryz.prog w "internal/strconv.uint64pow10" .u64 Lib.pow10Tab:=h.tab w (uM _ w)
theorem B9.abY{B B'}{w}{c}{br}{o9}{R}(h:B9 B w c br o9 R)(hB:B'<=B):B9 B' w c br o9 R:=⟨h.GP,fun k hk=>uO hB (h.low k hk),h.high⟩
theorem K7.GC{w}{c}{br}{o9}{R}(h:K7 w c br o9 R):u9 R:=ud
structure zdN (B:Nat) (w:qW) (n:Nat) (c:Nat->Nat->Nat) (br:Nat->Nat) (o9:Nat->Int) (R:qH):Prop where
 GP:∀r,r<n->B9 B w (c r) (br r) (o9 r) (R r)
 apart:∀r,r<n->∀s,s<n->r≠s->∀k,c r k=0\/c s k=0
def lR{α:Type}(f:Nat->α)(a:Nat)(x:α):Nat->α:=fun r=>if r=a then x else f r
theorem lT{α}(f)(a)(x:α):lR f a x a=x:=if_pos rfl
theorem lP{α}(f){a r}(x:α)(h:r≠a):lR f a x r=f r:=if_neg h
theorem B9.h{B}{w}{c}{br}{o9}{R}(h:B9 B w c br o9 R):u9 R:=h.GP.GC
theorem K7.time{w}{c}{br}{o9}{R}(h:K7 w c br o9 R):∃T kv bt bx bc A,G9 w c br T o9 kv bt bx bc R A/\A.Perm (lX R)/\oE (lX R) T:=by
 obtain ⟨T,kv,bt,bx,bc,A,h1,h2,_⟩:=h;exact ⟨T,kv,bt,bx,bc,A,h1,h2,⟨fun x hx=>h1.time.1 x (h2.mem_iff.2 hx),h1.time.2.1.imp id (fun ⟨x,hx,e⟩=>⟨x,h2.mem_iff.1 hx,e⟩),h1.time.2.2⟩⟩
end
section
open scoped Classical
theorem sM{x}(h:wt x=0):(mQ x).length<=150:=by
 exact kb9
theorem Lh{D}(h:∀x∈D,wt x=0):(oN D).length<=160*D.length:=by
 induction D with
 | nil=>simp [oN]
 | cons x l ih=>
  grind [sM,nB,mQ,oN,uQ,nD,Za]
def G8(st:DSt)(D:qX):Prop:=(∀x∈D,wt x=0)/\((st.2.1=false/\st.1=oN D)\/(st.2.1=true/\st.2.2.1=false/\∃r,st.1=oN D++r/\r.length<=160/\nv r=none))
theorem G8.D4{st}{D}(h:G8 st D):st.1.length<=160*D.length+160:=by
 have h1:=Lh h.1
 rcases h.2 with ⟨_,hB⟩ | ⟨_,_,r,hB,hr,_⟩
 ·rw [hB];omega
 grind
theorem G8.app{st}{D}(h:G8 st D)(hl:0<=st.2.2.2)(hD:D.length<=320){x}(he:wt x=0):((pN st x).1=0/\st.2.1=false/\(pN st x).2.2.1=false/\G8 (pN st x).2 (D++ [x]))\/((pN st x).1=11/\(pN st x).2.2.1=true/\G8 (pN st x).2 D):=by
 have hlen:=h.D4;have eD:=sM he;have dA:=nD (mQ x);obtain ⟨B,off,waits,left⟩:=st;dsimp only at hl hlen;obtain ⟨h0,h⟩:=h;unfold pN;rw [if_neg (fun q=>q he),if_neg yi]
 have cU:∀y∈D++ [x],wt y=0:=fun y hy=>by
  grind
 rcases h with ⟨h1,hB⟩ | ⟨h1,h2,r,hB,hr1,hr2⟩
 ·dsimp only at h1 hB;subst h1
  cases waits with
  | false=>
   rw [AD];exact kk5
  | true=>
   obtain ⟨n,rfl⟩:∃n:Nat,left=(n:Int):=⟨left.toNat,zj⟩
   rw [JC];by_cases hn:(nB (mQ x)).length<=n
   ·rw [if_pos hn];exact kk5
   rw [if_neg hn];dsimp only;rw [if_neg zr];refine .inr ⟨rfl,rfl,h0,.inr ⟨rfl,rfl,(nB (mQ x)).take n,by rw [hB],?_,Oo he zj⟩⟩
   grind
 dsimp only at h1 h2 hB;subst h1;subst h2;obtain ⟨c,r',hc⟩:=zab (mQ x);rw [hc,Rz];dsimp only;rw [if_neg zr];exact .inr ⟨rfl,rfl,h0,.inr ⟨rfl,rfl,r,hB,hr1,hr2⟩⟩
theorem G8.adn{st}{D}(h:G8 st D):(mp st.1).1=D/\G8 (wH st) D/\(wH st).2.1=false:=by
 have h1:mp st.1=(D,(oN D).length):=by
  rcases h.2 with ⟨_,hB⟩ | ⟨_,_,r,hB,_,hr⟩
  ·rw [hB];exact Pa D h.1
  rw [hB];exact AL D r h.1 hr
 refine ⟨by rw [h1],⟨h.1,.inl ⟨rfl,?_⟩⟩,rfl⟩;unfold wH;rw [h1];dsimp only
 rcases h.2 with ⟨_,hB⟩ | ⟨_,_,r,hB,_,hr⟩
 ·rw [hB,Zk zg]
 simp_all
theorem G8.cut{st}{D}(h:G8 st D)(n):G8 (BZ st n) D/\(BZ st n).2.1=st.2.1:=by
 unfold BZ;split
 ·rename_i e;refine ⟨⟨h.1,?_⟩,rfl⟩
  rcases h.2 with ⟨h1,h2⟩ | ⟨h1,_⟩
  ·exact .inl ⟨h1,h2⟩
  grind [IA]
 exact ⟨h,rfl⟩
theorem QB:G8 ([],false,false,0) []:=⟨fun x hx=>ya,.inl ⟨rfl,rfl⟩⟩
theorem Lj{S S' F}(hS:D5 S)(gj:D5 S')(dy:∀x∈S,x∈S')(hF:Al F)(hm:∀x,x∈F↔x∈S'/\x∉S)(k):D5 (S++F.take k):=by
 have up:∀x,x∈S++F.take k->x∈S':=fun x hx=>by
  grind
 have ahead:∀x,x∈F.take k->∀y,y∈S'->idO y<=idO x->y∈S++F.take k:=fun x hx y hy bD=>by
  by_cases hyS:y∈S
  ·simp_all
  have hyF:=(hm y).2 ⟨hy,hyS⟩;have cQ:=(hm x).1 (YD hx);refine ZB _ ?_;by_cases e:idO y=idO x
  ·rw [gj.Y hy cQ.1 (zb0 (gj.ok y hy) (gj.ok x cQ.1) e)];exact hx
  exact OG hF hx hyF (zb4 (gj.ok y hy) (gj.ok x cQ.1) zj)
 have le_id:∀x y,x∈S'->y∈S'->CLt (stO y) (stO x)->idO y<=idO x:=fun x y hx hy h=>by
  have a:=mT (gj.ok x hx);have b:=mT (gj.ok y hy);unfold CLt stO at h;unfold idO;omega
 have mono:∀x,x∈S->x∈S++F.take k:=fun x hx=>Zm _ hx
 refine ⟨fun x hx=>gj.ok x (up x hx),fun x hx y hy=>gj.one x (up x hx) y (up y hy),fun x hx=> ?_,fun x hx y hy=>gj.L3 x (up x hx) y (up y hy),fun x hx=> ?_⟩
 ·rcases uV.1 hx with q | q
  ·exact (hS.gap x q).imp id (fun ⟨y,hy,e⟩=>⟨y,mono y hy,e⟩)
  rcases gj.gap x (up x hx) with e | ⟨y,hy,e1,e2⟩
  ·exact .inl e
  exact .inr ⟨y,ahead x q y hy (le_id x y (up x hx) hy (gj.L3 y hy x (up x hx) e1 e2)),e1,e2⟩
 rcases uV.1 hx with q | q
 ·exact (hS.R9 x q).mono mono
 obtain ⟨r1,r2,r3⟩:=gj.R9 x (up x hx);have hz:=mT (gj.ok x (up x hx));have hn:mY x<=idO x:=hz.2.2.2.2.2.2.2.2.1;have hoo:mX x<=idO x:=hz.2.2.2.2.2.2.2.2.2.2.1
 have kn:∀nd,nd<=idO x->m9 S' nd->m9 (S++F.take k) nd:=fun nd hn ⟨m,hm,q1,q2,q3⟩=>⟨m,ahead x q m hm zj,q1,q2,q3⟩
 have ln:∀nd id,id<=idO x->I6 S' nd id->I6 (S++F.take k) nd id:=fun nd id hn ⟨m,hm,q1,q2,q3⟩=>⟨m,ahead x q m hm zj,q1,q2,q3⟩
 exact ⟨r1.imp id (kn _ hn),fun e=>(r2 e).imp id (fun q=>q.imp id (kn _ hoo)),fun e=>ln _ _ hoo (r3 e)⟩
structure J5 (n i:Nat) (G:qX) (S D:Nat->List OpX) (off:Nat->Bool):Prop where
 one:∀x∈G,∀y∈G,byO x=byO y->mB x=mB y->x=y
 ok:∀x∈G,mv x=0
 J2:G.Nodup
 D4:G.length<=i
 time:∀x∈G,x.1<=(i:Int)
 I8:∀x∈G,∃r:Nat,r<n/\byO x=(r:Int)/\x∈D r
 sub:∀r,r<n->∀x∈S r,x∈G
 B6:∀r,r<n->∀x∈D r,x∈S r
 on:∀r,r<n->off r=false->∀x∈S r,x∈D r
 G6:∀r,r<n->D5 (S r)
 U8:∀r,r<n->D5 (D r)/\(D r).Nodup
section
variable {n i:Nat} {G:qX} {S D:Nat→List OpX} {off:Nat→Bool}
theorem J5.start(n)(off):J5 n 0 [] (fun _=>[]) (fun _=>[]) off:=
 ⟨fun x hx=>ya,fun x hx=>ya,YU,uL _,fun x hx=>ya,fun x hx=>ya,fun _ _ x hx=>ya,fun _ _ x hx=>ya,fun _ _ _ x hx=>ya,fun _ _=>Cu,fun _ _=>⟨Cu,YU⟩⟩
theorem J5.up(h:J5 n i G S D off){j}(aA:i<=j):J5 n j G S D off:=
 ⟨h.one,h.ok,h.J2,uO h.D4 aA,fun x hx=>by have:=h.time x hx;omega,h.I8,h.sub,h.B6,h.on,h.G6,h.U8⟩
theorem J5.acQ(h:J5 n i G S D off){r:Nat}{x}(hx:x∈G)(e:byO x=(r:Int)):x∈D r:=by
 obtain ⟨q,hq,e1,e2⟩:=h.I8 x hx
 grind
theorem J5.adB(h:J5 n i G S D off){r}(hr:r<n)(hn:(S r).Nodup):(S r).length<=i:=uO (oP hn (fun x hx=>h.sub r hr x hx)) h.D4
theorem J5.abl(h:J5 n i G S D off){r}(hr:r<n):(D r).length<=i:=uO (oP (h.U8 r hr).2 (fun x hx=>h.sub r hr x (h.B6 r hr x hx))) h.D4
theorem J5.aba(h:J5 n i G S D off){A C}(hA:∀x∈A,x∈G)(hC:∀x∈C,x∈G):Q8 A C:=fun x hx y hy=>h.one x (hA x hx) y (hC y hy)
theorem J5.ab7(h:J5 n i G S D off){off'}(ho:∀r,r<n->off' r=false->off r=false):J5 n i G S D off':=
 ⟨h.one,h.ok,h.J2,h.D4,h.time,h.I8,h.sub,h.B6,fun r hr e=>h.on r hr (ho r hr e),h.G6,h.U8⟩
theorem J5.congr(h:J5 n i G S D off){S'}(e:∀r,r<n->∀x,x∈S r↔x∈S' r):J5 n i G S' D off:=
 ⟨h.one,h.ok,h.J2,h.D4,h.time,h.I8,fun r hr x hx=>h.sub r hr x ((e r hr x).2 hx),fun r hr x hx=>(e r hr x).1 (h.B6 r hr x hx),fun r hr o x hx=>h.on r hr o x ((e r hr x).2 hx),fun r hr=>(h.G6 r hr).congr (e r hr),h.U8⟩
theorem J5.put(h:J5 n i G S D off){a:Nat}{S' D'}{o}(hS:∀x∈S',x∈G)(hD:∀x∈D',x∈S')(hk:∀x∈G,byO x=(a:Int)->x∈D')(ho:o=false->∀x∈S',x∈D')(hw:D5 S')(hd:D5 D')(hn:D'.Nodup):J5 n i G (lR S a S') (lR D a D') (lR off a o):=by
 refine ⟨h.one,h.ok,h.J2,h.D4,h.time,fun x hx=> ?_,fun r hr x hx=> ?_,fun r hr x hx=> ?_,fun r hr e x hx=> ?_,fun r hr=> ?_,fun r hr=> ?_⟩
 ·obtain ⟨q,hq,e1,e2⟩:=h.I8 x hx
  grind [lT,lP]
 ·by_cases e:r=a
  ·subst e;rw [lT] at hx;exact hS x hx
  rw [lP _ _ e] at hx;exact h.sub r hr x hx
 ·by_cases e:r=a
  ·grind [lT]
  rw [lP _ _ e] at hx |-;exact h.B6 r hr x hx
 ·by_cases q:r=a
  ·grind [lT]
  rw [lP _ _ q] at hx e |-;exact h.on r hr e x hx
 ·by_cases e:r=a
  ·subst e;rw [lT];exact hw
  rw [lP _ _ e];exact h.G6 r hr
 by_cases e:r=a
 ·subst e;rw [lT];exact ⟨hd,hn⟩
 rw [lP _ _ e];exact h.U8 r hr
theorem J5.acJ(h:J5 n i G S D off){a}(ha:a<n){x}{S'}(hon:off a=false)(hb:byO x=(a:Int))(ht:x.1<=(i:Int)+1)(hw:D5 (x::S a))(hnew:∀y∈S a,byO y=byO x->mB y<mB x)(hm:∀y,y∈S'↔y=x\/y∈S a):J5 n (i+1) (G++ [x]) (lR S a S') (lR D a (D a++ [x])) (lR off a false):=by
 have hxG:∀y∈G,byO y=byO x->mB y<mB x:=fun y hy e=>hnew y (h.B6 a ha y (h.acQ hy (e.trans hb))) e
 have gu:∀y∈G,y≠x:=fun y hy e=>zM
 have hD:∀y,y∈D a++ [x]↔y∈x::S a:=fun y=>by
  rw [uV,Zf,uX];constructor
  ·rintro (q | q)
   ·exact .inr (h.B6 a ha y q)
   exact .inl q
  rintro (q | q)
  ·exact .inr q
  exact .inl (h.on a ha hon y q)
 refine ⟨fun y hy z hz e1 e2=> ?_,fun y hy=> ?_,?_,?_,fun y hy=> ?_,fun y hy=> ?_,fun r hr y hy=> ?_,fun r hr y hy=> ?_,fun r hr e y hy=> ?_,fun r hr=> ?_,fun r hr=> ?_⟩
 ·rcases uV.1 hy with p | p<;>rcases uV.1 hz with q | q
  ·exact h.one y p z q e1 e2
  ·rw [Zf.1 q] at e1 e2;have:=hxG y p e1;omega
  ·rw [Zf.1 p] at e1 e2;have:=hxG z q e1.symm;omega
  simp_all
 ·rcases uV.1 hy with p | p
  ·exact h.ok y p
  rw [Zf.1 p];exact hw.ok x Zn
 ·rw [ZI];refine ⟨h.J2,zr,fun y hy z hz=> ?_⟩
  simp_all
 ·rw [uQ];have:=h.D4;simp;omega
 ·rcases uV.1 hy with p | p
  ·have:=h.time y p;omega
  simp_all
 ·rcases uV.1 hy with p | p
  ·obtain ⟨q,hq,e1,e2⟩:=h.I8 y p;refine ⟨q,hq,e1,?_⟩;by_cases e:q=a
   ·subst e;rw [lT];exact Zm _ e2
   rw [lP _ _ e];exact e2
  grind [lT]
 ·by_cases e:r=a
  ·subst e;rw [lT] at hy
   rcases (hm y).1 hy with q | q
   ·rw [q];simp
   exact Zm _ (h.sub r hr y q)
  rw [lP _ _ e] at hy;exact Zm _ (h.sub r hr y hy)
 ·by_cases e:r=a
  ·grind [lT]
  rw [lP _ _ e] at hy |-;exact h.B6 r hr y hy
 ·by_cases q:r=a
  ·grind [lT]
  rw [lP _ _ q] at hy e |-;exact h.on r hr e y hy
 ·by_cases e:r=a
  ·subst e;rw [lT];exact hw.congr (fun y=>zL)
  rw [lP _ _ e];exact h.G6 r hr
 by_cases e:r=a
 ·subst e;rw [lT];refine ⟨hw.congr (fun y=>(hD y).symm),?_⟩;rw [ZI];refine ⟨(h.U8 r hr).2,zr,fun y hy z hz=> ?_⟩;rw [Zf.1 hz];exact gu y (h.sub r hr y (h.B6 r hr y hy))
 rw [lP _ _ e];exact h.U8 r hr
theorem J5.aaX(h:J5 n i G S D off){a}(ha:a<n){l S' F:qX}{k}{o}(hl:∀x∈l,x∈G)(hm:∀x,x∈S'↔x∈S a\/x∈l)(hw:D5 S')(hF:Al F)(hFn:F.Nodup)(hFm:∀x,x∈F↔x∈S'/\x∉S a)(jc:off a=true->k=0)(hko:o=false->off a=false/\F.length<=k):J5 n i G (lR S a S') (lR D a (D a++F.take k)) (lR off a o):=by
 have hS:∀x∈S',x∈G:=fun x hx=>((hm x).1 hx).elim (h.sub a ha x) (hl x)
 refine h.put hS (fun x hx=> ?_) (fun x hx e=>Zm _ (h.acQ hx e)) (fun e x hx=> ?_) hw ?_ ?_
 ·rcases uV.1 hx with q | q
  ·exact (hm x).2 (.inl (h.B6 a ha x q))
  grind
 ·obtain ⟨e1,e2⟩:=hko e;rw [Zk e2];by_cases cQ:x∈S a
  ·exact Zm _ (h.on a ha e1 x cQ)
  simp_all
 ·cases ho:off a with
  | true=>rw [jc ho,List.take_zero,Yd];exact (h.U8 a ha).1
  | false=>
   refine (Lj (h.G6 a ha) hw (fun x hx=>(hm x).2 (.inl hx)) hF hFm k).congr (fun x=> ?_);rw [uV,uV];exact or_congr ⟨h.on a ha ho x,h.B6 a ha x⟩ Iff.rfl
 rw [ZI];refine ⟨(h.U8 a ha).2,hFn.sublist (List.take_sublist _ _),fun x hx y hy e=> ?_⟩;subst e;exact ((hFm x).1 (YD hy)).2 (h.B6 a ha x hx)
theorem J5.acA(h:J5 n i G S D off){a}(ha:a<n){S'}(hm:∀x,x∈S'↔x∈D a):J5 n i G (lR S a S') (lR D a (D a)) (lR off a false):=
 h.put (fun x hx=>h.sub a ha x (h.B6 a ha x ((hm x).1 hx))) (fun x hx=>(hm x).2 hx) (fun x hx e=>h.acQ hx e) (fun _ x hx=>(hm x).1 hx) ((h.U8 a ha).1.congr (fun x=>(hm x).symm)) (h.U8 a ha).1 (h.U8 a ha).2
end
end
section
open RowKit Lib Go.Sort Maps
open scoped Classical
theorem BG{l}(h:∀x∈l,mv x=0):UA l:=fun x hx=>by
 have q:=mT (h x hx);have l1:x.2.2.2.2.2.2.1.data.toList.length=x.2.2.2.2.2.2.1.size:=zr;have l2:x.2.2.2.2.2.2.2.data.toList.length=x.2.2.2.2.2.2.2.size:=zr;omega
def PI(B:Nat)(w:qW)(c:Nat->Nat)(br:Nat)(o9:Int)(R:Rws)(l:qX)(e:Ending)(w':qW):Prop:=∃(n:Nat) (c':Nat->Nat) (R':Rws),e=qT #[qN n,.nilIface]/\L7 w c w' c'/\B9 B w' c' br o9 R'/\(∀x,x∈lX R'↔x∈lX R\/x∈l)/\(lX R').length=(lX R).length+n
theorem Ty{R R'}{F}(hR:u9 R)(hR':u9 R')(hF:M2 (lX R) F)(hm:∀x,x∈lX R'↔x∈lX R++F):(lX R').length=(lX R).length+F.length:=by
 have n1:=hR'.num.J2
 have n2:(lX R++F).Nodup:=by
  exact kh1
 have a1:=oP n1 (fun x hx=>(hm x).1 hx);have a2:=oP n2 (fun x hx=>(hm x).2 hx);rw [uQ] at a1 a2;omega
theorem WY{B}{ad}(w)(c)(br)(o9)(R)(la)(lc)(T l)(h:B9 B w c br o9 R)(hE:S7 B ad w)(hin:F1 w la l)(hT:D5 T)(hc:Q8 (lX R) T)(hl:∀x,x∈l->x∈T)(iy:∀x,x∈T->x∈lX R\/x∈l)(hn:(lX R).length+l.length<=250):
  qC 116 #[qP br,.slice la l.length lc] w (PI B w c br o9 R l):=by
 obtain ⟨fresh,h1,h2,h3,h4⟩:=GV h.h hT hc hl iy zj;refine (TS w c br o9 R la lc l h hE.G3 hin (BG (fun x hx=>hT.ok x (hl x hx))) hn).mono ?_;rintro e w' ⟨a,c',hj,hA,hm⟩;rw [h1 a hj] at hm;obtain ⟨he,R',hR',hmem⟩:=hm;refine ⟨fresh.length,c',R',he,hA,hR',fun x=> ?_,Ty h.h hR'.h h2 hmem⟩;rw [hmem x,h3 x];constructor
 ·rintro (q | q)
  ·exact .inl q
  exact iy x q
 rintro (q | q)
 ·exact .inl q
 exact .inr (hl x q)
theorem Ks{B}{ad}(w)(c)(br)(i:Nat)(R)(la)(lc)(T)(x)(h:B9 B w c br (i:Int) R)(hE:S7 B ad w)(hi:i<4)(hin:F1 w la [x])(hx:U6 R i T x)(hT:∀y∈lX R,y.1<=T)(hn:(lX R).length<=240):
  qC 116 #[qP br,.slice la 1 lc] w fun e w'=>∃(c':Nat->Nat) (R':Rws),e=qT #[qI 1,.nilIface]/\L7 w c w' c'/\B9 B w' c' br (i:Int) R'/\(∀y,y∈lX R'↔y=x\/y∈lX R)/\(lX R').length=(lX R).length+1:=by
 have hw:=hx.G6 h.h hi hT
 have hxn:x∉lX R:=fun q=>by have:=hw.2 x q rfl;omega
 refine (WY w c br (i:Int) R la lc (x::lX R) [x] h hE hin hw.1 (Ld hx h.h hi hT) (fun y hy=>by simp at hy;rw [hy];exact Zn) (fun y hy=>by rcases uX.1 hy with q | q;exact .inr (by simp [q]);exact .inl q) zm).mono ?_;rintro e w' ⟨n,c',R',he,hA,hR',hm,hlen⟩
 have hm':∀y,y∈lX R'↔y=x\/y∈lX R:=fun y=>by rw [hm y];simp only [Zf];exact Or.comm
 have n1:n=1:=by
  have a1:=oP hR'.h.num.J2 (H:=x::lX R) (fun y hy=>by rcases (hm' y).1 hy with q | q;exact uX.2 (.inl q);exact uY _ q);have a2:=oP (l:=x::lX R) (H:=lX R') (List.nodup_cons.2 ⟨hxn,h.h.num.J2⟩) (fun y hy=>(hm' y).2 (uX.1 hy));rw [Za] at a1 a2;omega
 subst n1;exact ⟨c',R',he,hA,hR',hm',hlen⟩
end
section
open RowKit Lib
open scoped Classical
abbrev nO:=Nat×Nat×Bool×(Nat->Int)×Option Addr×Nat×List OpX
abbrev Hf(x:nO):List OpX:=x.2.2.2.2.2.2
def AZ(x:nO):Value:=.slice x.2.2.2.2.1 x.2.2.2.2.2.2.length x.2.2.2.2.2.1
def nX(x:nO):List Value:=[qN x.1,qN x.2.1,.bool x.2.2.1,qI (x.2.2.2.1 0),qI (x.2.2.2.1 1),qI (x.2.2.2.1 2),qI (x.2.2.2.1 3),AZ x]
theorem mj(x):(nX x).length=8:=rfl
theorem CM(x):∀v∈nX x,v.oneCell'=true:=by
 intro v hv;unfold nX AZ at hv;simp only [uX,ZP,or_false] at hv;exact kh2
def Ab(bp:Nat->Nat)(n:Nat):List Value:=(List.range n).map fun r=>qP (bp r)
theorem Ln(bp)(n):Ab bp (n+1)=Ab bp n++ [qP (bp n)]:=by unfold Ab;rw [Yq,ZL];rfl
theorem Bj(bp){n r}(h:r<n):(Ab bp n)[r]? =some (qP (bp r)):=by unfold Ab;simp_all
theorem IN{bp bp'}{n}(h:∀r,r<n->bp r=bp' r):Ab bp n=Ab bp' n:=by
 grind [Ab,Yv]
def t8(w:qW)(p b d:Nat):Prop:=w.heap[p]? =some (.cells #[qP b,qP d] 81 (0,0))
theorem t8.lt{w}{p b d}(h:t8 w p b d):p<w.heap.size:=(uK.1 h).1
theorem t8.c0{w}{p b d}(h:t8 w p b d):w.cell? (qB p)=some (qP b):=by unfold t8 at h;simp [World.cell?,h]
theorem t8.c1{w}{p b d}(h:t8 w p b d):w.cell? (qA p 1)=some (qP d):=by unfold t8 at h;simp [World.cell?,h]
theorem t8.fz{w}{p b d}(h:t8 w p b d)(o):w.frozen? (qA p o)=false:=by unfold t8 at h;simp [World.frozen?,h]
theorem t8.same{w w'}{p b d}(h:t8 w p b d)(e:w'.heap[p]? =w.heap[p]?):t8 w' p b d:=e.trans h
def G0(w:qW)(bm:Nat)(pv fv:Value):Prop:=w.heap[bm]? =some (.cells #[pv,fv] 56 (0,0))
theorem G0.lt{w}{bm}{pv fv}(h:G0 w bm pv fv):bm<w.heap.size:=(uK.1 h).1
theorem G0.c0{w}{bm}{pv fv}(h:G0 w bm pv fv):w.cell? (qB bm)=some pv:=by unfold G0 at h;simp [World.cell?,h]
theorem G0.c1{w}{bm}{pv fv}(h:G0 w bm pv fv):w.cell? (qA bm 1)=some fv:=by unfold G0 at h;simp [World.cell?,h]
theorem G0.fz{w}{bm}{pv fv}(h:G0 w bm pv fv)(o):w.frozen? (qA bm o)=false:=by unfold G0 at h;simp [World.frozen?,h]
theorem G0.aa1{w}{bm}{pv fv}(h:G0 w bm pv fv)(v):G0 (w.setCell (qB bm) v) bm v fv:=heap_setCell_same w bm 0 _ _ _ h
theorem G0.abB{w}{bm}{pv fv}(h:G0 w bm pv fv)(v):G0 (w.setCell (qA bm 1) v) bm pv v:=heap_setCell_same w bm 1 _ _ _ h
theorem t8.aa1{w}{p b d}(h:t8 w p b d)(b'):t8 (w.setCell (qB p) (qP b')) p b' d:=heap_setCell_same w p 0 _ _ _ h
structure P5 (w:qW) (ow:Nat->Nat) (n:Nat) (x:nO):Prop where
 R5:x.1<n
 to_:x.2.1<n
 ops:M1 w (AZ x) (Hf x)
 I8:∀g,(AZ x).ownBlock=some g->ow g=4
structure n9 (gd:Nat->Option Obj) (B:Nat) (w:qW) (ow:Nat->Nat) (n bm:Nat) (pv fv:Value) (bp br d:Nat->Nat) (dv:Nat->Value) (c:Nat->Nat->Nat) (K:qH) (st:qD) (N:qJ):Prop where
 W9:n<=4
 C9:G0 w bm pv fv
 om:ow bm=1
 K8:w.ownsRow B 57 1 pv n (Ab bp n)
 op:∀g,pv.ownBlock=some g->ow g=2
 L5:w.ownsRow B 149 8 fv N.length (mP nX N)
 of:∀g,fv.ownBlock=some g->ow g=3
 D9:∀x∈N,P5 w ow n x
 GA:∀r,r<n->t8 w (bp r) (br r) (d r)/\ow (bp r)=30+r
 GP:∀r,r<n->B9 B w (c r) (br r) (r:Int) (K r)/\∀k,c r k≠0->ow k=10+r
 B6:∀r,r<n->t6 w (d r) (dv r) (st r)/\∀k,DI (d r) (dv r) k->ow k=20+r
 low:∀k,ow k≠0->B<=k
 high:∀k,w.heap.size<=k->ow k=0
 l9:B<=w.heap.size
 guard:∀k o,gd k=some o->ow k=5/\w.heap[k]? =some o
def mU(ow:Nat->Nat)(w w':qW)(j:Nat):Nat->Nat:=fun k=>if k<w.heap.size then ow k else if k<w'.heap.size then j else 0
theorem ml{ow}{w w'}{j k}(h:k<w.heap.size):mU ow w w' j k=ow k:=if_pos h
theorem wK{ow}{w w'}{j k}(h:w.heap.size<=k)(h':k<w'.heap.size):mU ow w w' j k=j:=by simp_all [mU,if_neg,if_pos]
theorem np{w w'}{v}{xs}(h:M1 w v xs)(e:∀g,v.ownBlock=some g->w'.heap[g]? =w.heap[g]?):M1 w' v xs:=by
 rcases h with h | ⟨g,o,cp,rfl,h2⟩
 ·exact .inl h
 exact .inr ⟨g,o,cp,rfl,fun j u hj=>by rw [uS (a:=(qA g (o+j))) (e g rfl)];exact h2 j u hj⟩
theorem B9.F9{B}{w w'}{c}{br}{o9}{R}(h:B9 B w c br o9 R)(hs:w.heap.size<=w'.heap.size)(e:∀k,k<w.heap.size->c k≠0->w'.heap[k]? =w.heap[k]?):B9 B w' c br o9 R:=
 ⟨h.GP.kept (fun i hi=>⟨fun k hk q=>e k hk (by rw [q];exact hi),fun _ _=>rfl⟩),h.low,fun k hk=>h.high k (uO hs hk)⟩
structure zaw (gd:Nat->Option Obj) (j:Nat) (B:Nat) (w:qW) (ow:Nat->Nat) (n bm:Nat) (pv fv:Value) (bp br d:Nat->Nat) (dv:Nat->Value) (c:Nat->Nat->Nat) (K:qH) (st:qD) (N:qJ):Prop where
 W9:n<=4
 C9:j≠1->G0 w bm pv fv
 om:ow bm=1
 K8:j≠2->w.ownsRow B 57 1 pv n (Ab bp n)
 op:∀g,pv.ownBlock=some g->ow g=2
 L5:j≠3->w.ownsRow B 149 8 fv N.length (mP nX N)
 of:∀g,fv.ownBlock=some g->ow g=3
 D9:j≠4->∀x∈N,P5 w ow n x
 GA:∀r,r<n->(j≠30+r->t8 w (bp r) (br r) (d r))/\ow (bp r)=30+r
 GP:∀r,r<n->(j≠10+r->B9 B w (c r) (br r) (r:Int) (K r))/\∀k,c r k≠0->ow k=10+r
 B6:∀r,r<n->(j≠20+r->t6 w (d r) (dv r) (st r))/\∀k,DI (d r) (dv r) k->ow k=20+r
 low:∀k,ow k≠0->B<=k
 high:∀k,w.heap.size<=k->ow k=0
 l9:B<=w.heap.size
 guard:j≠5->∀k o,gd k=some o->ow k=5/\w.heap[k]? =some o
section
variable {gd:Nat→Option Obj} {B:Nat} {w:qW} {ow:Nat→Nat} {n bm:Nat} {pv fv:Value} {bp br d:Nat→Nat} {dv:Nat→Value} {c:Nat→Nat→Nat} {K:qH} {st:qD} {N:qJ}
theorem n9.H(h:n9 gd B w ow n bm pv fv bp br d dv c K st N){k}(hk:ow k≠0):k<w.heap.size:=by
 by_cases q:k<w.heap.size
 ·exact q
 exact absurd (h.high k zj) hk
theorem n9.but(h:n9 gd B w ow n bm pv fv bp br d dv c K st N){w'}{j}(hk:m7 (fun k=>ow k=j) w w'):zaw gd j B w' (mU ow w w' j) n bm pv fv bp br d dv c K st N:=by
 have hin:∀ {k i:Nat},ow k=i->i≠0->k<w.heap.size:=fun {k i} e hi=>h.H yJ
 have same:∀ {k i:Nat},ow k=i->i≠0->j≠i->w'.heap[k]? =w.heap[k]? :=fun {k i} e hi hj=>hk.block k (hin e hi) (fun q=>hj (by rw [<-q,e]))
 have y9:∀ {k i:Nat},ow k=i->i≠0->mU ow w w' j k=i:=fun {k i} e hi=>(ml (hin e hi)).trans e
 refine ⟨h.W9,fun hj=>(same h.om zj hj).trans h.C9,y9 h.om zj,fun hj=>mD h.K8 (fun g hg=>same (h.op g hg) zj hj),fun g hg=>y9 (h.op g hg) zj,fun hj=>mD h.L5 (fun g hg=>same (h.of g hg) zj hj),fun g hg=>y9 (h.of g hg) zj,fun hj x hx=> ?_,fun r hr=> ?_,fun r hr=> ?_,fun r hr=> ?_,fun k hq=> ?_,fun k hq=> ?_,uO h.l9 hk.size,fun hj k o e=>⟨y9 (h.guard k o e).1 zj,(same (h.guard k o e).1 zj hj).trans (h.guard k o e).2⟩⟩
 ·have hn:=h.D9 x hx;exact ⟨hn.R5,hn.to_,np hn.ops (fun g hg=>same (hn.I8 g hg) zj hj),fun g hg=>y9 (hn.I8 g hg) zj⟩
 ·obtain ⟨h1,h2⟩:=h.GA r hr;exact ⟨fun hj=>h1.same (same h2 zj hj),y9 h2 zj⟩
 ·obtain ⟨h1,h2⟩:=h.GP r hr;exact ⟨fun hj=>h1.F9 hk.size (fun k _ e=>same (h2 k e) zj hj),fun k e=>y9 (h2 k e) zj⟩
 ·obtain ⟨h1,h2⟩:=h.B6 r hr;exact ⟨fun hj=>h1.same (fun k e=>same (h2 k e) zj hj),fun k e=>y9 (h2 k e) zj⟩
 ·by_cases q:k<w.heap.size
  ·rw [ml q] at hq;exact h.low k hq
  have:=h.l9;omega
 have:=hk.size;unfold mU
 grind
theorem n9.Z(h:n9 gd B w ow n bm pv fv bp br d dv c K st N){w'}{S}(hk:m7 S w w')(hS:∀k,S k->ow k=0):n9 gd B w' ow n bm pv fv bp br d dv c K st N:=by
 have same:∀ {k i:Nat},ow k=i->i≠0->w'.heap[k]? =w.heap[k]? :=fun {k i} e hi=>hk.block k (h.H yJ) (fun q=>hi zL)
 exact ⟨h.W9,(same h.om zj).trans h.C9,h.om,mD h.K8 (fun g hg=>same (h.op g hg) zj),h.op,mD h.L5 (fun g hg=>same (h.of g hg) zj),h.of,fun x hx=>⟨(h.D9 x hx).R5,(h.D9 x hx).to_,np (h.D9 x hx).ops (fun g hg=>same ((h.D9 x hx).I8 g hg) zj),(h.D9 x hx).I8⟩,fun r hr=>⟨(h.GA r hr).1.same (same (h.GA r hr).2 zj),(h.GA r hr).2⟩,fun r hr=>⟨(h.GP r hr).1.F9 hk.size (fun k _ e=>same ((h.GP r hr).2 k e) zj),(h.GP r hr).2⟩,fun r hr=>⟨(h.B6 r hr).1.same (fun k e=>same ((h.B6 r hr).2 k e) zj),(h.B6 r hr).2⟩,h.low,fun k hq=>h.high k (uO hk.size hq),uO h.l9 hk.size,fun k o e=>⟨(h.guard k o e).1,(same (h.guard k o e).1 zj).trans (h.guard k o e).2⟩⟩
theorem n9.later(h:n9 gd B w ow n bm pv fv bp br d dv c K st N){w'}(hb:qL w w'):n9 gd B w' ow n bm pv fv bp br d dv c K st N:=h.Z (lW hb) (fun k e=>h.high k e)
theorem n9.abb(h:n9 gd B w ow n bm pv fv bp br d dv c K st N){a}(ha:a<n){w'}{c'}{R'}(hA:L7 w (c a) w' c')(hR:B9 B w' c' (br a) (a:Int) R'):n9 gd B w' (mU ow w w' (10+a)) n bm pv fv bp br d dv (lR c a c') (lR K a R') st N/\m7 (fun k=>ow k=10+a) w w':=by
 have hf:=h.W9;have hk:=hA.L0.mono (fun k _ e=>(h.GP a ha).2 k e);have hb:=h.but hk;refine ⟨⟨hf,hb.C9 zj,hb.om,hb.K8 zj,hb.op,hb.L5 zj,hb.of,hb.D9 zj,fun r hr=>⟨(hb.GA r hr).1 zj,(hb.GA r hr).2⟩,fun r hr=> ?_,fun r hr=>⟨(hb.B6 r hr).1 zj,(hb.B6 r hr).2⟩,hb.low,hb.high,hb.l9,hb.guard zj⟩,hk⟩;by_cases e:r=a
 ·subst e;rw [lT,lT];refine ⟨hR,fun k q=> ?_⟩;by_cases hk':k<w.heap.size
  ·rw [ml hk'];rw [hA.y9 k hk'] at q;exact (h.GP r ha).2 k q
  refine wK zj ?_;by_cases h2:k<w'.heap.size
  ·exact h2
  exact absurd (hR.high k zj) q
 rw [lP _ _ e,lP _ _ e];exact ⟨(hb.GP r hr).1 zj,(hb.GP r hr).2⟩
theorem n9.aaQ(h:n9 gd B w ow n bm pv fv bp br d dv c K st N){a}(ha:a<n){w'}{st'}(hW:D7 (d a) (dv a) w st' w'):∃v',n9 gd B w' (mU ow w w' (20+a)) n bm pv fv bp br d (lR dv a v') c K (lR st a st') N/\m7 (fun k=>ow k=20+a) w w':=by
 obtain ⟨v',h1,h2,h3⟩:=hW;have hf:=h.W9;have hk:=h2.mono (fun k _ e=>(h.B6 a ha).2 k e);have hb:=h.but hk;refine ⟨v',⟨hf,hb.C9 zj,hb.om,hb.K8 zj,hb.op,hb.L5 zj,hb.of,hb.D9 zj,fun r hr=>⟨(hb.GA r hr).1 zj,(hb.GA r hr).2⟩,fun r hr=>⟨(hb.GP r hr).1 zj,(hb.GP r hr).2⟩,fun r hr=> ?_,hb.low,hb.high,hb.l9,hb.guard zj⟩,hk⟩;by_cases e:r=a
 ·subst e;rw [lT,lT];refine ⟨h1,fun k q=> ?_⟩
  rcases q with q | q
  ·exact (hb.B6 r hr).2 k (.inl q)
  rcases h3 k q with p | p
  ·exact (hb.B6 r hr).2 k (.inr p)
  exact wK p (h1.row.lt q)
 rw [lP _ _ e,lP _ _ e];exact ⟨(hb.B6 r hr).1 zj,(hb.B6 r hr).2⟩
theorem n9.abK(h:n9 gd B w ow n bm pv fv bp br d dv c K st N){w1}{v}{N'}(gC:m7 (fun k=>some k=fv.ownBlock) w w1)(hrow:w1.ownsRow B 149 8 v N'.length (mP nX N'))(hv:∀g,v.ownBlock=some g->fv.ownBlock=some g\/w.heap.size<=g)(hN:∀x∈N',P5 w ow n x):n9 gd B (w1.setCell (qA bm 1) v) (mU ow w w1 3) n bm pv v bp br d dv c K st N'/\m7 (fun k=>ow k=3\/ow k=1) w (w1.setCell (qA bm 1) v):=by
 have hf:=h.W9;have hk:=gC.mono (fun k _ e=>h.of k (Eq.symm e));have hb:=h.but hk;have hs:=lZ bm [v] 1 w1;have hsz:(w1.setCell (qA bm 1) v).heap.size=w1.heap.size:=zr
 have hbm:∀ {k i:Nat},mU ow w w1 3 k=i->i≠1->i≠0->(w1.setCell (qA bm 1) v).heap[k]? =w1.heap[k]? :=fun {k i} e hi h0=>by
  have hkl:k<w1.heap.size:=by
   by_cases q:k<w1.heap.size
   ·exact q
   exact absurd (hb.high k zj) (by rw [e];exact h0)
  exact hs.block k hkl (fun q=>hi (by rw [<-e,q];exact hb.om))
 have fY:∀g,v.ownBlock=some g->mU ow w w1 3 g=3:=fun g hg=>by
  rcases hv g hg with q | q
  ·exact hb.of g q
  exact wK q (hrow.lt g hg).2
 refine ⟨⟨hf,(hb.C9 zj).abB v,hb.om,mD (hb.K8 zj) (fun g hg=>hbm (hb.op g hg) zj zj),hb.op,mD hrow (fun g hg=>hbm (fY g hg) zj zj),fY,fun x hx=> ?_,fun r hr=> ?_,fun r hr=> ?_,fun r hr=> ?_,hb.low,fun k hk=>hb.high k zj,by rw [hsz];exact hb.l9,fun k o e=>⟨(hb.guard zj k o e).1,(hbm (hb.guard zj k o e).1 zj zj).trans (hb.guard zj k o e).2⟩⟩,?_⟩
 ·have hn:=hN x hx
  have h4:∀g,(AZ x).ownBlock=some g->mU ow w w1 3 g=4:=fun g hg=>(ml (h.H (by rw [hn.I8 g hg];omega))).trans (hn.I8 g hg)
  exact ⟨hn.R5,hn.to_,np hn.ops (fun g hg=>(hbm (h4 g hg) zj zj).trans (hk.block g (h.H (by rw [hn.I8 g hg];omega)) (fun q=>by have q':=q;rw [hn.I8 g hg] at q';omega))),h4⟩
 ·obtain ⟨h1,h2⟩:=hb.GA r hr;exact ⟨(h1 zj).same (hbm h2 zj zj),h2⟩
 ·obtain ⟨h1,h2⟩:=hb.GP r hr;exact ⟨(h1 zj).F9 zj (fun k _ e=>hbm (h2 k e) zj zj),h2⟩
 ·obtain ⟨h1,h2⟩:=hb.B6 r hr;exact ⟨(h1 zj).same (fun k e=>hbm (h2 k e) zj zj),h2⟩
 exact (hk.mono (fun k _ e=>.inl e)).then hs (fun k _ e=>.inr (by have e':=e;rw [e'];exact h.om))
theorem n9.adi(h:n9 gd B w ow n bm pv fv bp br d dv c K st N){w'}(hb:qL w w'):n9 gd B w' (mU ow w w' 4) n bm pv fv bp br d dv c K st N/\∀k,w.heap.size<=k->k<w'.heap.size->mU ow w w' 4 k=4:=by
 have h':=h.later hb
 have y9:∀ {k i:Nat},ow k=i->i≠0->mU ow w w' 4 k=i:=fun {k i} e hi=>(ml (h.H yJ)).trans e
 refine ⟨⟨h.W9,h'.C9,y9 h.om zj,h'.K8,fun g hg=>y9 (h.op g hg) zj,h'.L5,fun g hg=>y9 (h.of g hg) zj,fun x hx=>⟨(h'.D9 x hx).R5,(h'.D9 x hx).to_,(h'.D9 x hx).ops,fun g hg=>y9 ((h.D9 x hx).I8 g hg) zj⟩,fun r hr=>⟨(h'.GA r hr).1,y9 (h.GA r hr).2 zj⟩,fun r hr=>⟨(h'.GP r hr).1,fun k e=>y9 ((h.GP r hr).2 k e) zj⟩,fun r hr=>⟨(h'.B6 r hr).1,fun k e=>y9 ((h.B6 r hr).2 k e) zj⟩,fun k q=> ?_,fun k q=> ?_,h'.l9,fun k o e=>⟨y9 (h.guard k o e).1 zj,(h'.guard k o e).2⟩⟩,fun k h1 h2=>wK h1 h2⟩
 ·by_cases e:k<w.heap.size
  ·rw [ml e] at q;exact h.low k q
  have:=h.l9;omega
 have:=hb.size;unfold mU
 grind
theorem n9.adL(h:n9 gd B w ow n bm pv fv bp br d dv c K st N){a}(ha:a<n){w1}{c'}{b}{R'}(hb:qL w w1)(hR:B9 w.heap.size w1 c' b (a:Int) R'):n9 gd B (w1.setCell (qB (bp a)) (qP b)) (mU ow w w1 (10+a)) n bm pv fv bp (lR br a b) d dv (lR c a c') (lR K a R') st N/\m7 (fun k=>ow k=30+a) w (w1.setCell (qB (bp a)) (qP b)):=by
 have hf:=h.W9;have h':=h.later hb
 have y9:∀ {k i:Nat},ow k=i->i≠0->mU ow w w1 (10+a) k=i:=fun {k i} e hi=>(ml (h.H yJ)).trans e
 obtain ⟨W,hW⟩:=za (w1.setCell (qB (bp a)) (qP b))
 have hs:m7 (fun k=>k=bp a) w1 W:=by rw [hW];exact lZ (bp a) [qP b] 0 w1
 have hsz:W.heap.size=w1.heap.size:=by rw [hW];simp
 have hbp:=(h.GA a ha).2
 have same:∀ {k i:Nat},ow k=i->i≠0->i≠30+a->W.heap[k]? =w1.heap[k]? :=fun {k i} e h0 hi=>hs.block k (uT (h.H (by rw [e];exact h0)) hb.size) (fun q=>hi zL)
 rw [<-hW];refine ⟨⟨hf,(same h.om zj zj).trans h'.C9,y9 h.om zj,mD h'.K8 (fun g hg=>same (h.op g hg) zj zj),fun g hg=>y9 (h.op g hg) zj,mD h'.L5 (fun g hg=>same (h.of g hg) zj zj),fun g hg=>y9 (h.of g hg) zj,fun x hx=> ?_,fun r hr=> ?_,fun r hr=> ?_,fun r hr=> ?_,fun k q=> ?_,fun k q=> ?_,by rw [hsz];exact h'.l9,fun k o e=>⟨y9 (h.guard k o e).1 zj,(same (h.guard k o e).1 zj zj).trans (h'.guard k o e).2⟩⟩,?_⟩
 ·have hn:=h'.D9 x hx;exact ⟨hn.R5,hn.to_,np hn.ops (fun g hg=>same (hn.I8 g hg) zj zj),fun g hg=>y9 (hn.I8 g hg) zj⟩
 ·obtain ⟨h1,h2⟩:=h'.GA r hr;by_cases e:r=a
  ·subst e;rw [lT];exact ⟨by rw [hW];exact h1.aa1 b,y9 h2 zj⟩
  rw [lP _ _ e];exact ⟨h1.same (same h2 zj zj),y9 h2 zj⟩
 ·by_cases e:r=a
  ·subst e;rw [lT,lT,lT];refine ⟨(hR.abY h.l9).F9 zj (fun k hk q=> ?_),fun k q=> ?_⟩
   ·refine hs.block k hk (fun p=> ?_);have p':=p;have:=hR.low k q;have:=h.H (k:=bp r) (by rw [hbp];omega);omega
   refine wK (hR.low k q) ?_;by_cases h2:k<w1.heap.size
   ·exact h2
   exact absurd (hR.high k zj) q
  rw [lP _ _ e,lP _ _ e,lP _ _ e];obtain ⟨h1,h2⟩:=h'.GP r hr;exact ⟨h1.F9 zj (fun k _ q=>same (h2 k q) zj zj),fun k q=>y9 (h2 k q) zj⟩
 ·obtain ⟨h1,h2⟩:=h'.B6 r hr;exact ⟨h1.same (fun k q=>same (h2 k q) zj zj),fun k q=>y9 (h2 k q) zj⟩
 ·by_cases e:k<w.heap.size
  ·rw [ml e] at q;exact h.low k q
  have:=h.l9;omega
 ·have:=hb.size;unfold mU
  grind
 exact ((lW hb).mono (fun k hk q=>absurd hk zj)).then hs (fun k _ e=>zL)
theorem n9.m8(h:n9 gd B w ow n bm pv fv bp br d dv c K st N){w'}{S}(hk:m7 S w w')(hS:∀k,S k->ow k≠0):Below B w w':=hk.m8 h.l9 (fun k e=>h.low k (hS k e))
theorem n9.adE(h:n9 gd B w ow n bm pv fv bp br d dv c K st N){x}(hx:P5 w ow n x){w' w2}{S}(hk:m7 S w w')(hS:∀k,S k->ow k≠4)(j):P5 w' (mU ow w w2 j) n x:=by
 have hl:∀g,(AZ x).ownBlock=some g->g<w.heap.size:=fun g hg=>h.H (by rw [hx.I8 g hg];omega)
 exact ⟨hx.R5,hx.to_,np hx.ops (fun g hg=>hk.block g (hl g hg) (fun q=>hS g q (hx.I8 g hg))),fun g hg=>(ml (hl g hg)).trans (hx.I8 g hg)⟩
theorem P5.later{x}(hx:P5 w ow n x){w'}(hb:qL w w'):P5 w' ow n x:=⟨hx.R5,hx.to_,hx.ops.later hb,hx.I8⟩
end
def q8(gd:Nat->Option Obj)(B n bm:Nat)(K:qH)(st:qD)(N:qJ)(w:qW):Prop:=∃ow pv fv bp br d dv c,n9 gd B w ow n bm pv fv bp br d dv c K st N
theorem q8.held{gd}{B n bm}{K}{st}{N}{w}(h:q8 gd B n bm K st N w){q}{o}(hq:gd q=some o):w.heap[q]? =some o:=by
 obtain ⟨ow,pv,fv,bp,br,d,dv,c,hm⟩:=h;exact (hm.guard q o hq).2
theorem q8.later{gd}{B n bm}{K}{st}{N}{w w'}(h:q8 gd B n bm K st N w)(hb:qL w w'):q8 gd B n bm K st N w':=by
 obtain ⟨ow,pv,fv,bp,br,d,dv,c,hm⟩:=h;exact ⟨_,_,_,_,_,_,_,_,hm.later hb⟩
theorem Cd(K)(a)(R'):(fun r=>lX (lR K a R' r))=lR (fun r=>lX (K r)) a (lX R'):=by
 funext r;unfold lR;split<;>rfl
theorem wF(st)(a)(s:DSt):(fun r=>(lR st a s r).2.1)=lR (fun r=>(st r).2.1) a s.2.1:=by
 funext r;unfold lR;split<;>rfl
theorem sG{α}(f:Nat->α)(a):lR f a (f a)=f:=by
 funext r
 grind [lR]
structure r9 (n i:Nat) (G:qX) (K:qH) (D:Nat->List OpX) (st:qD) (N:qJ):Prop where
 G5:J5 n i G (fun r=>lX (K r)) D (fun r=>(st r).2.1)
 B6:∀r,r<n->G8 (st r) (D r)
 D9:∀x∈N,(∀y∈Hf x,y∈G)/\(Hf x).length<=i
 GC:∀r,r<n->u9 (K r)
section
variable {n i:Nat} {G:qX} {K:qH} {D:Nat→List OpX} {st:qD} {N:qJ}
theorem r9.up(h:r9 n i G K D st N){j}(aA:i<=j):r9 n j G K D st N:=⟨h.G5.up aA,h.B6,fun x hx=>⟨(h.D9 x hx).1,uO (h.D9 x hx).2 aA⟩,h.GC⟩
theorem r9.L5(h:r9 n i G K D st N){N'}(hN:∀x∈N',x∈N\/((∀y∈Hf x,y∈G)/\(Hf x).length<=i)):r9 n i G K D st N':=⟨h.G5,h.B6,fun x hx=>(hN x hx).elim (h.D9 x) id,h.GC⟩
theorem r9.D4(h:r9 n i G K D st N){r}(hr:r<n):(lX (K r)).length<=i:=h.G5.adB hr (h.GC r hr).num.J2
theorem r9.time(h:r9 n i G K D st N){r}(hr:r<n){T}(hT:oE (lX (K r)) T):T<=(i:Int):=by
 rcases hT.2.1 with q | ⟨x,hx,q⟩
 ·omega
 have:=h.G5.time x (h.G5.sub r hr x hx);omega
theorem r9.abl(h:r9 n i G K D st N){r}(hr:r<n):(D r).length<=i:=h.G5.abl hr
theorem r9.ado(h:r9 n i G K D st N){r}(hr:r<n)(hi:i<=200):(st r).1.length<=65536:=by
 have h1:=(h.B6 r hr).D4;have h2:=h.abl hr;omega
theorem r9.ab7(h:r9 n i G K D st N){a}{s}(hs:G8 s (D a))(ho:s.2.1=false->(st a).2.1=false):r9 n i G K D (lR st a s) N:=by
 refine ⟨?_,fun r hr=> ?_,h.D9,h.GC⟩
 ·rw [wF];refine h.G5.ab7 (fun r hr e=> ?_)
  grind [lT,lP]
 by_cases q:r=a
 ·subst q;rw [lT];exact hs
 rw [lP _ _ q];exact h.B6 r hr
theorem r9.cut(h:r9 n i G K D st N){a}(ha:a<n)(m):r9 n i G K D (lR st a (BZ (st a) m)) N:=by
 have:=(h.B6 a ha).cut m;exact h.ab7 this.1 (fun e=>zL)
theorem r9.acJ(h:r9 n i G K D st N){a}(ha:a<n){x}{T}{R'}{s}(ha4:a<4)(hT:oE (lX (K a)) T)(hx:U6 (K a) a T x)(hon:(st a).2.1=false)(hs:G8 s (D a++ [x]))(hso:s.2.1=false)(hR:u9 R')(hm:∀y,y∈lX R'↔y=x\/y∈lX (K a)):r9 n (i+1) (G++ [x]) (lR K a R') (lR D a (D a++ [x])) (lR st a s) N:=by
 have hw:=hx.G6 (h.GC a ha) ha4 hT.1;refine ⟨?_,fun r hr=> ?_,fun y hy=>⟨fun z hz=>Zm _ ((h.D9 y hy).1 z hz),uO (h.D9 y hy).2 zj⟩,fun r hr=> ?_⟩
 ·rw [Cd,wF,hso];exact h.G5.acJ ha hon hx.o9 (by have:=hx.time;have:=h.time ha hT;omega) hw.1 hw.2 hm
 ·by_cases q:r=a
  ·subst q;rw [lT,lT];exact hs
  rw [lP _ _ q,lP _ _ q];exact h.B6 r hr
 by_cases q:r=a
 ·subst q;rw [lT];exact hR
 rw [lP _ _ q];exact h.GC r hr
theorem r9.aaX(h:r9 n i G K D st N){a}(ha:a<n){l F:qX}{R'}{k}{s}(hl:∀x∈l,x∈G)(hm:∀x,x∈lX R'↔x∈lX (K a)\/x∈l)(hR:u9 R')(hF:Al F)(hFn:F.Nodup)(hFm:∀x,x∈F↔x∈lX R'/\x∉lX (K a))(jc:(st a).2.1=true->k=0)(hko:s.2.1=false->(st a).2.1=false/\F.length<=k)(hs:G8 s (D a++F.take k)):r9 n i G (lR K a R') (lR D a (D a++F.take k)) (lR st a s) N:=by
 refine ⟨?_,fun r hr=> ?_,h.D9,fun r hr=> ?_⟩
 ·rw [Cd,wF];exact h.G5.aaX ha hl hm hR.G6 hF hFn hFm jc hko
 ·by_cases q:r=a
  ·subst q;rw [lT,lT];exact hs
  rw [lP _ _ q,lP _ _ q];exact h.B6 r hr
 by_cases q:r=a
 ·subst q;rw [lT];exact hR
 rw [lP _ _ q];exact h.GC r hr
theorem r9.acA(h:r9 n i G K D st N){a}(ha:a<n){R'}{s}(hm:∀x,x∈lX R'↔x∈D a)(hR:u9 R')(hs:G8 s (D a))(ho:s.2.1=false):r9 n i G (lR K a R') D (lR st a s) N:=by
 refine ⟨?_,fun r hr=> ?_,h.D9,fun r hr=> ?_⟩
 ·rw [Cd,wF,ho];have:=h.G5.acA ha hm;rwa [sG] at this
 ·by_cases q:r=a
  ·subst q;rw [lT];exact hs
  rw [lP _ _ q];exact h.B6 r hr
 by_cases q:r=a
 ·subst q;rw [lT];exact hR
 rw [lP _ _ q];exact h.GC r hr
end
def Xg(G S l:qX):Prop:=∃T:List OpX,D5 T/\(∀x∈T,x∈G)/\(∀x∈l,x∈T)/\∀x∈T,x∈S\/x∈l
def oV(R:Rws):Nat->Int:=fun i=>((R i).length:Int)
theorem Rj{R}(h:u9 R){x}(hx:x∈lX R):rF (oV R) x=true:=by
 obtain ⟨i,hi,hb,ji⟩:=Cm (h.G6.ok x hx);have:=Vd h.num hi hx hb
 grind [rF,oV,decide_eq_true]
theorem Uo{R}(h:u9 R){x}(he:mv x=0)(hc:∀y∈lX R,byO y=byO x->mB y=mB x->y=x)(hx:rF (oV R) x=true):x∈lX R:=by
 obtain ⟨i,hi,hb,ji⟩:=Cm he;have hp:=Ez he;unfold rF oV at hx;have e:x.2.1.toNat=i:=ji;rw [e] at hx;have bD:mB x<=((R i).length:Int):=of_decide_eq_true hx;have hj:(mB x - 1).toNat<(R i).length:=zj;have hm:=List.getElem_mem hj;have hg:=h.num i hi _ _ (uJ hj);have:=hc _ (mem_allR.2 ⟨i,hi,hm⟩) (hg.1.trans hb.symm) (by have:=hg.2.1;omega);rw [<-this];exact mem_allR.2 ⟨i,hi,hm⟩
theorem EZ{R R'}(h:u9 R)(h':u9 R')(hc:Q8 (lX R) (lX R')){ys}(hst:oI (lX R') ys):Al (ys.filter (fun x=> !rF (oV R) x))/\(ys.filter (fun x=> !rF (oV R) x)).Nodup/\∀x,x∈ys.filter (fun x=> !rF (oV R) x)↔x∈lX R'/\x∉lX R:=by
 obtain ⟨hp,hb⟩:=rY hst;refine ⟨hb.sublist List.filter_sublist,((hp.nodup_iff).2 h'.num.J2).sublist List.filter_sublist,fun x=> ?_⟩;rw [Ye,hp.mem_iff];constructor
 ·grind [Rj]
 rintro ⟨h1,h2⟩;refine ⟨h1,?_⟩
 cases e:rF (oV R) x with
 | false=>rfl
 | true=>exact absurd (Uo h (h'.G6.ok x h1) (fun y hy=>hc y hy x h1) e) h2
end
section
open RowKit Lib Go.Sort Maps
open scoped Classical
def x0:OpX:=(1,2,1,109,6,0,⟨#[97]⟩,⟨#[]⟩)
theorem wI{S}(h:∀x∈S,mv x=0){nd}(k:m9 S nd):2<=nd:=by
 obtain ⟨x,hx,k1,k2,k3⟩:=k
 grind [rM]
theorem OE(x):mv x<=5:=by
 grind [mv,opE,wd,nw,DG,EC,FV]
theorem KK{n}{L}{id}(h:atL n L=(id,true)):id∈L.map (·.1):=by
 unfold atL at h;split at h
 ·split at h
  ·rename_i l hl
   cases h
   exact Zj.2 ⟨l,(Ye.1 (uP hl)).1,rfl⟩
  cases h
 cases h
theorem wO{R}{i}{T}{kd}{nd o}{s v}(he:mv (nQ T i (R i).length kd nd o s v)=0)(hr:L8 (nQ T i (R i).length kd nd o s v::lX R) (nQ T i (R i).length kd nd o s v)):U6 R i T (nQ T i (R i).length kd nd o s v):=⟨he,rfl,rfl,rfl,hr⟩
theorem sP{T}{i m kd}{nd o}{s v}(h:nd≠0):mY (nQ T i m kd nd o s v)=nd:=if_neg h
section
variable {B:Nat} {ad:qF} (w:qW) (c:Nat→Nat) (br:Nat) (i:Nat) (R:Rws)
end
def TM(ad:qF)(w:qW)(R:Rws)(i:Nat)(P:OpX->Nat->Prop)(e:Ending)(w':qW):Prop:=∃(y:OpX) (cd:Nat),e=qT #[mJ y,eV ad cd]/\Aside (qL w w'/\cd<=12/\((cd≠0/\y=lQ)\/(cd=0/\∃T,oE (lX R) T/\U6 R i T y)))/\Aside (P y cd)
def aad(ad:qF)(w:qW)(Q:OpX->Nat->Prop)(e:Ending)(w':qW):Prop:=∃(y:OpX) (cd:Nat),e=qT #[mJ y,eV ad cd]/\Aside (qL w w'/\Q y cd)
def abw(ok:Bool)(cyc:Prop)(x:OpX)(a:OpX×Nat):Prop:=(ok=false/\a=(lQ,6))\/(ok=true/\od x≠0/\a=(lQ,od x))\/(ok=true/\od x=0/\cyc/\a=(lQ,10))\/(ok=true/\od x=0/\¬cyc/\a=(x,0))
theorem abw.one{ok}{cyc}{x}{a a'}(h:abw ok cyc x a)(h':abw ok cyc x a'):a=a':=by
 rcases h with ⟨h1,rfl⟩ | ⟨h1,h2,rfl⟩ | ⟨h1,h2,h3,rfl⟩ | ⟨h1,h2,h3,rfl⟩<;>rcases h' with ⟨k1,rfl⟩ | ⟨k1,k2,rfl⟩ | ⟨k1,k2,k3,rfl⟩ | ⟨k1,k2,k3,rfl⟩
 all_goals simp_all
def chO(v:qY):UInt8:=v.data.toList.headD 0
def Q7(A:qX)(nd n:Int)(a:Int×Bool):Prop:=(¬m9 A nd->a=(0,false))/\(m9 A nd->∃L,u7 A nd L/\a=atL n L)
def abp(A:qX)(T:Int)(i n:Nat)(x:OpX)(a:OpX×Nat):Prop:=
 (kdO x=109/\mY x=0/\a=BM (Qc A (mX x)) (nQ T i n 109 0 (mX x) x.2.2.2.2.2.2.1 ⟨#[]⟩))\/
 (kdO x=109/\mY x≠0/\∃ms,ms.Perm (pz A)/\mn ms/\abw (sZ A (mY x) &&Qc A (mX x)) (mX x=mY x\/Ins (lM ms) (mX x) (mY x)) (nQ T i n 109 (mY x) (mX x) x.2.2.2.2.2.2.1 ⟨#[]⟩) a)\/
 (kdO x=105/\∃b:Int×Bool,N6 A (mY x) (mX x) b/\a=BM b.2 (nQ T i n 105 (mY x) b.1 ⟨#[]⟩ ⟨#[chO x.2.2.2.2.2.2.2]⟩))\/
 (kdO x=100/\∃b:Int×Bool,Q7 A (mY x) (mX x) b/\a=BM b.2 (nQ T i n 100 (mY x) b.1 ⟨#[]⟩ ⟨#[]⟩))\/
 (kdO x≠109/\kdO x≠105/\kdO x≠100/\a=BM (sZ A (mY x)) (nQ T i n 115 (mY x) 0 x.2.2.2.2.2.2.1 x.2.2.2.2.2.2.2))
theorem N6.G4{A S}{nd n}{a}(w:N6 A nd n a)(h:A.Perm S):N6 S nd n a:=by
 have hk:=tE h nd
 rcases w with ⟨q1,q2,q3⟩ | ⟨q1,q2,q3⟩
 ·exact .inl ⟨q1,q2,q3.trans hk⟩
 refine .inr ⟨q1,fun k=>q2 (fun q=>k (hk.1 q)),fun k=> ?_⟩;obtain ⟨L,hL,e⟩:=q3 (hk.2 k);exact ⟨L,hL.G4 h,e⟩
theorem Q7.G4{A S}{nd n}{a}(w:Q7 A nd n a)(h:A.Perm S):Q7 S nd n a:=by
 have hk:=tE h nd;refine ⟨fun k=>w.1 (fun q=>k (hk.1 q)),fun k=> ?_⟩;obtain ⟨L,hL,e⟩:=w.2 (hk.2 k);exact ⟨L,hL.G4 h,e⟩
theorem N6.one{A}{nd n}{a b}(h:N6 A nd n a)(k:N6 A nd n b):a=b:=by
 rcases h with ⟨q1,q2,q3⟩ | ⟨q1,q2,q3⟩<;>rcases k with ⟨r1,r2,r3⟩ | ⟨r1,r2,r3⟩
 ·grind
 ·exact absurd q1 r1
 ·exact absurd r1 q1
 by_cases hk:m9 A nd
 ·obtain ⟨L,hL,e⟩:=q3 hk;obtain ⟨M,hM,e'⟩:=r3 hk;rw [e,e',hL.q hM]
 rw [q2 hk,r2 hk]
theorem Q7.one{A}{nd n}{a b}(h:Q7 A nd n a)(k:Q7 A nd n b):a=b:=by
 by_cases hk:m9 A nd
 ·obtain ⟨L,hL,e⟩:=h.2 hk;obtain ⟨M,hM,e'⟩:=k.2 hk;rw [e,e',hL.q hM]
 rw [h.1 hk,k.1 hk]
theorem JL{ms ms'}(h:mn ms)(h':mn ms')(e:ms.Perm ms'):ms=ms':=by
 grind [mn,List.Perm.eq_of_pairwise,wP,Dj]
theorem abp.one{A}{T}{i n}{x}{a a'}(h:abp A T i n x a)(k:abp A T i n x a'):a=a':=by
 rcases h with ⟨q1,q2,q3⟩ | ⟨q1,q2,ms,q3,q4,q5⟩ | ⟨q1,b,q2,q3⟩ | ⟨q1,b,q2,q3⟩ | ⟨q1,q2,q3,q4⟩<;>rcases k with ⟨r1,r2,r3⟩ | ⟨r1,r2,ns,r3,r4,r5⟩ | ⟨r1,c,r2,r3⟩ | ⟨r1,c,r2,r3⟩ | ⟨r1,r2,r3,r4⟩
 all_goals first
  | exact q3.trans r3.symm
  | exact absurd q2 r2
  | exact absurd r2 q2
  | (have e:=JL q4 r4 (q3.trans r3.symm);subst e;exact q5.one r5)
  | (have e:=q2.one r2;simp_all)
  | exact q4.trans r4.symm
  | exact absurd q1 r1
  | exact absurd r1 q1
  | (exfalso;omega)
theorem BF{ad}{w w'}{x}{ok}{okB}{e}(h:Be ad w ok x e w')(hb:okB=true↔ok):aad ad w (fun y cd=>(y,cd)=BM okB x) e w':=by
 rcases h with ⟨h1,h2,h3⟩ | ⟨h1,h2,h3⟩
 ·have e1:=hb.2 h1;subst e1;refine ⟨_,_,h2,h3,?_⟩;unfold BM
  grind
 have e1:okB=false:=by
  cases okB with
  | false=>rfl
  | true=>simp_all
 subst e1;exact ⟨_,_,h2,h3,rfl⟩
theorem aad.imp{ad}{w w'}{P Q}{e}(h:aad ad w P e w')(k:∀y cd,P y cd->Q y cd):aad ad w Q e w':=by
 obtain ⟨y,cd,e1,e2⟩:=h;exact ⟨y,cd,e1,e2.o.1,k y cd e2.o.2⟩
theorem Rc{v}(h:v.size=0):chO v=0:=by
 simp_all [chO]
theorem VV(v)(h:v.size≠0):∀w:World,(Instr.index 9 (.string v) (qI 0)).run Tryz.prog w= .ok (.int .u8 ((chO v).toNat:Int)) w:=by
 intro w;have hv:0<v.size:=zj;have hv':(0:Int)<(v.size:Int):=zj
 have e:chO v=v[0]:=by
  unfold chO;have h2:0<v.data.size:=hv
  have h3:v.data.toList[0]? =some v[0]:=by
   rw [YZ,Yf h2];rfl
  cases hh:v.data.toList with
  | nil=>simp_all
  | cons a t=>simp_all
 rw [e];go_simp
section
variable {B:Nat} {ad:qF} (w:qW) (c:Nat→Nat) (br:Nat) (i:Nat) (R:Rws) (T:Int)
theorem zbe(into)(name)(h:B9 B w c br (i:Int) R)(hE:S7 B ad w)(hi:i<4)(hT:oE (lX R) T)(hm:T<=1073741824)(hn:(lX R).length<=250)(aI:name.size<=1000000)(h2: -9223372036854775808<=into)(h3:into<=9223372036854775807):
  qC 207 #[qP br,qI into,.string name] w (aad ad w (fun y cd=>(y,cd)=BM (Qc (lX R) into) (nQ T i (R i).length 109 0 into name ⟨#[]⟩))):=by
 obtain ⟨T',kv,bt,bx,bc,A,hm',hp,ht⟩:=h.GP.time;obtain rfl:T'=T:=oA ht hT;obtain ⟨ao,cap,hM⟩:=hm'.aa0
 exact (UY w c br T' i ao cap bt bx bc R into name hM.cell hM.GC h.h hE.G3 hi ht.2.2 hm hn aI h2 h3).mono fun e w' q=>BF q plcB_iff
theorem zbI(nd)(name value)(h:B9 B w c br (i:Int) R)(hE:S7 B ad w)(hi:i<4)(hT:oE (lX R) T)(hm:T<=1073741824)(hn:(lX R).length<=250)(aI:name.size<=1000000)(aJ:value.size<=1000000)(h2: -9223372036854775808<=nd)(h3:nd<=9223372036854775807):
  qC 212 #[qP br,qI nd,.string name,.string value] w (aad ad w (fun y cd=>(y,cd)=BM (sZ (lX R) nd) (nQ T i (R i).length 115 nd 0 name value))):=by
 obtain ⟨T',kv,bt,bx,bc,A,hm',hp,ht⟩:=h.GP.time;obtain rfl:T'=T:=oA ht hT;obtain ⟨ao,cap,hM⟩:=hm'.aa0
 exact (St w c br T' i ao cap bt bx bc R nd name value hM.cell hM.GC h.h hE.G3 hi ht.2.2 hm hn aI aJ h2 h3).mono fun e w' q=>BF q knownB_iff
theorem WA(nd n)(h:B9 B w c br (i:Int) R)(hE:S7 B ad w)(hi:i<4)(hT:oE (lX R) T)(hm:T<=1073741824)(hn:(lX R).length<=250)(h2: -9223372036854775808<=nd)(h3:nd<=9223372036854775807)(h4: -9223372036854775808<=n)(h5:n<=9223372036854775807):
  qC 211 #[qP br,qI nd,qI n] w (aad ad w (fun y cd=>∃b:Int×Bool,Q7 (lX R) nd n b/\(y,cd)=BM b.2 (nQ T i (R i).length 100 nd b.1 ⟨#[]⟩ ⟨#[]⟩))):=by
 obtain ⟨T',kv,bt,bx,bc,A,hm',hp,ht⟩:=h.GP.time;obtain rfl:T'=T:=oA ht hT;obtain ⟨ao,cap,hM⟩:=hm'.aa0
 refine (Qq w c br T' i ao cap bt bx bc R A nd n hM.cell hM.P8 hp hE.G3 hi ht.2.2 hm hn h2 h3 h4 h5).mono fun e w' q=> ?_
 obtain ⟨a,⟨a1,a2⟩,q⟩:=q;exact (BF (okB:=a.2) q Iff.rfl).imp (fun y cd hy=>⟨a,Q7.G4 ⟨a1,a2⟩ hp,hy⟩)
theorem zao(nd n)(ch)(h:B9 B w c br (i:Int) R)(hE:S7 B ad w)(hi:i<4)(hT:oE (lX R) T)(hm:T<=1073741824)(hn:(lX R).length<=250)(h2: -9223372036854775808<=nd)(h3:nd<=9223372036854775807)(h4: -9223372036854775808<=n)(h5:n<=9223372036854775807):
  qC 209 #[qP br,qI nd,qI n,.int .u8 (ch.toNat:Int)] w (aad ad w (fun y cd=>∃b:Int×Bool,N6 (lX R) nd n b/\(y,cd)=BM b.2 (nQ T i (R i).length 105 nd b.1 ⟨#[]⟩ ⟨#[ch]⟩))):=by
 obtain ⟨T',kv,bt,bx,bc,A,hm',hp,ht⟩:=h.GP.time;obtain rfl:T'=T:=oA ht hT;obtain ⟨ao,cap,hM⟩:=hm'.aa0
 refine (PD w c br T' i ao cap bt bx bc R A nd n ch hM.cell hM.GC hM.P8 hp h.h hE.G3 hi ht.2.2 hm hn h2 h3 h4 h5).mono fun e w' q=> ?_
 obtain ⟨a,hw,q⟩:=q;exact (BF (okB:=a.2) q Iff.rfl).imp (fun y cd hy=>⟨a,hw.G4 hp,hy⟩)
theorem za4(nd into)(name)(h:B9 B w c br (i:Int) R)(hE:S7 B ad w)(hcy:Aside (Cyc ad))(hi:i<4)(hT:oE (lX R) T)(hm:T<=1073741824)(hn:(lX R).length<=250)(aI:name.size<=1000000)(h2: -9223372036854775808<=nd)(h3:nd<=9223372036854775807)(h4: -9223372036854775808<=into)(h5:into<=9223372036854775807):
  qC 208 #[qP br,qI nd,qI into,.string name] w (aad ad w (fun y cd=>∃ms,ms.Perm (pz (lX R))/\mn ms/\abw (sZ (lX R) nd &&Qc (lX R) into) (into=nd\/Ins (lM ms) into nd) (nQ T i (R i).length 109 nd into name ⟨#[]⟩) (y,cd))):=by
 obtain ⟨T',kv,bt,bx,bc,A,hm',hp,ht⟩:=h.GP.time;obtain rfl:T'=T:=oA ht hT;obtain ⟨ao,cap,hM⟩:=hm'.aa0;obtain ⟨bm,tv,ms,gi,jF,-⟩:=hM.Y7;obtain ⟨nm,dM,ke⟩:=gi.map;have t0:=gi.cell.c0
 refine (Ql w c br T' i ao cap bt bx bc bm nm (lM ms) R nd into name hM.cell hM.GC t0 ke gi.aaa h.h hE.G3 hcy hi ht.2.2 hm hn aI h2 h3 h4 h5).mono fun e w' q=> ?_
 obtain ⟨hb,q⟩:=q
 have cU:(sZ (lX R) nd &&Qc (lX R) into)=true↔m9 (lX R) nd/\(into=0\/into=1\/m9 (lX R) into):=by
  rw [Yl,knownB_iff,plcB_iff]
 have hno:¬(m9 (lX R) nd/\(into=0\/into=1\/m9 (lX R) into))->(sZ (lX R) nd &&Qc (lX R) into)=false:=fun k=>by
  simp_all
 have dE:=jF.trans (hp.filterMap _)
 rcases q with ⟨ok,q⟩ | ⟨ok,he,q⟩ | ⟨ok,he,cy,q⟩ | ⟨ok,he,cy,q⟩
 ·exact ⟨lQ,6,q,hb,ms,dE,gi.o9,.inl ⟨hno ok,rfl⟩⟩
 ·exact ⟨lQ,_,q,hb,ms,dE,gi.o9,.inr (.inl ⟨cU.2 ok,he,rfl⟩)⟩
 ·exact ⟨lQ,10,q,hb,ms,dE,gi.o9,.inr (.inr (.inl ⟨cU.2 ok,he,cy,rfl⟩))⟩
 exact ⟨_,0,q,hb,ms,dE,gi.o9,.inr (.inr (.inr ⟨cU.2 ok,he,cy,rfl⟩))⟩
end
theorem So{ok}{x y}{cd}(h:(y,cd)=BM ok x)(hc:cd=0):ok=true/\od x=0/\y=x:=by
 grind [BM]
theorem En{ok}{x y}(h:(y,0)=BM ok x)(hx:x.1<=1073741824->True):ok=true/\mv x=0/\y=x:=by
 obtain ⟨h1,h2,h3⟩:=So h rfl
 grind [od]
theorem OI{x}(h:od x=0):mv x=0:=by
 grind [od]
theorem PT{R}(hR:u9 R){T}{i}{x y}(h:abp (lX R) T i (R i).length x (y,0)):U6 R i T y:=by
 have up:∀ {nd:Int},m9 (lX R) nd->m9 (y::lX R) nd:=fun q=>q.mono (fun z hz=>uY _ hz)
 rcases h with ⟨_,_,h⟩ | ⟨_,_,ms,_,_,h⟩ | ⟨_,b,hb,h⟩ | ⟨_,b,hb,h⟩ | ⟨_,_,_,h⟩
 ·obtain ⟨h1,h2,rfl⟩:=En h (fun _=>trivial);refine wO h2 ⟨.inl ⟨rfl,rfl⟩,fun _=>(plcB_iff.1 h1).imp id (fun q=>q.imp id up),fun q=> ?_⟩
  rcases q with ⟨q,_⟩ | q<;>exact absurd q (by show ¬(109=_);decide)
 ·rcases h with ⟨_,e⟩ | ⟨_,q,e⟩ | ⟨_,_,_,e⟩ | ⟨h1,h2,_,e⟩
  ·cases e
  ·simp_all
  ·cases e
  cases e
  rw [Yl,knownB_iff,plcB_iff] at h1;have cq:=wI hR.G6.ok h1.1;refine wO (OI h2) ⟨.inr ?_,fun _=>h1.2.imp id (fun q=>q.imp id (fun q=>q.mono (fun z hz=>uY _ hz))),fun q=> ?_⟩
  ·grind [sP,uY]
  rcases q with ⟨q,_⟩ | q<;>exact absurd q (by show ¬(109=_);decide)
 ·obtain ⟨h1,h2,rfl⟩:=En h (fun _=>trivial)
  have hkl:m9 (lX R) (mY x)/\(0<b.1->I6 (lX R) (mY x) b.1):=by
   rcases hb with ⟨_,q2,q3⟩ | ⟨_,a1,a2⟩
   ·simp_all
   have hk:m9 (lX R) (mY x):=by
    by_cases hk:m9 (lX R) (mY x)
    ·exact hk
    simp_all
   obtain ⟨L,hL,ea⟩:=a2 hk;exact ⟨hk,fun _=>hL.U5.1 (KK (n:=mX x - 1) (by rw [<-ea,<-h1]))⟩
  have cq:=wI hR.G6.ok hkl.1;refine wO h2 ⟨.inr ?_,fun q=>absurd q (by show ¬(105=_);decide),fun q=> ?_⟩
  ·grind [sP,uY]
  rw [sP zj];refine (hkl.2 ?_).mono (fun z hz=>uY _ hz)
  rcases q with ⟨_,q⟩ | q
  ·exact q
  exact absurd q (by show ¬(105=_);decide)
 ·obtain ⟨h1,h2,rfl⟩:=En h (fun _=>trivial)
  have hk:m9 (lX R) (mY x):=by
   by_cases hk:m9 (lX R) (mY x)
   ·exact hk
   rw [hb.1 hk] at h1;cases h1
  obtain ⟨L,hL,ea⟩:=hb.2 hk;have hl:=hL.U5.1 (KK (n:=mX x) (by rw [<-ea,<-h1]));have cq:=wI hR.G6.ok hk;refine wO h2 ⟨.inr ?_,fun q=>absurd q (by show ¬(100=_);decide),fun _=> ?_⟩
  ·grind [sP,uY]
  rw [sP zj];exact hl.mono (fun z hz=>uY _ hz)
 obtain ⟨h1,h2,rfl⟩:=En h (fun _=>trivial);have hk:=knownB_iff.1 h1;have cq:=wI hR.G6.ok hk;refine wO h2 ⟨.inr ?_,fun q=>absurd q (by show ¬(115=_);decide),fun q=> ?_⟩
 ·grind [sP,uY]
 rcases q with ⟨q,_⟩ | q<;>exact absurd q (by show ¬(115=_);decide)
theorem Nf(x):od x<=11:=by
 grind [OE,od]
theorem Df(ok)(x):(BM ok x).2<=11:=by
 grind [Nf,BM]
theorem XH{A}{T}{i n}{x}{a}(h:abp A T i n x a):a.2<=11:=by
 rcases h with ⟨_,_,h⟩ | ⟨_,_,ms,_,_,h⟩ | ⟨_,b,_,h⟩ | ⟨_,b,_,h⟩ | ⟨_,_,_,h⟩
 ·rw [h];exact Df _ _
 ·rcases h with ⟨_,e⟩ | ⟨_,_,e⟩ | ⟨_,_,_,e⟩ | ⟨_,_,_,e⟩
  ·rw [e];show 6<=11;omega
  ·rw [e];exact Nf _
  ·rw [e];show 10<=11;omega
  simp_all
 ·rw [h];exact Df _ _
 ·rw [h];exact Df _ _
 rw [h];exact Df _ _
theorem tn{ok}{x}{a}(h:a=BM ok x)(hc:a.2≠0):a.1=lQ:=by
 rw [h] at hc |-
 unfold BM at hc |-
 grind
theorem QX{A}{T}{i n}{x}{a}(h:abp A T i n x a)(hc:a.2≠0):a.1=lQ:=by
 rcases h with ⟨_,_,h⟩ | ⟨_,_,ms,_,_,h⟩ | ⟨_,b,_,h⟩ | ⟨_,b,_,h⟩ | ⟨_,_,_,h⟩
 ·exact tn h hc
 ·rcases h with ⟨_,e⟩ | ⟨_,_,e⟩ | ⟨_,_,_,e⟩ | ⟨_,_,_,e⟩
  ·rw [e]
  ·rw [e]
  ·rw [e]
  simp_all
 ·exact tn h hc
 ·exact tn h hc
 exact tn h hc
theorem Qx{A}{T}(cU:∀x∈A,mv x=0)(h:oE A T):0<=T/\T<=1073741824:=by
 refine ⟨h.2.2,?_⟩
 rcases h.2.1 with e | ⟨x,hx,e⟩
 ·omega
 have:=(mT (cU x hx)).2.1;omega
def x4:OpX:=(1,0,1,109,4,0,⟨#[97]⟩,⟨#[]⟩)
theorem BA{R:Rws}(h:R=fun _=>[]):lX R= []:=by rw [h];rfl
theorem SM{R:Rws}(h:R=fun _=>[]){T}(ht:oE (lX R) T):T=0:=by
 rw [BA h] at ht
 rcases ht.2.1 with q | ⟨x,hx,_⟩
 ·exact q
 simp at hx

end