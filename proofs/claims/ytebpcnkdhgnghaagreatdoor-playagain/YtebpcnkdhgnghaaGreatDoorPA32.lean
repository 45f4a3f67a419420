import Derived.Test.YtebpcnkdhgnghaaGreatDoorPA29
import Derived.Test.YtebpcnkdhgnghaaGreatDoorPA30
import Derived.Test.YtebpcnkdhgnghaaGreatDoorPA31
set_option linter.unusedSimpArgs false
set_option linter.unusedVariables false
namespace Go.Proofs.YtebpcnkdhgnghaaGreatDoor
variable {s:ByteArray} {st:DSt} {T by_ nd:Int} {D F S S' l:List OpX} {B B' a b bm br d i j k kd n p q r:Nat} {ad:Nat→Addr} {ow:Nat→Nat} {gd gd':Nat→Option Obj} {K:Nat→Rws} {o:Obj} {x:OpX} {R R':Rws} {fv pv v:Value} {w w' w1:World}
section
open Go.RowKit Go.Lib Go.Sort Go.Maps
structure EnvT (B:Nat) (ad:Nat->Addr) (w:World):Prop where
 env:EnvE B ad w
 tab:Lib.TabBelow Tryz.prog B w "internal/strconv.uint64pow10" .u64 Lib.pow10Tab
theorem EnvT.mono {B:Nat} {ad:Nat->Addr} {w w':World} (h:EnvT B ad w) (hb:Below B w w'):EnvT B ad w':=⟨h.env.mono hb,fun w'' h'=>h.tab w'' (hb.trans h')⟩
theorem EnvT.later (h:EnvT B ad w) (hb:Below w.heap.size w w'):EnvT B ad w':=h.mono (hb.mono h.env.size)
theorem EnvT.up (h:EnvT B ad w) (hB:B<=B') (hs:B'<=w.heap.size):EnvT B' ad w:=
 ⟨⟨h.env.op4,h.env.c5,h.env.c6,h.env.c7,h.env.c8,h.env.c9,jM h.env.low hB,hs⟩,fun w' h'=>h.tab w' (h'.mono hB)⟩
theorem EnvT.is (h:EnvT B ad w):Lib.TabIs Tryz.prog w "internal/strconv.uint64pow10" .u64 Lib.pow10Tab:=h.tab w (jN _ w)
theorem RepOwn.down {c:Nat->Nat} (h:RepOwn B w c br by_ R) (hB:B'<=B):RepOwn B' w c br by_ R:=⟨h.rep,fun k hk=>jM hB (h.low k hk),h.high⟩
theorem RepAt.rows {c:Nat->Nat} (h:RepAt w c br by_ R):RowsK R:=jh
structure PF (B:Nat) (w:World) (n:Nat) (c:Nat->Nat->Nat) (br:Nat->Nat) (by_:Nat->Int) (R:Nat->Rws):Prop where
 rep:∀r,r<n->RepOwn B w (c r) (br r) (by_ r) (R r)
 apart:∀r,r<n->∀s,s<n->r≠s->∀k,c r k=0\/c s k=0
def aN {α:Type} (f:Nat->α) (a:Nat) (x:α):Nat->α:=fun r=>if r=a then x else f r
theorem aR {α:Type} (f:Nat->α) (a:Nat) (x:α):aN f a x a=x:=if_pos rfl
theorem aK {α:Type} (f:Nat->α) (x:α) (h:r≠a):aN f a x r=f r:=if_neg h
theorem RepOwn.wellK {c:Nat->Nat} (h:RepOwn B w c br by_ R):RowsK R:=h.rep.rows
theorem RepAt.time {w:World} {c:Nat->Nat} {br:Nat} {by_:Int} {R:Rws} (h:RepAt w c br by_ R):∃T kv bt bx bc A,RepMid w c br T by_ kv bt bx bc R A/\A.Perm (aX R)/\cD (aX R) T:=by
 obtain ⟨T,kv,bt,bx,bc,A,h1,h2,_⟩:=h
 exact ⟨T,kv,bt,bx,bc,A,h1,h2,⟨fun x hx=>h1.time.1 x (h2.mem_iff.2 hx),h1.time.2.1.imp id (fun ⟨x,hx,e⟩=>⟨x,h2.mem_iff.1 hx,e⟩),h1.time.2.2⟩⟩
end
section
open Go
open scoped Classical
theorem fg (h:iN x=0):(aA x).length<=150:=by
 exact kb7
theorem CE (h:∀x∈D,iN x=0):(cu D).length<=160*D.length:=by
 induction D with
 | nil=>simp [cu]
 | cons x l ih=>
  have h1:=ih (fun y hy=>h y xE)
  have h2:=fg (h x zq)
  show (bs (aA x)++cu l).length<=_
  rw [jP,bB,jY]
  omega
def DiskI (st:DSt) (D:List OpX):Prop:=(∀x∈D,iN x=0)/\((st.2.1=false/\st.1=cu D)\/(st.2.1=true/\st.2.2.1=false/\∃r,st.1=cu D++r/\r.length<=160/\cY r=none))
theorem DiskI.len (h:DiskI st D):st.1.length<=160*D.length+160:=by
 have h1:=CE h.1
 rcases h.2 with ⟨_,hB⟩ | ⟨_,_,r,hB,hr,_⟩
 ·rw [hB];omega
 rw [hB,jP];omega
theorem DiskI.app (h:DiskI st D) (hl:0<=st.2.2.2) (hD:D.length<=320) (he:iN x=0):((dW st x).1=0/\st.2.1=false/\(dW st x).2.2.1=false/\DiskI (dW st x).2 (D++ [x]))\/((dW st x).1=11/\(dW st x).2.2.1=true/\DiskI (dW st x).2 D):=by
 have hlen:=h.len
 have htx:=fg he
 have hrl:=bB (aA x)
 obtain ⟨B,off,waits,left⟩:=st
 dsimp only at hl hlen
 obtain ⟨h0,h⟩:=h
 unfold dW
 rw [if_neg (fun q=>q he),if_neg zO]
 have hok:∀y∈D++ [x],iN y=0:=fun y hy=>by
  rcases jO.1 hy with q | q
  ·exact h0 y q
  rw [jS.1 q];exact he
 rcases h with ⟨h1,hB⟩ | ⟨h1,h2,r,hB,hr1,hr2⟩
 ·dsimp only at h1 hB
  subst h1
  cases waits with
  | false=>
   rw [kX]
   exact kj7
  | true=>
   obtain ⟨n,rfl⟩:∃n:Nat,left=(n:Int):=⟨left.toNat,zj⟩
   rw [wg]
   by_cases hn:(bs (aA x)).length<=n
   ·rw [if_pos hn]
    exact kj7
   rw [if_neg hn]
   dsimp only
   rw [if_neg zq]
   refine .inr ⟨rfl,rfl,h0,.inr ⟨rfl,rfl,(bs (aA x)).take n,by rw [hB],?_,ET he zj⟩⟩
   rw [vj]
   omega
 dsimp only at h1 h2 hB
 subst h1
 subst h2
 obtain ⟨c,r',hc⟩:=KT (aA x)
 rw [hc,FK]
 dsimp only
 rw [if_neg zq]
 exact .inr ⟨rfl,rfl,h0,.inr ⟨rfl,rfl,r,hB,hr1,hr2⟩⟩
theorem DiskI.back (h:DiskI st D):(ab st.1).1=D/\DiskI (iI st) D/\(iI st).2.1=false:=by
 have h1:ab st.1=(D,(cu D).length):=by
  rcases h.2 with ⟨_,hB⟩ | ⟨_,_,r,hB,_,hr⟩
  ·rw [hB];exact Eu D h.1
  rw [hB];exact iq D r h.1 hr
 refine ⟨by rw [h1],⟨h.1,.inl ⟨rfl,?_⟩⟩,rfl⟩
 unfold iI
 rw [h1]
 dsimp only
 rcases h.2 with ⟨_,hB⟩ | ⟨_,_,r,hB,_,hr⟩
 ·rw [hB,vm zg]
 rw [hB,List.take_left]
theorem DiskI.cut (h:DiskI st D) (n:Int):DiskI (kt st n) D/\(kt st n).2.1=st.2.1:=by
 unfold kt
 split
 ·rename_i e
  refine ⟨⟨h.1,?_⟩,rfl⟩
  rcases h.2 with ⟨h1,h2⟩ | ⟨h1,_⟩
  ·exact .inl ⟨h1,h2⟩
  exfalso
  unfold AU at e
  rw [h1] at e
  split at e
  ·cases e
  simp at e
 exact ⟨h,rfl⟩
theorem rU:DiskI ([],false,false,0) []:=⟨fun x hx=>zP,.inl ⟨rfl,rfl⟩⟩
theorem An (hS:WellK S) (hS':WellK S') (hsub:∀x∈S,x∈S') (hF:kL F) (hm:∀x,x∈F↔x∈S'/\x∉S) (k:Nat):WellK (S++F.take k):=by
 have up:∀x,x∈S++F.take k->x∈S':=fun x hx=>by
  rcases jO.1 hx with q | q
  ·exact hsub x q
  exact ((hm x).1 (uc q)).1
 have ahead:∀x,x∈F.take k->∀y,y∈S'->idO y<=idO x->y∈S++F.take k:=fun x hx y hy hle=>by
  by_cases hyS:y∈S
  ·exact vg _ hyS
  have hyF:=(hm y).2 ⟨hy,hyS⟩
  have hx':=(hm x).1 (uc hx)
  refine vB _ ?_
  by_cases e:idO y=idO x
  ·rw [hS'.stamp hy hx'.1 (Nl (hS'.ok y hy) (hS'.ok x hx'.1) e)];exact hx
  exact Fg hF hx hyF (NR (hS'.ok y hy) (hS'.ok x hx'.1) zj)
 have le_id:∀x y,x∈S'->y∈S'->CLt (stO y) (stO x)->idO y<=idO x:=fun x y hx hy h=>by
  have a:=ax (hS'.ok x hx)
  have b:=ax (hS'.ok y hy)
  unfold CLt stO at h
  unfold idO
  dsimp only at h
  omega
 have mono:∀x,x∈S->x∈S++F.take k:=fun x hx=>vg _ hx
 refine ⟨fun x hx=>hS'.ok x (up x hx),fun x hx y hy=>hS'.one x (up x hx) y (up y hy),fun x hx=> ?_,fun x hx y hy=>hS'.rise x (up x hx) y (up y hy),fun x hx=> ?_⟩
 ·rcases jO.1 hx with q | q
  ·exact (hS.gap x q).imp id (fun ⟨y,hy,e⟩=>⟨y,mono y hy,e⟩)
  rcases hS'.gap x (up x hx) with e | ⟨y,hy,e1,e2⟩
  ·exact .inl e
  exact .inr ⟨y,ahead x q y hy (le_id x y (up x hx) hy (hS'.rise y hy x (up x hx) e1 e2)),e1,e2⟩
 rcases jO.1 hx with q | q
 ·exact (hS.refs x q).mono mono
 obtain ⟨r1,r2,r3⟩:=hS'.refs x (up x hx)
 have hz:=ax (hS'.ok x (up x hx))
 have hn:aG x<=idO x:=hz.2.2.2.2.2.2.2.2.1
 have hoo:aF x<=idO x:=hz.2.2.2.2.2.2.2.2.2.2.1
 have kn:∀nd,nd<=idO x->KnownN S' nd->KnownN (S++F.take k) nd:=fun nd hn ⟨m,hm,q1,q2,q3⟩=>⟨m,ahead x q m hm zj,q1,q2,q3⟩
 have ln:∀nd id,id<=idO x->LetterN S' nd id->LetterN (S++F.take k) nd id:=fun nd id hn ⟨m,hm,q1,q2,q3⟩=>⟨m,ahead x q m hm zj,q1,q2,q3⟩
 exact ⟨r1.imp id (kn _ hn),fun e=>(r2 e).imp id (fun q=>q.imp id (kn _ hoo)),fun e=>ln _ _ hoo (r3 e)⟩
structure MInv (n i:Nat) (G:List OpX) (S D:Nat->List OpX) (off:Nat->Bool):Prop where
 one:∀x∈G,∀y∈G,byO x=byO y->ah x=ah y->x=y
 ok:∀x∈G,bY x=0
 nodup:G.Nodup
 len:G.length<=i
 time:∀x∈G,x.1<=(i:Int)
 own:∀x∈G,∃r:Nat,r<n/\byO x=(r:Int)/\x∈D r
 sub:∀r,r<n->∀x∈S r,x∈G
 disk:∀r,r<n->∀x∈D r,x∈S r
 on:∀r,r<n->off r=false->∀x∈S r,x∈D r
 well:∀r,r<n->WellK (S r)
 dwell:∀r,r<n->WellK (D r)/\(D r).Nodup
section
variable {n i:Nat} {G:List OpX} {S D:Nat→List OpX} {off:Nat→Bool}
theorem MInv.start (n:Nat) (off:Nat->Bool):MInv n 0 [] (fun _=>[]) (fun _=>[]) off:=
 ⟨fun x hx=>zP,fun x hx=>zP,uS,jL _,fun x hx=>zP,fun x hx=>zP,fun _ _ x hx=>zP,fun _ _ x hx=>zP,fun _ _ _ x hx=>zP,fun _ _=>mv,fun _ _=>⟨mv,uS⟩⟩
theorem MInv.up (h:MInv n i G S D off) (hij:i<=j):MInv n j G S D off:=
 ⟨h.one,h.ok,h.nodup,jM h.len hij,fun x hx=>by have:=h.time x hx;omega,h.own,h.sub,h.disk,h.on,h.well,h.dwell⟩
theorem MInv.mine (h:MInv n i G S D off) {r:Nat} {x:OpX} (hx:x∈G) (e:byO x=(r:Int)):x∈D r:=by
 obtain ⟨q,hq,e1,e2⟩:=h.own x hx
 have:q=r:=zj
 subst this
 exact e2
theorem MInv.slen (h:MInv n i G S D off) (hr:r<n) (hn:(S r).Nodup):(S r).length<=i:=jM (dD hn (fun x hx=>h.sub r hr x hx)) h.len
theorem MInv.dlen (h:MInv n i G S D off) (hr:r<n):(D r).length<=i:=jM (dD (h.dwell r hr).2 (fun x hx=>h.sub r hr x (h.disk r hr x hx))) h.len
theorem MInv.compat (h:MInv n i G S D off) {A C:List OpX} (hA:∀x∈A,x∈G) (hC:∀x∈C,x∈G):Compat A C:=fun x hx y hy=>h.one x (hA x hx) y (hC y hy)
theorem MInv.dark (h:MInv n i G S D off) {off':Nat->Bool} (ho:∀r,r<n->off' r=false->off r=false):MInv n i G S D off':=
 ⟨h.one,h.ok,h.nodup,h.len,h.time,h.own,h.sub,h.disk,fun r hr e=>h.on r hr (ho r hr e),h.well,h.dwell⟩
theorem MInv.congr (h:MInv n i G S D off) {S':Nat->List OpX} (e:∀r,r<n->∀x,x∈S r↔x∈S' r):MInv n i G S' D off:=
 ⟨h.one,h.ok,h.nodup,h.len,h.time,h.own,fun r hr x hx=>h.sub r hr x ((e r hr x).2 hx),fun r hr x hx=>(e r hr x).1 (h.disk r hr x hx),fun r hr o x hx=>h.on r hr o x ((e r hr x).2 hx),fun r hr=>(h.well r hr).congr (e r hr),h.dwell⟩
theorem MInv.put (h:MInv n i G S D off) {a:Nat} {S' D':List OpX} {o:Bool} (hS:∀x∈S',x∈G) (hD:∀x∈D',x∈S') (hk:∀x∈G,byO x=(a:Int)->x∈D') (ho:o=false->∀x∈S',x∈D') (hw:WellK S') (hd:WellK D') (hn:D'.Nodup):MInv n i G (aN S a S') (aN D a D') (aN off a o):=by
 refine ⟨h.one,h.ok,h.nodup,h.len,h.time,fun x hx=> ?_,fun r hr x hx=> ?_,fun r hr x hx=> ?_,fun r hr e x hx=> ?_,fun r hr=> ?_,fun r hr=> ?_⟩
 ·obtain ⟨q,hq,e1,e2⟩:=h.own x hx
  refine ⟨q,hq,e1,?_⟩
  by_cases e:q=a
  ·subst e;rw [aR];exact hk x hx e1
  rw [aK _ _ e];exact e2
 ·by_cases e:r=a
  ·subst e;rw [aR] at hx;exact hS x hx
  rw [aK _ _ e] at hx;exact h.sub r hr x hx
 ·by_cases e:r=a
  ·subst e;rw [aR] at hx |-;exact hD x hx
  rw [aK _ _ e] at hx |-;exact h.disk r hr x hx
 ·by_cases q:r=a
  ·subst q;rw [aR] at hx e |-;exact ho e x hx
  rw [aK _ _ q] at hx e |-;exact h.on r hr e x hx
 ·by_cases e:r=a
  ·subst e;rw [aR];exact hw
  rw [aK _ _ e];exact h.well r hr
 by_cases e:r=a
 ·subst e;rw [aR];exact ⟨hd,hn⟩
 rw [aK _ _ e];exact h.dwell r hr
theorem MInv.made (h:MInv n i G S D off) {a:Nat} (ha:a<n) {x:OpX} {S':List OpX} (hon:off a=false) (hb:byO x=(a:Int)) (ht:x.1<=(i:Int)+1) (hw:WellK (x::S a)) (hnew:∀y∈S a,byO y=byO x->ah y<ah x) (hm:∀y,y∈S'↔y=x\/y∈S a):MInv n (i+1) (G++ [x]) (aN S a S') (aN D a (D a++ [x])) (aN off a false):=by
 have hxG:∀y∈G,byO y=byO x->ah y<ah x:=fun y hy e=>hnew y (h.disk a ha y (h.mine hy (e.trans hb))) e
 have hx1:∀y∈G,y≠x:=fun y hy e=>by have:=hxG y hy qR;rw [e] at this;omega
 have hD:∀y,y∈D a++ [x]↔y∈x::S a:=fun y=>by
  rw [jO,jS,jQ]
  constructor
  ·rintro (q | q)
   ·exact .inr (h.disk a ha y q)
   exact .inl q
  rintro (q | q)
  ·exact .inr q
  exact .inl (h.on a ha hon y q)
 refine ⟨fun y hy z hz e1 e2=> ?_,fun y hy=> ?_,?_,?_,fun y hy=> ?_,fun y hy=> ?_,fun r hr y hy=> ?_,fun r hr y hy=> ?_,fun r hr e y hy=> ?_,fun r hr=> ?_,fun r hr=> ?_⟩
 ·rcases jO.1 hy with p | p<;>rcases jO.1 hz with q | q
  ·exact h.one y p z q e1 e2
  ·rw [jS.1 q] at e1 e2;have:=hxG y p e1;omega
  ·rw [jS.1 p] at e1 e2;have:=hxG z q e1.symm;omega
  rw [jS.1 p,jS.1 q]
 ·rcases jO.1 hy with p | p
  ·exact h.ok y p
  rw [jS.1 p];exact hw.ok x vr
 ·rw [vM]
  refine ⟨h.nodup,zq,fun y hy z hz=> ?_⟩
  rw [jS.1 hz]
  exact hx1 y hy
 ·rw [jP];have:=h.len;simp;omega
 ·rcases jO.1 hy with p | p
  ·have:=h.time y p;omega
  rw [jS.1 p];omega
 ·rcases jO.1 hy with p | p
  ·obtain ⟨q,hq,e1,e2⟩:=h.own y p
   refine ⟨q,hq,e1,?_⟩
   by_cases e:q=a
   ·subst e;rw [aR];exact vg _ e2
   rw [aK _ _ e];exact e2
  rw [jS.1 p]
  exact ⟨a,ha,hb,by rw [aR];simp⟩
 ·by_cases e:r=a
  ·subst e
   rw [aR] at hy
   rcases (hm y).1 hy with q | q
   ·rw [q];simp
   exact vg _ (h.sub r hr y q)
  rw [aK _ _ e] at hy;exact vg _ (h.sub r hr y hy)
 ·by_cases e:r=a
  ·subst e
   rw [aR] at hy |-
   exact (hm y).2 (jQ.1 ((hD y).1 hy))
  rw [aK _ _ e] at hy |-;exact h.disk r hr y hy
 ·by_cases q:r=a
  ·subst q
   rw [aR] at hy |-
   exact (hD y).2 (jQ.2 ((hm y).1 hy))
  rw [aK _ _ q] at hy e |-;exact h.on r hr e y hy
 ·by_cases e:r=a
  ·subst e;rw [aR];exact hw.congr (fun y=>by rw [jQ,hm y])
  rw [aK _ _ e];exact h.well r hr
 by_cases e:r=a
 ·subst e
  rw [aR]
  refine ⟨hw.congr (fun y=>(hD y).symm),?_⟩
  rw [vM]
  refine ⟨(h.dwell r hr).2,zq,fun y hy z hz=> ?_⟩
  rw [jS.1 hz]
  exact hx1 y (h.sub r hr y (h.disk r hr y hy))
 rw [aK _ _ e];exact h.dwell r hr
theorem MInv.heard (h:MInv n i G S D off) (ha:a<n) {o:Bool} (hl:∀x∈l,x∈G) (hm:∀x,x∈S'↔x∈S a\/x∈l) (hw:WellK S') (hF:kL F) (hFn:F.Nodup) (hFm:∀x,x∈F↔x∈S'/\x∉S a) (hk0:off a=true->k=0) (hko:o=false->off a=false/\F.length<=k):MInv n i G (aN S a S') (aN D a (D a++F.take k)) (aN off a o):=by
 have hS:∀x∈S',x∈G:=fun x hx=>((hm x).1 hx).elim (h.sub a ha x) (hl x)
 refine h.put hS (fun x hx=> ?_) (fun x hx e=>vg _ (h.mine hx e)) (fun e x hx=> ?_) hw ?_ ?_
 ·rcases jO.1 hx with q | q
  ·exact (hm x).2 (.inl (h.disk a ha x q))
  exact ((hFm x).1 (uc q)).1
 ·obtain ⟨e1,e2⟩:=hko e
  rw [vm e2]
  by_cases hx':x∈S a
  ·exact vg _ (h.on a ha e1 x hx')
  exact vB _ ((hFm x).2 ⟨hx,hx'⟩)
 ·cases ho:off a with
  | true=>rw [hk0 ho,List.take_zero,vZ];exact (h.dwell a ha).1
  | false=>
   refine (An (h.well a ha) hw (fun x hx=>(hm x).2 (.inl hx)) hF hFm k).congr (fun x=> ?_)
   rw [jO,jO]
   exact or_congr ⟨h.on a ha ho x,h.disk a ha x⟩ Iff.rfl
 rw [vM]
 refine ⟨(h.dwell a ha).2,hFn.sublist (List.take_sublist _ _),fun x hx y hy e=> ?_⟩
 subst e
 exact ((hFm x).1 (uc hy)).2 (h.disk a ha x hx)
theorem MInv.boot (h:MInv n i G S D off) (ha:a<n) (hm:∀x,x∈S'↔x∈D a):MInv n i G (aN S a S') (aN D a (D a)) (aN off a false):=
 h.put (fun x hx=>h.sub a ha x (h.disk a ha x ((hm x).1 hx))) (fun x hx=>(hm x).2 hx) (fun x hx e=>h.mine hx e) (fun _ x hx=>(hm x).1 hx) ((h.dwell a ha).1.congr (fun x=>(hm x).symm)) (h.dwell a ha).1 (h.dwell a ha).2
end
end
section
open Go.RowKit Go.Lib Go.Sort Go.Maps
open scoped Classical
theorem lV (h:∀x∈l,bY x=0):JM l:=fun x hx=>by
 have q:=ax (h x hx)
 have l1:x.2.2.2.2.2.2.1.data.toList.length=x.2.2.2.2.2.2.1.size:=zq
 have l2:x.2.2.2.2.2.2.2.data.toList.length=x.2.2.2.2.2.2.2.size:=zq
 omega
def FG (B:Nat) (w:World) (c:Nat->Nat) (br:Nat) (by_:Int) (R:Rws) (l:List OpX) (e:Ending) (w':World):Prop:=∃(n:Nat) (c':Nat->Nat) (R':Rws),e= .returned (.tuple #[.int .i64 (n:Int),.nilIface])/\Acts w c w' c'/\RepOwn B w' c' br by_ R'/\(∀x,x∈aX R'↔x∈aX R\/x∈l)/\(aX R').length=(aX R).length+n
theorem GH (hR:RowsK R) (hR':RowsK R') (hF:FreshK (aX R) F) (hm:∀x,x∈aX R'↔x∈aX R++F):(aX R').length=(aX R).length+F.length:=by
 have n1:=hR'.num.nodup
 have n2:(aX R++F).Nodup:=by
  exact kg6
 have a1:=dD n1 (fun x hx=>(hm x).1 hx)
 have a2:=dD n2 (fun x hx=>(hm x).2 hx)
 rw [jP] at a1 a2
 omega
theorem Jz (w:World) (c:Nat->Nat) (br:Nat) (by_:Int) (R:Rws) (la:Option Addr) (lc:Nat) (T l:List OpX) (h:RepOwn B w c br by_ R) (hE:EnvT B ad w) (hin:OpsIn w la l) (hT:WellK T) (hc:Compat (aX R) T) (hl:∀x,x∈l->x∈T) (hl2:∀x,x∈T->x∈aX R\/x∈l) (hn:(aX R).length+l.length<=250):
  Calls Tryz.prog 35 #[.pointer (some ⟨br,0,none⟩),.slice la l.length lc] w (FG B w c br by_ R l):=by
 obtain ⟨fresh,h1,h2,h3,h4⟩:=sX h.wellK hT hc hl hl2 zj
 refine (JQ w c br by_ R la lc l h hE.env hin (lV (fun x hx=>hT.ok x (hl x hx))) hn).mono ?_
 rintro e w' ⟨a,c',hj,hA,hm⟩
 rw [h1 a hj] at hm
 obtain ⟨he,R',hR',hmem⟩:=hm
 refine ⟨fresh.length,c',R',he,hA,hR',fun x=> ?_,GH h.wellK hR'.wellK h2 hmem⟩
 rw [hmem x,h3 x]
 constructor
 ·rintro (q | q)
  ·exact .inl q
  exact hl2 x q
 rintro (q | q)
 ·exact .inl q
 exact .inr (hl x q)
theorem BP {B:Nat} {ad:Nat->Addr} (w:World) (c:Nat->Nat) (br:Nat) (i:Nat) (R:Rws) (la:Option Addr) (lc:Nat) (T:Int) (x:OpX) (h:RepOwn B w c br (i:Int) R) (hE:EnvT B ad w) (hi:i<4) (hin:OpsIn w la [x]) (hx:NextOp R i T x) (hT:∀y∈aX R,y.1<=T) (hn:(aX R).length<=240):
  Calls Tryz.prog 35 #[.pointer (some ⟨br,0,none⟩),.slice la 1 lc] w fun e w'=>∃(c':Nat->Nat) (R':Rws),e= .returned (.tuple #[.int .i64 1,.nilIface])/\Acts w c w' c'/\RepOwn B w' c' br (i:Int) R'/\(∀y,y∈aX R'↔y=x\/y∈aX R)/\(aX R').length=(aX R).length+1:=by
 have hw:=hx.well h.wellK hi hT
 have hxn:x∉aX R:=fun q=>by have:=hw.2 x q rfl;omega
 refine (Jz w c br (i:Int) R la lc (x::aX R) [x] h hE hin hw.1 (Be hx h.wellK hi hT) (fun y hy=>by simp at hy;rw [hy];exact vr) (fun y hy=>by rcases jQ.1 hy with q | q;exact .inr (by simp [q]);exact .inl q) zl).mono ?_
 rintro e w' ⟨n,c',R',he,hA,hR',hm,hlen⟩
 have hm':∀y,y∈aX R'↔y=x\/y∈aX R:=fun y=>by rw [hm y];simp only [jS];exact Or.comm
 have n1:n=1:=by
  have a1:=dD hR'.wellK.num.nodup (H:=x::aX R) (fun y hy=>by rcases (hm' y).1 hy with q | q;exact jQ.2 (.inl q);exact vf _ q)
  have a2:=dD (l:=x::aX R) (H:=aX R') (List.nodup_cons.2 ⟨hxn,h.wellK.num.nodup⟩) (fun y hy=>(hm' y).2 (jQ.1 hy))
  rw [jY] at a1 a2
  omega
 subst n1
 exact ⟨c',R',he,hA,hR',hm',hlen⟩
end
section
open Go Go.RowKit Go.Lib
open scoped Classical
abbrev aO:=Nat×Nat×Bool×(Nat->Int)×Option Addr×Nat×List OpX
abbrev Cd (x:aO):List OpX:=x.2.2.2.2.2.2
def lE (x:aO):Value:=.slice x.2.2.2.2.1 x.2.2.2.2.2.2.length x.2.2.2.2.2.1
def bD (x:aO):List Value:=[.int .i64 (x.1:Int),.int .i64 (x.2.1:Int),.bool x.2.2.1,.int .i64 (x.2.2.2.1 0),.int .i64 (x.2.2.2.1 1),.int .i64 (x.2.2.2.1 2),.int .i64 (x.2.2.2.1 3),lE x]
theorem bw (x:aO):(bD x).length=8:=rfl
theorem rS (x:aO):∀v∈bD x,v.oneCell'=true:=by
 intro v hv
 unfold bD lE at hv
 simp only [jQ,uu,or_false] at hv
 exact kg8
def kD (bp:Nat->Nat) (n:Nat):List Value:=(List.range n).map fun r=>.pointer (some ⟨bp r,0,none⟩)
theorem CP (bp:Nat->Nat) (n:Nat):kD bp (n+1)=kD bp n++ [.pointer (some ⟨bp n,0,none⟩)]:=by unfold kD;rw [uH,vz];rfl
theorem lI (bp:Nat->Nat) (h:r<n):(kD bp n)[r]? =some (.pointer (some ⟨bp r,0,none⟩)):=by unfold kD;rw [vP,List.getElem?_range h];rfl
theorem th {bp bp':Nat->Nat} (h:∀r,r<n->bp r=bp' r):kD bp n=kD bp' n:=by
 unfold kD
 exact ut (fun r hr=>by rw [h r (List.mem_range.1 hr)])
def PeerC (w:World) (p b d:Nat):Prop:=w.heap[p]? =some (.cells #[.pointer (some ⟨b,0,none⟩),.pointer (some ⟨d,0,none⟩)] 101 (0,0))
theorem PeerC.lt (h:PeerC w p b d):p<w.heap.size:=(jJ.1 h).1
theorem PeerC.c0 (h:PeerC w p b d):w.cell? ⟨p,0,none⟩=some (.pointer (some ⟨b,0,none⟩)):=by unfold PeerC at h;simp [World.cell?,h]
theorem PeerC.c1 (h:PeerC w p b d):w.cell? ⟨p,1,none⟩=some (.pointer (some ⟨d,0,none⟩)):=by unfold PeerC at h;simp [World.cell?,h]
theorem PeerC.fz (h:PeerC w p b d) (o:Nat):w.frozen? ⟨p,o,none⟩=false:=by unfold PeerC at h;simp [World.frozen?,h]
theorem PeerC.same (h:PeerC w p b d) (e:w'.heap[p]? =w.heap[p]?):PeerC w' p b d:=e.trans h
def MeshC (w:World) (bm:Nat) (pv fv:Value):Prop:=w.heap[bm]? =some (.cells #[pv,fv] 93 (0,0))
theorem MeshC.lt (h:MeshC w bm pv fv):bm<w.heap.size:=(jJ.1 h).1
theorem MeshC.c0 (h:MeshC w bm pv fv):w.cell? ⟨bm,0,none⟩=some pv:=by unfold MeshC at h;simp [World.cell?,h]
theorem MeshC.c1 (h:MeshC w bm pv fv):w.cell? ⟨bm,1,none⟩=some fv:=by unfold MeshC at h;simp [World.cell?,h]
theorem MeshC.fz (h:MeshC w bm pv fv) (o:Nat):w.frozen? ⟨bm,o,none⟩=false:=by unfold MeshC at h;simp [World.frozen?,h]
theorem MeshC.set0 (h:MeshC w bm pv fv) (v:Value):MeshC (w.setCell ⟨bm,0,none⟩ v) bm v fv:=heap_setCell_same w bm 0 _ _ _ h
theorem MeshC.set1 (h:MeshC w bm pv fv) (v:Value):MeshC (w.setCell ⟨bm,1,none⟩ v) bm pv v:=heap_setCell_same w bm 1 _ _ _ h
theorem PeerC.set0 (h:PeerC w p b d) (b':Nat):PeerC (w.setCell ⟨p,0,none⟩ (.pointer (some ⟨b',0,none⟩))) p b' d:=heap_setCell_same w p 0 _ _ _ h
structure NoteIn (w:World) (ow:Nat->Nat) (n:Nat) (x:aO):Prop where
 from_:x.1<n
 to_:x.2.1<n
 ops:OpsAt w (lE x) (Cd x)
 own:∀g,(lE x).ownBlock=some g->ow g=4
structure MeshAt (gd:Nat->Option Obj) (B:Nat) (w:World) (ow:Nat->Nat) (n bm:Nat) (pv fv:Value) (bp br d:Nat->Nat) (dv:Nat->Value) (c:Nat->Nat->Nat) (K:Nat->Rws) (st:Nat->DSt) (N:List aO):Prop where
 few:n<=4
 mesh:MeshC w bm pv fv
 om:ow bm=1
 peers:w.ownsRow B 94 1 pv n (kD bp n)
 op:∀g,pv.ownBlock=some g->ow g=2
 fly:w.ownsRow B 175 8 fv N.length (aB bD N)
 of:∀g,fv.ownBlock=some g->ow g=3
 notes:∀x∈N,NoteIn w ow n x
 peer:∀r,r<n->PeerC w (bp r) (br r) (d r)/\ow (bp r)=30+r
 rep:∀r,r<n->RepOwn B w (c r) (br r) (r:Int) (K r)/\∀k,c r k≠0->ow k=10+r
 disk:∀r,r<n->DiskAt w (d r) (dv r) (st r)/\∀k,nP (d r) (dv r) k->ow k=20+r
 low:∀k,ow k≠0->B<=k
 high:∀k,w.heap.size<=k->ow k=0
 base:B<=w.heap.size
 guard:∀k o,gd k=some o->ow k=5/\w.heap[k]? =some o
def aD (ow:Nat->Nat) (w w':World) (j:Nat):Nat->Nat:=fun k=>if k<w.heap.size then ow k else if k<w'.heap.size then j else 0
theorem bT (h:k<w.heap.size):aD ow w w' j k=ow k:=if_pos h
theorem iL (h:w.heap.size<=k) (h':k<w'.heap.size):aD ow w w' j k=j:=by unfold aD;rw [if_neg zj,if_pos h']
theorem bg {xs:List OpX} (h:OpsAt w v xs) (e:∀g,v.ownBlock=some g->w'.heap[g]? =w.heap[g]?):OpsAt w' v xs:=by
 rcases h with h | ⟨g,o,cp,rfl,h2⟩
 ·exact .inl h
 exact .inr ⟨g,o,cp,rfl,fun j u hj=>by rw [vi (a:=⟨g,o+j,none⟩) (e g rfl)];exact h2 j u hj⟩
theorem RepOwn.keep {c:Nat->Nat} (h:RepOwn B w c br by_ R) (hs:w.heap.size<=w'.heap.size) (e:∀k,k<w.heap.size->c k≠0->w'.heap[k]? =w.heap[k]?):RepOwn B w' c br by_ R:=
 ⟨h.rep.kept (fun i hi=>⟨fun k hk q=>e k hk (by rw [q];exact hi),fun _ _=>rfl⟩),h.low,fun k hk=>h.high k (jM hs hk)⟩
structure Kw (gd:Nat->Option Obj) (j:Nat) (B:Nat) (w:World) (ow:Nat->Nat) (n bm:Nat) (pv fv:Value) (bp br d:Nat->Nat) (dv:Nat->Value) (c:Nat->Nat->Nat) (K:Nat->Rws) (st:Nat->DSt) (N:List aO):Prop where
 few:n<=4
 mesh:j≠1->MeshC w bm pv fv
 om:ow bm=1
 peers:j≠2->w.ownsRow B 94 1 pv n (kD bp n)
 op:∀g,pv.ownBlock=some g->ow g=2
 fly:j≠3->w.ownsRow B 175 8 fv N.length (aB bD N)
 of:∀g,fv.ownBlock=some g->ow g=3
 notes:j≠4->∀x∈N,NoteIn w ow n x
 peer:∀r,r<n->(j≠30+r->PeerC w (bp r) (br r) (d r))/\ow (bp r)=30+r
 rep:∀r,r<n->(j≠10+r->RepOwn B w (c r) (br r) (r:Int) (K r))/\∀k,c r k≠0->ow k=10+r
 disk:∀r,r<n->(j≠20+r->DiskAt w (d r) (dv r) (st r))/\∀k,nP (d r) (dv r) k->ow k=20+r
 low:∀k,ow k≠0->B<=k
 high:∀k,w.heap.size<=k->ow k=0
 base:B<=w.heap.size
 guard:j≠5->∀k o,gd k=some o->ow k=5/\w.heap[k]? =some o
section
variable {gd:Nat→Option Obj} {B:Nat} {w:World} {ow:Nat→Nat} {n bm:Nat} {pv fv:Value} {bp br d:Nat→Nat} {dv:Nat→Value} {c:Nat→Nat→Nat} {K:Nat→Rws} {st:Nat→DSt} {N:List aO}
theorem MeshAt.in_ (h:MeshAt gd B w ow n bm pv fv bp br d dv c K st N) (hk:ow k≠0):k<w.heap.size:=by
 by_cases q:k<w.heap.size
 ·exact q
 exact absurd (h.high k zj) hk
theorem MeshAt.but (h:MeshAt gd B w ow n bm pv fv bp br d dv c K st N) (hk:Keeps (fun k=>ow k=j) w w'):Kw gd j B w' (aD ow w w' j) n bm pv fv bp br d dv c K st N:=by
 have hin:∀ {k i:Nat},ow k=i->i≠0->k<w.heap.size:=fun {k i} e hi=>h.in_ yh
 have same:∀ {k i:Nat},ow k=i->i≠0->j≠i->w'.heap[k]? =w.heap[k]? :=fun {k i} e hi hj=>hk.block k (hin e hi) (fun q=>hj (by rw [<-q,e]))
 have hue:∀ {k i:Nat},ow k=i->i≠0->aD ow w w' j k=i:=fun {k i} e hi=>(bT (hin e hi)).trans e
 refine ⟨h.few,fun hj=>(same h.om zj hj).trans h.mesh,hue h.om zj,fun hj=>au h.peers (fun g hg=>same (h.op g hg) zj hj),fun g hg=>hue (h.op g hg) zj,fun hj=>au h.fly (fun g hg=>same (h.of g hg) zj hj),fun g hg=>hue (h.of g hg) zj,fun hj x hx=> ?_,fun r hr=> ?_,fun r hr=> ?_,fun r hr=> ?_,fun k hq=> ?_,fun k hq=> ?_,jM h.base hk.size,fun hj k o e=>⟨hue (h.guard k o e).1 zj,(same (h.guard k o e).1 zj hj).trans (h.guard k o e).2⟩⟩
 ·have hn:=h.notes x hx
  exact ⟨hn.from_,hn.to_,bg hn.ops (fun g hg=>same (hn.own g hg) zj hj),fun g hg=>hue (hn.own g hg) zj⟩
 ·obtain ⟨h1,h2⟩:=h.peer r hr
  exact ⟨fun hj=>h1.same (same h2 zj hj),hue h2 zj⟩
 ·obtain ⟨h1,h2⟩:=h.rep r hr
  exact ⟨fun hj=>h1.keep hk.size (fun k _ e=>same (h2 k e) zj hj),fun k e=>hue (h2 k e) zj⟩
 ·obtain ⟨h1,h2⟩:=h.disk r hr
  exact ⟨fun hj=>h1.same (fun k e=>same (h2 k e) zj hj),fun k e=>hue (h2 k e) zj⟩
 ·by_cases q:k<w.heap.size
  ·rw [bT q] at hq;exact h.low k hq
  have:=h.base;omega
 have:=hk.size
 unfold aD
 exact kh5
theorem MeshAt.still (h:MeshAt gd B w ow n bm pv fv bp br d dv c K st N) {S:Nat->Prop} (hk:Keeps S w w') (hS:∀k,S k->ow k=0):MeshAt gd B w' ow n bm pv fv bp br d dv c K st N:=by
 have same:∀ {k i:Nat},ow k=i->i≠0->w'.heap[k]? =w.heap[k]? :=fun {k i} e hi=>hk.block k (h.in_ yh) (fun q=>hi (by rw [<-e];exact hS k q))
 exact ⟨h.few,(same h.om zj).trans h.mesh,h.om,au h.peers (fun g hg=>same (h.op g hg) zj),h.op,au h.fly (fun g hg=>same (h.of g hg) zj),h.of,fun x hx=>⟨(h.notes x hx).from_,(h.notes x hx).to_,bg (h.notes x hx).ops (fun g hg=>same ((h.notes x hx).own g hg) zj),(h.notes x hx).own⟩,fun r hr=>⟨(h.peer r hr).1.same (same (h.peer r hr).2 zj),(h.peer r hr).2⟩,fun r hr=>⟨(h.rep r hr).1.keep hk.size (fun k _ e=>same ((h.rep r hr).2 k e) zj),(h.rep r hr).2⟩,fun r hr=>⟨(h.disk r hr).1.same (fun k e=>same ((h.disk r hr).2 k e) zj),(h.disk r hr).2⟩,h.low,fun k hq=>h.high k (jM hk.size hq),jM h.base hk.size,fun k o e=>⟨(h.guard k o e).1,(same (h.guard k o e).1 zj).trans (h.guard k o e).2⟩⟩
theorem MeshAt.later (h:MeshAt gd B w ow n bm pv fv bp br d dv c K st N) (hb:Below w.heap.size w w'):MeshAt gd B w' ow n bm pv fv bp br d dv c K st N:=h.still (aV hb) (fun k e=>h.high k e)
theorem MeshAt.repAct (h:MeshAt gd B w ow n bm pv fv bp br d dv c K st N) {a:Nat} (ha:a<n) {w':World} {c':Nat->Nat} {R':Rws} (hA:Acts w (c a) w' c') (hR:RepOwn B w' c' (br a) (a:Int) R'):MeshAt gd B w' (aD ow w w' (10+a)) n bm pv fv bp br d dv (aN c a c') (aN K a R') st N/\Keeps (fun k=>ow k=10+a) w w':=by
 have hf:=h.few
 have hk:Keeps (fun k=>ow k=10+a) w w':=hA.keeps.mono (fun k _ e=>(h.rep a ha).2 k e)
 have hb:=h.but hk
 refine ⟨⟨hf,hb.mesh zj,hb.om,hb.peers zj,hb.op,hb.fly zj,hb.of,hb.notes zj,fun r hr=>⟨(hb.peer r hr).1 zj,(hb.peer r hr).2⟩,fun r hr=> ?_,fun r hr=>⟨(hb.disk r hr).1 zj,(hb.disk r hr).2⟩,hb.low,hb.high,hb.base,hb.guard zj⟩,hk⟩
 by_cases e:r=a
 ·subst e
  rw [aR,aR]
  refine ⟨hR,fun k q=> ?_⟩
  by_cases hk':k<w.heap.size
  ·rw [bT hk']
   rw [hA.hue k hk'] at q
   exact (h.rep r ha).2 k q
  refine iL zj ?_
  by_cases h2:k<w'.heap.size
  ·exact h2
  exact absurd (hR.high k zj) q
 rw [aK _ _ e,aK _ _ e]
 exact ⟨(hb.rep r hr).1 zj,(hb.rep r hr).2⟩
theorem MeshAt.diskAct (h:MeshAt gd B w ow n bm pv fv bp br d dv c K st N) (ha:a<n) {st':DSt} (hW:WroteD (d a) (dv a) w st' w'):∃v',MeshAt gd B w' (aD ow w w' (20+a)) n bm pv fv bp br d (aN dv a v') c K (aN st a st') N/\Keeps (fun k=>ow k=20+a) w w':=by
 obtain ⟨v',h1,h2,h3⟩:=hW
 have hf:=h.few
 have hk:Keeps (fun k=>ow k=20+a) w w':=h2.mono (fun k _ e=>(h.disk a ha).2 k e)
 have hb:=h.but hk
 refine ⟨v',⟨hf,hb.mesh zj,hb.om,hb.peers zj,hb.op,hb.fly zj,hb.of,hb.notes zj,fun r hr=>⟨(hb.peer r hr).1 zj,(hb.peer r hr).2⟩,fun r hr=>⟨(hb.rep r hr).1 zj,(hb.rep r hr).2⟩,fun r hr=> ?_,hb.low,hb.high,hb.base,hb.guard zj⟩,hk⟩
 by_cases e:r=a
 ·subst e
  rw [aR,aR]
  refine ⟨h1,fun k q=> ?_⟩
  rcases q with q | q
  ·exact (hb.disk r hr).2 k (.inl q)
  rcases h3 k q with p | p
  ·exact (hb.disk r hr).2 k (.inr p)
  exact iL p (h1.row.lt q)
 rw [aK _ _ e,aK _ _ e]
 exact ⟨(hb.disk r hr).1 zj,(hb.disk r hr).2⟩
theorem MeshAt.flyAct (h:MeshAt gd B w ow n bm pv fv bp br d dv c K st N) {N':List aO} (hk1:Keeps (fun k=>some k=fv.ownBlock) w w1) (hrow:w1.ownsRow B 175 8 v N'.length (aB bD N')) (hv:∀g,v.ownBlock=some g->fv.ownBlock=some g\/w.heap.size<=g) (hN:∀x∈N',NoteIn w ow n x):MeshAt gd B (w1.setCell ⟨bm,1,none⟩ v) (aD ow w w1 3) n bm pv v bp br d dv c K st N'/\Keeps (fun k=>ow k=3\/ow k=1) w (w1.setCell ⟨bm,1,none⟩ v):=by
 have hf:=h.few
 have hk:Keeps (fun k=>ow k=3) w w1:=hk1.mono (fun k _ e=>h.of k (Eq.symm e))
 have hb:=h.but hk
 have hs:=aY bm [v] 1 w1
 have hsz:(w1.setCell ⟨bm,1,none⟩ v).heap.size=w1.heap.size:=zq
 have hbm:∀ {k i:Nat},aD ow w w1 3 k=i->i≠1->i≠0->(w1.setCell ⟨bm,1,none⟩ v).heap[k]? =w1.heap[k]? :=fun {k i} e hi h0=>by
  have hkl:k<w1.heap.size:=by
   by_cases q:k<w1.heap.size
   ·exact q
   exact absurd (hb.high k zj) (by rw [e];exact h0)
  exact hs.block k hkl (fun q=>hi (by rw [<-e,q];exact hb.om))
 have hof:∀g,v.ownBlock=some g->aD ow w w1 3 g=3:=fun g hg=>by
  rcases hv g hg with q | q
  ·exact hb.of g q
  exact iL q (hrow.lt g hg).2
 refine ⟨⟨hf,(hb.mesh zj).set1 v,hb.om,au (hb.peers zj) (fun g hg=>hbm (hb.op g hg) zj zj),hb.op,au hrow (fun g hg=>hbm (hof g hg) zj zj),hof,fun x hx=> ?_,fun r hr=> ?_,fun r hr=> ?_,fun r hr=> ?_,hb.low,fun k hk=>hb.high k (by rw [hsz] at hk;exact hk),by rw [hsz];exact hb.base,fun k o e=>⟨(hb.guard zj k o e).1,(hbm (hb.guard zj k o e).1 zj zj).trans (hb.guard zj k o e).2⟩⟩,?_⟩
 ·have hn:=hN x hx
  have h4:∀g,(lE x).ownBlock=some g->aD ow w w1 3 g=4:=fun g hg=>(bT (h.in_ (by rw [hn.own g hg];omega))).trans (hn.own g hg)
  exact ⟨hn.from_,hn.to_,bg hn.ops (fun g hg=>(hbm (h4 g hg) zj zj).trans (hk.block g (h.in_ (by rw [hn.own g hg];omega)) (fun q=>by have q':ow g=3:=q;rw [hn.own g hg] at q';omega))),h4⟩
 ·obtain ⟨h1,h2⟩:=hb.peer r hr
  exact ⟨(h1 zj).same (hbm h2 zj zj),h2⟩
 ·obtain ⟨h1,h2⟩:=hb.rep r hr
  exact ⟨(h1 zj).keep qN (fun k _ e=>hbm (h2 k e) zj zj),h2⟩
 ·obtain ⟨h1,h2⟩:=hb.disk r hr
  exact ⟨(h1 zj).same (fun k e=>hbm (h2 k e) zj zj),h2⟩
 exact (hk.mono (fun k _ e=>.inl e)).then hs (fun k _ e=>.inr (by have e':k=bm:=e;rw [e'];exact h.om))
theorem MeshAt.lend (h:MeshAt gd B w ow n bm pv fv bp br d dv c K st N) (hb:Below w.heap.size w w'):MeshAt gd B w' (aD ow w w' 4) n bm pv fv bp br d dv c K st N/\∀k,w.heap.size<=k->k<w'.heap.size->aD ow w w' 4 k=4:=by
 have h':=h.later hb
 have hue:∀ {k i:Nat},ow k=i->i≠0->aD ow w w' 4 k=i:=fun {k i} e hi=>(bT (h.in_ yh)).trans e
 refine ⟨⟨h.few,h'.mesh,hue h.om zj,h'.peers,fun g hg=>hue (h.op g hg) zj,h'.fly,fun g hg=>hue (h.of g hg) zj,fun x hx=>⟨(h'.notes x hx).from_,(h'.notes x hx).to_,(h'.notes x hx).ops,fun g hg=>hue ((h.notes x hx).own g hg) zj⟩,fun r hr=>⟨(h'.peer r hr).1,hue (h.peer r hr).2 zj⟩,fun r hr=>⟨(h'.rep r hr).1,fun k e=>hue ((h.rep r hr).2 k e) zj⟩,fun r hr=>⟨(h'.disk r hr).1,fun k e=>hue ((h.disk r hr).2 k e) zj⟩,fun k q=> ?_,fun k q=> ?_,h'.base,fun k o e=>⟨hue (h.guard k o e).1 zj,(h'.guard k o e).2⟩⟩,fun k h1 h2=>iL h1 h2⟩
 ·by_cases e:k<w.heap.size
  ·rw [bT e] at q;exact h.low k q
  have:=h.base;omega
 have:=hb.size
 unfold aD
 exact kh5
theorem MeshAt.anew (h:MeshAt gd B w ow n bm pv fv bp br d dv c K st N) {a:Nat} (ha:a<n) {w1:World} {c':Nat->Nat} {b:Nat} {R':Rws} (hb:Below w.heap.size w w1) (hR:RepOwn w.heap.size w1 c' b (a:Int) R'):MeshAt gd B (w1.setCell ⟨bp a,0,none⟩ (.pointer (some ⟨b,0,none⟩))) (aD ow w w1 (10+a)) n bm pv fv bp (aN br a b) d dv (aN c a c') (aN K a R') st N/\Keeps (fun k=>ow k=30+a) w (w1.setCell ⟨bp a,0,none⟩ (.pointer (some ⟨b,0,none⟩))):=by
 have hf:=h.few
 have h':=h.later hb
 have hue:∀ {k i:Nat},ow k=i->i≠0->aD ow w w1 (10+a) k=i:=fun {k i} e hi=>(bT (h.in_ yh)).trans e
 obtain ⟨W,hW⟩:=za (w1.setCell ⟨bp a,0,none⟩ (.pointer (some ⟨b,0,none⟩)))
 have hs:Keeps (fun k=>k=bp a) w1 W:=by rw [hW];exact aY (bp a) [.pointer (some ⟨b,0,none⟩)] 0 w1
 have hsz:W.heap.size=w1.heap.size:=by rw [hW];simp
 have hbp:=(h.peer a ha).2
 have same:∀ {k i:Nat},ow k=i->i≠0->i≠30+a->W.heap[k]? =w1.heap[k]? :=fun {k i} e h0 hi=>hs.block k (jW (h.in_ (by rw [e];exact h0)) hb.size) (fun q=>hi (by have q':k=bp a:=q;rw [<-e,q',hbp]))
 rw [<-hW]
 refine ⟨⟨hf,(same h.om zj zj).trans h'.mesh,hue h.om zj,au h'.peers (fun g hg=>same (h.op g hg) zj zj),fun g hg=>hue (h.op g hg) zj,au h'.fly (fun g hg=>same (h.of g hg) zj zj),fun g hg=>hue (h.of g hg) zj,fun x hx=> ?_,fun r hr=> ?_,fun r hr=> ?_,fun r hr=> ?_,fun k q=> ?_,fun k q=> ?_,by rw [hsz];exact h'.base,fun k o e=>⟨hue (h.guard k o e).1 zj,(same (h.guard k o e).1 zj zj).trans (h'.guard k o e).2⟩⟩,?_⟩
 ·have hn:=h'.notes x hx
  exact ⟨hn.from_,hn.to_,bg hn.ops (fun g hg=>same (hn.own g hg) zj zj),fun g hg=>hue (hn.own g hg) zj⟩
 ·obtain ⟨h1,h2⟩:=h'.peer r hr
  by_cases e:r=a
  ·subst e
   rw [aR]
   exact ⟨by rw [hW];exact h1.set0 b,hue h2 zj⟩
  rw [aK _ _ e]
  exact ⟨h1.same (same h2 zj zj),hue h2 zj⟩
 ·by_cases e:r=a
  ·subst e
   rw [aR,aR,aR]
   refine ⟨(hR.down h.base).keep qN (fun k hk q=> ?_),fun k q=> ?_⟩
   ·refine hs.block k hk (fun p=> ?_)
    have p':k=bp r:=p
    have:=hR.low k q
    have:=h.in_ (k:=bp r) (by rw [hbp];omega)
    omega
   refine iL (hR.low k q) ?_
   by_cases h2:k<w1.heap.size
   ·exact h2
   exact absurd (hR.high k zj) q
  rw [aK _ _ e,aK _ _ e,aK _ _ e]
  obtain ⟨h1,h2⟩:=h'.rep r hr
  exact ⟨h1.keep qN (fun k _ q=>same (h2 k q) zj zj),fun k q=>hue (h2 k q) zj⟩
 ·obtain ⟨h1,h2⟩:=h'.disk r hr
  exact ⟨h1.same (fun k q=>same (h2 k q) zj zj),fun k q=>hue (h2 k q) zj⟩
 ·by_cases e:k<w.heap.size
  ·rw [bT e] at q;exact h.low k q
  have:=h.base;omega
 ·have:=hb.size
  unfold aD
  exact kh5
 exact ((aV hb).mono (fun k hk q=>absurd hk (by have q':w.heap.size<=k:=q;omega))).then hs (fun k _ e=>by have e':k=bp a:=e;rw [e'];exact hbp)
theorem MeshAt.below (h:MeshAt gd B w ow n bm pv fv bp br d dv c K st N) {w':World} {S:Nat->Prop} (hk:Keeps S w w') (hS:∀k,S k->ow k≠0):Below B w w':=hk.below h.base (fun k e=>h.low k (hS k e))
theorem MeshAt.note (h:MeshAt gd B w ow n bm pv fv bp br d dv c K st N) {x:aO} (hx:NoteIn w ow n x) {w2:World} {S:Nat->Prop} (hk:Keeps S w w') (hS:∀k,S k->ow k≠4) (j:Nat):NoteIn w' (aD ow w w2 j) n x:=by
 have hl:∀g,(lE x).ownBlock=some g->g<w.heap.size:=fun g hg=>h.in_ (by rw [hx.own g hg];omega)
 exact ⟨hx.from_,hx.to_,bg hx.ops (fun g hg=>hk.block g (hl g hg) (fun q=>hS g q (hx.own g hg))),fun g hg=>(bT (hl g hg)).trans (hx.own g hg)⟩
theorem NoteIn.later {x:aO} (hx:NoteIn w ow n x) {w':World} (hb:Below w.heap.size w w'):NoteIn w' ow n x:=⟨hx.from_,hx.to_,hx.ops.later hb,hx.own⟩
theorem MeshAt.ward (h:MeshAt gd B w ow n bm pv fv bp br d dv c K st N) (hb:Below w.heap.size w w') (hq:w.heap.size<=q) (ho:w'.heap[q]? =some o):MeshAt (fun k=>if k=q then some o else gd k) B w' (fun k=>if k=q then 5 else ow k) n bm pv fv bp br d dv c K st N:=by
 have h':=h.later hb
 have hue:∀ {k i:Nat},ow k=i->i≠0->(if k=q then 5 else ow k)=i:=fun {k i} e hi=>by
  rw [if_neg (fun e'=>by have:=h.in_ (k:=k) yh;omega)];exact e
 refine ⟨h.few,h'.mesh,hue h.om zj,h'.peers,fun g hg=>hue (h.op g hg) zj,h'.fly,fun g hg=>hue (h.of g hg) zj,fun x hx=>⟨(h'.notes x hx).from_,(h'.notes x hx).to_,(h'.notes x hx).ops,fun g hg=>hue ((h.notes x hx).own g hg) zj⟩,fun r hr=>⟨(h'.peer r hr).1,hue (h.peer r hr).2 zj⟩,fun r hr=>⟨(h'.rep r hr).1,fun k e=>hue ((h.rep r hr).2 k e) zj⟩,fun r hr=>⟨(h'.disk r hr).1,fun k e=>hue ((h.disk r hr).2 k e) zj⟩,fun k e=> ?_,fun k e=> ?_,h'.base,fun k o' e=> ?_⟩
 ·by_cases e':k=q
  ·have:=h.base;omega
  rw [if_neg e'] at e;exact h.low k e
 ·have hql:=(jJ.1 ho).1
  rw [if_neg zj]
  exact h.high k (jM hb.size e)
 by_cases e':k=q
 ·subst e'
  rw [if_pos rfl] at e |-
  cases e
  exact ⟨rfl,ho⟩
 rw [if_neg e'] at e |-
 exact h'.guard k o' e
theorem MeshAt.free (h:MeshAt gd B w ow n bm pv fv bp br d dv c K st N) (hq:ow q=5) (hk:Keeps (fun k=>k=q) w w') (hg:∀k o,gd' k=some o->gd k=some o/\k≠q):MeshAt gd' B w' ow n bm pv fv bp br d dv c K st N:=by
 have same:∀ {k i:Nat},ow k=i->i≠0->i≠5->w'.heap[k]? =w.heap[k]? :=fun {k i} e hi h5=>hk.block k (h.in_ yh) (fun p=>h5 (by have p':k=q:=p;rw [<-e,p',hq]))
 exact ⟨h.few,(same h.om zj zj).trans h.mesh,h.om,au h.peers (fun g hg=>same (h.op g hg) zj zj),h.op,au h.fly (fun g hg=>same (h.of g hg) zj zj),h.of,fun x hx=>⟨(h.notes x hx).from_,(h.notes x hx).to_,bg (h.notes x hx).ops (fun g hg=>same ((h.notes x hx).own g hg) zj zj),(h.notes x hx).own⟩,fun r hr=>⟨(h.peer r hr).1.same (same (h.peer r hr).2 zj zj),(h.peer r hr).2⟩,fun r hr=>⟨(h.rep r hr).1.keep hk.size (fun k _ e=>same ((h.rep r hr).2 k e) zj (by have:=h.few;omega)),(h.rep r hr).2⟩,fun r hr=>⟨(h.disk r hr).1.same (fun k e=>same ((h.disk r hr).2 k e) zj zj),(h.disk r hr).2⟩,h.low,fun k hq=>h.high k (jM hk.size hq),jM h.base hk.size,fun k o e=>⟨(h.guard k o (hg k o e).1).1,(hk.block k (h.in_ (by rw [(h.guard k o (hg k o e).1).1];omega)) (hg k o e).2).trans (h.guard k o (hg k o e).1).2⟩⟩
end
def MeshS (gd:Nat->Option Obj) (B n bm:Nat) (K:Nat->Rws) (st:Nat->DSt) (N:List aO) (w:World):Prop:=∃ow pv fv bp br d dv c,MeshAt gd B w ow n bm pv fv bp br d dv c K st N
theorem MeshS.ward {gd:Nat->Option Obj} {B n bm:Nat} {K:Nat->Rws} {st:Nat->DSt} {N:List aO} {w w':World} (h:MeshS gd B n bm K st N w) (hb:Below w.heap.size w w') {q:Nat} {o:Obj} (hq:w.heap.size<=q) (ho:w'.heap[q]? =some o):MeshS (fun k=>if k=q then some o else gd k) B n bm K st N w':=by
 obtain ⟨ow,pv,fv,bp,br,d,dv,c,hm⟩:=h
 exact ⟨_,_,_,_,_,_,_,_,hm.ward hb hq ho⟩
theorem MeshS.held {st:Nat->DSt} {N:List aO} (h:MeshS gd B n bm K st N w) (hq:gd q=some o):w.heap[q]? =some o:=by
 obtain ⟨ow,pv,fv,bp,br,d,dv,c,hm⟩:=h
 exact (hm.guard q o hq).2
theorem MeshS.free {gd gd':Nat->Option Obj} {B n bm:Nat} {K:Nat->Rws} {st:Nat->DSt} {N:List aO} {w w':World} (h:MeshS gd B n bm K st N w) {q:Nat} {o:Obj} (hq:gd q=some o) (hk:Keeps (fun k=>k=q) w w') (hg:∀k o,gd' k=some o->gd k=some o/\k≠q):MeshS gd' B n bm K st N w':=by
 obtain ⟨ow,pv,fv,bp,br,d,dv,c,hm⟩:=h
 exact ⟨_,_,_,_,_,_,_,_,hm.free (hm.guard q o hq).1 hk hg⟩
theorem MeshS.later {gd:Nat->Option Obj} {B n bm:Nat} {K:Nat->Rws} {st:Nat->DSt} {N:List aO} {w w':World} (h:MeshS gd B n bm K st N w) (hb:Below w.heap.size w w'):MeshS gd B n bm K st N w':=by
 obtain ⟨ow,pv,fv,bp,br,d,dv,c,hm⟩:=h
 exact ⟨_,_,_,_,_,_,_,_,hm.later hb⟩
end
section
open Go.RowKit Go.Lib Go.Sort Go.Maps
open scoped Classical
def x0:OpX:=(1,2,1,109,6,0,⟨#[97]⟩,⟨#[]⟩)
theorem wH (m:Mov) (hne:m.2.1≠m.2.2.1):aH [m]=upd pU m.2.1 (some m.2):=by
 show step pU m=_
 exact eQ (fun hi=>hi.elim hne (fun h=>AK rfl h))
end
section
open Go.RowKit Go.Lib Go.Sort Go.Maps
open scoped Classical
theorem iP (h:∀x∈S,bY x=0) (k:KnownN S nd):2<=nd:=by
 obtain ⟨x,hx,k1,k2,k3⟩:=k
 have:=(fZ (h x hx)).2.2.2.2.1 k1
 omega
theorem En (x:OpX):bY x<=5:=by
 unfold bY opE kB cR nH oM oQ
 repeat (first | omega | split)
theorem AA {n:Int} {L:List Ltr} {id:Int} (h:atL n L=(id,true)):id∈L.map (·.1):=by
 unfold atL at h
 split at h
 ·split at h
  ·rename_i l hl
   cases h
   exact vp.2 ⟨l,(uN.1 (jT hl)).1,rfl⟩
  cases h
 cases h
theorem iO {o:Int} {v:ByteArray} (he:bY (bE T i (R i).length kd nd o s v)=0) (hr:RefOk (bE T i (R i).length kd nd o s v::aX R) (bE T i (R i).length kd nd o s v)):NextOp R i T (bE T i (R i).length kd nd o s v):=⟨he,rfl,rfl,rfl,hr⟩
theorem iT {m:Nat} {o:Int} {v:ByteArray} (h:nd≠0):aG (bE T i m kd nd o s v)=nd:=if_neg h
section
variable {B:Nat} {ad:Nat→Addr} (w:World) (c:Nat→Nat) (br:Nat) (i:Nat) (R:Rws)
end
end
section
open Go.RowKit Go.Lib Go.Sort Go.Maps
open scoped Classical
end
section
open Go.RowKit Go.Lib Go.Sort Go.Maps
open scoped Classical
def IR (ad:Nat->Addr) (w:World) (R:Rws) (i:Nat) (P:OpX->Nat->Prop) (e:Ending) (w':World):Prop:=∃(y:OpX) (cd:Nat),e= .returned (.tuple #[ar y,eV ad cd])/\Aside (Below w.heap.size w w'/\cd<=12/\((cd≠0/\y=aT)\/(cd=0/\∃T,cD (aX R) T/\NextOp R i T y)))/\Aside (P y cd)
end
section
open Go.RowKit Go.Lib Go.Sort Go.Maps
open scoped Classical
def x4:OpX:=(1,0,1,109,4,0,⟨#[97]⟩,⟨#[]⟩)
theorem iY (h:R=fun _=>[]):aX R= []:=by rw [h];rfl
theorem JH (h:R=fun _=>[]) (ht:cD (aX R) T):T=0:=by
 rw [iY h] at ht
 rcases ht.2.1 with q | ⟨x,hx,_⟩
 ·exact q
 simp at hx
