import Derived.Test.YtebpcnkdhgnghaaGreatDoorMacB
import Derived.Test.YtebpcnkdhgnghaaGreatDoorProg
import Derived.Shelf.Spec.SlicesInsertGrow
import Derived.OrdersHeld
import Derived.OrdersIn
import Derived.RangeFuncCalls
import Derived.WalkSpells
import Derived.Lib.Hide
set_option linter.unusedSimpArgs false
set_option linter.unusedVariables false
set_option maxRecDepth 100000
set_option maxHeartbeats 64000000
section
namespace Go.Proofs.YtebpcnkdhgnghaaGreatDoor
open Go Go.RowKit
variable {vs xs:List Value} {B base g i k n:Nat} {E:TypeId} {a b w w':World}
structure Keeps (S:Nat->Prop) (w w':World):Prop where
 os:w'.os=w.os
 tape:w'.tape=w.tape
 output:w'.output=w.output
 size:w.heap.size<=w'.heap.size
 block:∀k,k<w.heap.size->¬S k->w'.heap[k]? =w.heap[k]?
theorem Keeps.refl (S:Nat->Prop) (w:World):Keeps S w w:=⟨rfl,rfl,rfl,vB _,fun _ _ _=>rfl⟩
theorem Keeps.trans {S:Nat->Prop} {a b c:World} (h:Keeps S a b) (k:Keeps S b c):Keeps S a c:=
 ⟨k.os.trans h.os,k.tape.trans h.tape,k.output.trans h.output,vI h.size k.size,fun i hi hs=>(k.block i (vV hi h.size) hs).trans (h.block i hi hs)⟩
theorem Keeps.then {S T:Nat->Prop} {c:World} (h:Keeps S a b) (k:Keeps T b c) (hT:∀i,i<a.heap.size->T i->S i):Keeps S a c:=
 ⟨k.os.trans h.os,k.tape.trans h.tape,k.output.trans h.output,vI h.size k.size,fun i hi hs=>(k.block i (vV hi h.size) (fun ht=>hs (hT i hi ht))).trans (h.block i hi hs)⟩
theorem Keeps.mono {S T:Nat->Prop} (h:Keeps S w w') (hs:∀k,k<w.heap.size->S k->T k):Keeps T w w':=
 ⟨h.os,h.tape,h.output,h.size,fun k hk ht=>h.block k hk (fun e=>ht (hs k hk e))⟩
theorem aV {row:Option Nat} (h:w.grownBy w' row):Keeps (fun k=>some k=row) w w':=
 ⟨h.os,h.tape,h.output,h.size,fun k hk hs=>h.block k hk hs⟩
theorem aX (h:Below B w w'):Keeps (fun k=>B<=k) w w':=
 ⟨h.os,h.tape,h.output,h.size,fun k _ hs=>h.block k zj⟩
theorem Keeps.below {S:Nat->Prop} (h:Keeps S w w') (hB:B<=w.heap.size) (hs:∀k,S k->B<=k):Below B w w':=
 ⟨h.os,h.tape,h.output,h.size,fun k hk=>h.block k zj (fun e=>by have:=hs k e;omega)⟩
theorem Keeps.drew {S:Nat->Prop} {w w':World} (h:Keeps S w w'):Keeps S w w'.drew:=⟨h.os,h.tape,h.output,h.size,h.block⟩
theorem Keeps.alloc {S:Nat->Prop} {w w':World} (h:Keeps S w w') (o:Obj):Keeps S w (w'.alloc o):=
 h.then (aV (World.grownBy_alloc w' o none)) (fun _ _ e=>yE)
theorem Keeps.cell {S:Nat->Prop} {w w':World} (h:Keeps S w w') {a:Addr} (ha:a.block<w.heap.size) (hs:¬S a.block):w'.cell? a=w.cell? a:=uc (h.block _ ha hs)
def Cb (c:Array Value):Nat->List Value->Array Value
 | _,[]=>c
 | o,v::r=>Cb (c.setIfInBounds o v) (o+1) r
theorem eA:∀(vs:List Value) (o:Nat) (c:Array Value),(Cb c o vs).size=c.size
 | [],_,_=>rfl
 | v::r,o,c=>by rw [Cb,eA r];simp
theorem eC:∀(vs A B C:List Value) (c:Array Value),c.toList=A++B++C->B.length=vs.length->(Cb c A.length vs).toList=A++vs++C
 | [],A,B,C,c,h,hl=>by
  have:B= []:=vZ.1 hl;subst this;simpa [Cb] using h
 | v::r,A,[],C,c,h,hl=>xW
 | v::r,A,b::B,C,c,h,hl=>by
  have ih:=eC r (A++ [v]) B C (c.setIfInBounds A.length v) xQ qi;rw [Cb];simpa using ih
theorem bW (b:Nat):∀(vs:List Value) (o:Nat) (w:World) (c:Array Value) (t:TypeId),w.heap[b]? =some (.cells c t (0,0))->(w.setCells b o vs).heap[b]? =some (.cells (Cb c o vs) t (0,0))
 | [],_,_,_,_,h=>h
 | v::r,o,w,c,t,h=>bW b r (o+1) _ _ t (heap_setCell_same w b o c t v h)
theorem eL (b:Nat):∀(vs:List Value) (o:Nat) (w:World) (k:Nat),k≠b->(w.setCells b o vs).heap[k]? =w.heap[k]?
 | [],_,_,_,_=>rfl
 | v::r,o,w,k,h=>by rw [World.setCells,eL b r _ _ k h];exact heap_setCell_other w ⟨b,o,none⟩ k v h
theorem aZ (b:Nat):∀(vs:List Value) (o:Nat) (w:World),Keeps (fun k=>k=b) w (w.setCells b o vs)
 | [],_,w=>Keeps.refl _ w
 | v::r,o,w=>by
  refine Keeps.trans (b:=w.setCell ⟨b,o,none⟩ v) ⟨rfl,rfl,rfl,?_,fun k _ hk=>heap_setCell_other w ⟨b,o,none⟩ k v hk⟩ (aZ b r (o+1) _);simp [World.setCell]
theorem cG {P:Program} (w:World) (dT sT ty elem:TypeId) (k b o dLen dCap:Nat) (a:Addr) (sLen sCap:Nat) (cs:List Value)
  (hu:P.underlying dT=some (.slice elem)) (hs:(P.info? elem).map (·.size)=some k) (hn:cs.length=Nat.min sLen dLen*k)
  (hsrc:∀j v,cs[j]? =some v->w.cell? (a.add j)=some v) (hc:∀j,j<cs.length->(w.cell? ⟨b,o+j,none⟩).isSome=true) (hf:∀j,j<cs.length->w.frozen? ⟨b,o+j,none⟩=false) (h1:∀v∈cs,v.oneCell'=true):
  (Builtin.copy_ #[dT,sT] ty #[.slice (some ⟨b,o,none⟩) dLen dCap,.slice (some a) sLen sCap]).run P w= .ok (goInt (Nat.min sLen dLen)) (w.setCells b o cs):=by
 have hl:=run_loadCells_list (P:=P) w a cs hsrc;have hst:=run_storeCells_cells (P:=P) b o cs 0 w (by simpa using hc) (by simpa using hf) h1
 cases hq:P.info? elem with
 | none=>simp [hq] at hs
 | some i=>
  have hi:i.size=k:=by simpa [hq] using hs
  simp only [uZ] at hst;simp [Builtin.copy_,run_underlying hu,Builtin.lenOf,Builtin.firstCells,sizeOf,typeInfo,hq,hi,<-hn,hl,hst]
theorem wT {cap:Nat} (h:w.ownsRow base E k (.slice (some ⟨g,0,none⟩) n cap) n xs) (hroom:n+1<=cap) (hi:i<=n) (hv:vs.length=k):
  ((w.setCells g ((i+1)*k) (xs.drop (i*k))).setCells g (i*k) vs).ownsRow base E k (.slice (some ⟨g,0,none⟩) (n+1) cap) (n+1) (xs.take (i*k)++vs++xs.drop (i*k)):=by
 obtain ⟨hl,h2⟩:=h
 rcases h2 with ⟨hc,_⟩ | ⟨g',cap',cur,hc,hb,hg,hn,hm,hs,ht⟩
 ·cases hc
 cases hc
 have hik:i*k<=n*k:=uC k hi;have hnk:(n+1)*k=n*k+k:=xZ;have hi1:(i+1)*k=i*k+k:=xZ;have hck:(n+1)*k<=cap*k:=uC k hroom
 have hcl:cur.toList.length=cap*k:=by simpa using hs
 have hcur:cur.toList=xs++cur.toList.drop (n*k):=by
  conv=>lhs;rw [<-ui (n*k) cur.toList]
  rw [ht]
 obtain ⟨C,hC⟩:=zc (cur.toList.drop (n*k));rw [<-hC] at hcur
 have hCl:C.length=cap*k - n*k:=by rw [hC,ur,hcl]
 have hdl:(xs.drop (i*k)).length=n*k - i*k:=by rw [ur,hl]
 have htl:(xs.take (i*k)).length=i*k:=by rw [vW,hl];omega
 have hg1:=bW g (xs.drop (i*k)) ((i+1)*k) w cur E hg
 have e1:(cur.toList.take ((i+1)*k)).length=(i+1)*k:=by rw [vW,hcl];omega
 have o1:=eC (xs.drop (i*k)) (cur.toList.take ((i+1)*k)) ((cur.toList.drop ((i+1)*k)).take (n*k - i*k)) ((cur.toList.drop ((i+1)*k)).drop (n*k - i*k)) cur
  (by rw [uj,ui,ui]) (by rw [vW,ur,hdl,hcl];omega)
 rw [e1] at o1;obtain ⟨c1,hc1⟩:=zc (Cb cur ((i+1)*k) (xs.drop (i*k)));rw [<-hc1] at o1 hg1
 have hs1:c1.size=cap*k:=by rw [hc1,eA,hs]
 have hg2:=bW g vs (i*k) _ c1 E hg1
 have hA:cur.toList.take ((i+1)*k)=xs.take (i*k)++(cur.toList.drop (i*k)).take k:=by
  rw [hi1,List.take_add];congr 1;rw [hcur,ux zj]
 have o2:=eC vs (xs.take (i*k)) ((cur.toList.drop (i*k)).take k) (xs.drop (i*k)++(cur.toList.drop ((i+1)*k)).drop (n*k - i*k)) c1
  (by rw [o1,hA];simp [uj]) (by rw [vW,ur,hcl,hv];omega)
 rw [htl] at o2;refine ⟨?_,.inr ⟨g,cap,_,rfl,hb,hg2,hroom,hm,by rw [eA,hs1],?_⟩⟩
 ·rw [vN,vN,htl,hv,hdl];omega
 rw [o2,<-uj,ux xC,vT xC]
theorem CD {G:Nat} {Z:List Value} {row:Array Value} (hg:w.heap[g]? =some (.cells row E (0,0))) (hrow:row.toList=xs.take (i*k)++Z) (hs:row.size=G*k)
  (hb:base<=g) (hroom:n+1<=G) (hm:G<=maxLen) (hi:i<=n) (hl:xs.length=n*k) (hv:vs.length=k):
  ((w.setCells g (i*k) vs).setCells g ((i+1)*k) (xs.drop (i*k))).ownsRow base E k (.slice (some ⟨g,0,none⟩) (n+1) G) (n+1) (xs.take (i*k)++vs++xs.drop (i*k)):=by
 have hik:i*k<=n*k:=uC k hi;have hnk:(n+1)*k=n*k+k:=xZ;have hi1:(i+1)*k=i*k+k:=xZ;have hck:(n+1)*k<=G*k:=uC k hroom
 have hdl:(xs.drop (i*k)).length=n*k - i*k:=by rw [ur,hl]
 have htl:(xs.take (i*k)).length=i*k:=by rw [vW,hl];omega
 have hZl:Z.length=G*k - i*k:=by
  have:row.toList.length=G*k:=by simpa using hs
  rw [hrow,vN,htl] at this;omega
 have hg1:=bW g vs (i*k) w row E hg;have o1:=eC vs (xs.take (i*k)) (Z.take k) (Z.drop k) row (by rw [hrow,uj,ui]) (by rw [vW,hZl,hv];omega);rw [htl] at o1;obtain ⟨c1,hc1⟩:=zc (Cb row (i*k) vs);rw [<-hc1] at o1 hg1
 have hs1:c1.size=G*k:=by rw [hc1,eA,hs]
 have hg2:=bW g (xs.drop (i*k)) ((i+1)*k) _ c1 E hg1
 have hal:(xs.take (i*k)++vs).length=(i+1)*k:=by rw [vN,htl,hv,hi1]
 have o2:=eC (xs.drop (i*k)) (xs.take (i*k)++vs) ((Z.drop k).take (n*k - i*k)) ((Z.drop k).drop (n*k - i*k)) c1
  (by rw [o1];simp only [uj,ui]) (by rw [vW,ur,hZl,hdl];omega)
 rw [hal] at o2;refine ⟨?_,.inr ⟨g,G,_,rfl,hb,hg2,hroom,hm,by rw [eA,hs1],?_⟩⟩
 ·rw [vN,hal,hdl];omega
 rw [o2,ux jT,vT jT]
end Go.Proofs.YtebpcnkdhgnghaaGreatDoor
end
section
namespace Go.Proofs.YtebpcnkdhgnghaaGreatDoor
open Go
section
variable {α:Type} {enc:α→List Value} {k:Nat}
def aI (enc:α->List Value) (L:List α):List Value:=L.flatMap enc
theorem JO:aI enc []= []:=rfl
theorem ef (x:α) (L:List α):aI enc (x::L)=enc x++aI enc L:=rfl
theorem ah (L M:List α):aI enc (L++M)=aI enc L++aI enc M:=by simp [aI]
theorem bX (hk:∀x,(enc x).length=k):∀L:List α,(aI enc L).length=L.length*k
 | []=>by simp [aI]
 | x::L=>by rw [ef,vN,hk,bX hk L,ud,Nat.succ_mul];omega
theorem iW (hk:∀x,(enc x).length=k) (L:List α) (i:Nat) (hi:i<=L.length):(aI enc L).take (i*k)=aI enc (L.take i):=by
 conv=>lhs;rw [<-ui i L]
 rw [ah,ux yJ,vT yJ]
theorem dB (hk:∀x,(enc x).length=k) (L:List α) (i:Nat) (hi:i<=L.length):(aI enc L).drop (i*k)=aI enc (L.drop i):=by
 conv=>lhs;rw [<-ui i L]
 rw [ah,List.drop_append_of_le_length yJ,Za yJ];rfl
theorem cX (hk:∀x,(enc x).length=k) {L:List α} {i c:Nat} {x:α} (hx:L[i]? =some x) (hc:c<k):(aI enc L)[i*k+c]? =(enc x)[c]? :=by
 obtain ⟨hil,hie⟩:=vA.1 hx
 have h1:(aI enc L)[i*k+c]? =((aI enc L).drop (i*k))[c]? :=by rw [uP]
 rw [h1,dB hk L i zj,uK hil,hie,ef,ZJ (by rw [hk];exact hc)]
theorem AC (hk:∀x,(enc x).length=k) (L:List α) (i:Nat) (hi:i<=L.length) (x:α):aI enc (L.take i++x::L.drop i)=(aI enc L).take (i*k)++enc x++(aI enc L).drop (i*k):=by
 rw [ah,ef,iW hk L i hi,dB hk L i hi,uj]
theorem dV (hk:∀x,(enc x).length=k) (L:List α) (i:Nat) (hi:i<L.length) (x:α):aI enc (L.set i x)=(aI enc L).take (i*k)++enc x++(aI enc L).drop ((i+1)*k):=by
 rw [List.set_eq_take_append_cons_drop,if_pos hi,ah,ef,iW hk L i zj,dB hk L (i+1) zj,uj]
theorem fb (h1:∀x,∀v∈enc x,v.oneCell'=true) (L:List α):∀v∈aI enc L,v.oneCell'=true:=by
 intro v hv;obtain ⟨x,_,hx⟩:=List.mem_flatMap.1 hv;exact h1 x v hx
end
theorem fg {w:World} {base k g n cap:Nat} {E:TypeId} {A B C vs:List Value} (h:w.ownsRow base E k (.slice (some ⟨g,0,none⟩) n cap) n (A++B++C)) (hl:B.length=vs.length):
  (w.setCells g A.length vs).ownsRow base E k (.slice (some ⟨g,0,none⟩) n cap) n (A++vs++C):=by
 obtain ⟨hlen,h2⟩:=h
 rcases h2 with ⟨hc,_⟩ | ⟨g',cap',cur,hc,hb,hg,hn,hm,hs,ht⟩
 ·cases hc
 cases hc
 have hlen':(A++vs++C).length=n*k:=by rw [<-hlen];simp [hl]
 refine ⟨hlen',.inr ⟨g,cap,_,rfl,hb,bW g vs A.length w cur E hg,hn,hm,by rw [eA,hs],?_⟩⟩
 have hcur:cur.toList=A++B++(C++cur.toList.drop (n*k)):=by
  conv=>lhs;rw [<-ui (n*k) cur.toList]
  rw [ht];simp
 rw [eC vs A B _ cur hcur hl,<-uj,ux zj,vT zj]
end Go.Proofs.YtebpcnkdhgnghaaGreatDoor
end
section
namespace Go.Proofs.YtebpcnkdhgnghaaGreatDoor
open Go
theorem rA {P:Program} (w:World) (base:Nat) (t ty e:TypeId) (i:TypeInfo) (z:Value) (size bytes:Nat) (ht:P.underlying t=some (.slice e)) (hi:P.info? e=some i) (hz:i.zero=some z)
  (hsize:i.size=size) (hby:i.bytes=bytes) (hzs:z.cells.size=size) (hsz:0<size)
  (v:Value) (n:Nat) (xs:List Value) (hown:w.ownsRow base e size v n xs)
  (a:Addr) (m c:Nat) (hm0:0<m) (news:List Value) (hl:news.length=m*size) (hnews:∀j u,news[j]? =some u->w.cell? (a.add j)=some u) (h1:∀u∈news,u.oneCell'=true)
  (h63:n+m<=maxLen) (hbytes:(n+m)*bytes<=140737488355328) (hbase:base<=w.heap.size):
  ∃v' w',(Builtin.append_ #[t,t] ty #[v,.slice (some a) m c]).run P w= .ok v' w'/\w'.ownsRow base e size v' (n+m) (xs++news)/\w.grownBy w' v.ownBlock/\
   (v'.ownBlock=v.ownBlock\/v'.ownBlock=some w.heap.size):=by
 obtain ⟨v',w',hrun,h',hg',-⟩:=run_append_own (P:=P) w base t ty e i z size bytes ht hi hz hsize hby hzs hsz v n xs hown a m c news hl hnews h1 h63 hbytes hbase;refine ⟨v',w',hrun,h',hg',?_⟩;subst hsize;subst hby
 have hsmall:n+m<=9223372036854775807:=by simp only [maxLen] at h63;omega
 rcases hown.2 with ⟨rfl,rfl⟩ | ⟨g,cap,cur,rfl,hbg,hg,hnc,hcm,hcs,htake⟩
 ·have hr:=run_append_nil (P:=P) w t ty e i z ht hi hz a m c news hl hnews zj zj xN;exact ko6
 by_cases hroom:n+m<=cap
 ·have hfit:n*i.size+news.length<=cur.size:=by rw [hl,hcs,<-Zz];exact uC _ hroom
  have hr:=run_append_room (P:=P) w t ty e i ht hi g n cap cur hg a m c news hl hnews h1 hroom hfit;rw [hr] at hrun;simp only [Result.ok.injEq] at hrun;left;rw [<-hrun.1];rfl
 have holds:∀j u,xs[j]? =some u->w.cell? ((⟨g,0,none⟩:Addr).add j)=some u:=hown.cells (g:=g) rfl;have hr:=run_append_grow (P:=P) w t ty e i z ht hi hz ⟨g,0,none⟩ n cap xs hown.1 holds a m c news hl hnews zj zj (growslice_fits zj hbytes);exact ko6
end Go.Proofs.YtebpcnkdhgnghaaGreatDoor
end
section
namespace Go.Proofs.YtebpcnkdhgnghaaGreatDoor
open Go.Proofs.Tryz
open Go.Shelf Go.RowKit Go.Lib
theorem tA:(prog.info? 282).map (fun i=>(i.zero,i.size,i.bytes))=some (some (.agg #[.int .i64 0,.int .u8 0,.bool false]),3,16):=zo
def td (w:World) (base:Nat) (v:Value) (n:Nat) (ys:List Value) (e:Ending) (w':World):Prop:=
 ∃v',e= .returned v'/\w'.ownsRow base 282 3 v' (n+1) ys/\Keeps (fun k=>some k=v.ownBlock) w w'/\(v'.ownBlock=v.ownBlock\/v'.ownBlock=some w.heap.size)
theorem tu (w:World) (base:Nat) (v:Value) (n:Nat) (xs vs:List Value) (hown:w.ownsRow base 282 3 v n xs) (hn:n<=1000) (vb:Nat) (hv:vs.length=3)
  (hvs:∀j u,vs[j]? =some u->w.cell? ⟨vb,j,none⟩=some u) (h1v:∀u∈vs,u.oneCell'=true) (hbase:base<=w.heap.size):
  Calls prog 205 #[v,.int .i64 n,.slice (some ⟨vb,0,none⟩) 1 1] w (td w base v n (xs++vs)):=by
 obtain ⟨i0,hi,hz0,hz1,hz2⟩:=info_parts tA
 obtain ⟨v',w',hrun,ho,hg,hb⟩:=rA (P:=prog) w base 278 278 282 i0 _ 3 16 underlying278 hi hz0 hz1 hz2 rfl zj v n xs hown ⟨vb,0,none⟩ 1 1 zj vs zj
  (fun j u hj=>jq) h1v zA zj hbase
 have hfin:Aside (td w base v n (xs++vs) (.returned v') w'):=⟨v',rfl,ho,aV hg,hb⟩
 rcases hown.2 with ⟨rfl,rfl⟩ | ⟨g,cap,cur,rfl,hbg,hgb,hnc,hcm,hcs,htake⟩
 ·clear hown ho hg hb hvs h1v;go_enter func205,ntmps205;exact kk4
 clear hown ho hg hb hvs h1v htake hcs hgb hbg;go_enter func205,ntmps205;go_wp2_with (at_builtin;refine Lib.wpList_append_run _ rfl _ _ _ _ rfl _ _ rfl rfl _ _ hrun ?_)
 all_goals (go_ret;exact hfin.o)
theorem sY (w:World) (base g n cap i:Nat) (xs vs:List Value) (hown:w.ownsRow base 282 3 (.slice (some ⟨g,0,none⟩) n cap) n xs) (hn:n<=1000) (vb:Nat) (hv:vs.length=3)
  (hvs:∀j u,vs[j]? =some u->w.cell? ⟨vb,j,none⟩=some u) (h1v:∀u∈vs,u.oneCell'=true) (h1x:∀u∈xs,u.oneCell'=true) (hvb:vb≠g) (hsa:w.shape? vb=some (282,3)) (hfa:∀j,w.frozen? ⟨vb,j,none⟩=false)
  (hi:i<n) (hroom:n+1<=cap):
  Calls prog 205 #[.slice (some ⟨g,0,none⟩) n cap,.int .i64 i,.slice (some ⟨vb,0,none⟩) 1 1] w (td w base (.slice (some ⟨g,0,none⟩) n cap) n (xs.take (i*3)++vs++xs.drop (i*3))):=by
 have hL:Aside (∀W:World,W.heap=w.heap->W.os=w.os->W.tape=w.tape->W.output=w.output->td w base (.slice (some ⟨g,0,none⟩) n cap) n (xs.take (i*3)++vs++xs.drop (i*3)) (.returned (.slice (some ⟨g,0,none⟩) (n+1) cap)) ((W.setCells g ((i+1)*3) (xs.drop (i*3))).setCells g (i*3) vs)):=by
  intro W h0 h2 h3 h4;have hownW:W.ownsRow base 282 3 (.slice (some ⟨g,0,none⟩) n cap) n xs:=vg;have k1:=(aZ g (xs.drop (i*3)) ((i+1)*3) W).trans (aZ g vs (i*3) _);exact kf9
 obtain ⟨hxl,h2⟩:=hown
 rcases h2 with ⟨hc,_⟩ | ⟨g',cap',cur,hc,hbg,hgb,hnc,hcm,hcs,htake⟩
 ·cases hc
 cases hc
 have hcm':cap<=9223372036854775807:=by simp only [maxLen] at hcm;omega
 have hsp:∀j,j<(n+1)*3->(w.cell? ⟨g,j,none⟩).isSome=true:=fun j hj=>by
  have:j<cur.size:=by rw [hcs];omega
  simp [World.cell?,hgb,this]
 have hfz:∀j,w.frozen? ⟨g,j,none⟩=false:=fun j=>by simp [World.frozen?,hgb]
 have hcell:∀j u,xs[j]? =some u->w.cell? ⟨g,j,none⟩=some u:=fun j u hj=>by
  exact kd7
 have hsb:w.shape? g=some (282,cap*3):=by simp [World.shape?,hgb,hcs]
 have hsz:(prog.info? 282).map (·.size)=some 3:=by
  obtain ⟨i0,hi0,_,h1,_⟩:=info_parts tA;rw [hi0];simp [h1]
 have hov:∀lb cb,(callFunc 264 #[.slice (some ⟨vb,0,none⟩) 1 1,.slice (some ⟨g,(i+1)*3,none⟩) lb cb]).run prog w= .ok (.value (.bool false)) w:=fun lb cb=>by
  rw [run_callFunc_extern func264 zo zo zo (e:=Extern.SlicesOverlaps.overlaps #[278,278] #[4]) zo,
   Lib.run_overlaps_apart w 278 4 282 underlying278 3 sizeOf282 ⟨vb,0,none⟩ ⟨g,(i+1)*3,none⟩ 1 1 lb cb hvb 282 282 3 (cap*3) hsa hsb zj (hfa 0) (hfa 3)]
  rfl
 have hdl:(xs.drop (i*3)).length=n*3 - i*3:=qH
 have hcp1:∀ty dc sc,(Builtin.copy_ #[278,278] ty #[.slice (some ⟨g,(i+1)*3,none⟩) (n - i) dc,.slice (some ⟨g,i*3,none⟩) (n+1 - i) sc]).run prog w.drew= .ok (goInt ((n - i:Nat):Int)) (w.drew.setCells g ((i+1)*3) (xs.drop (i*3))):=fun ty dc sc=>by
  have hmin:Nat.min (n+1 - i) (n - i)=n - i:=yi
  have:=cG (P:=prog) w.drew 278 278 ty 282 3 g ((i+1)*3) (n - i) dc ⟨g,i*3,none⟩ (n+1 - i) sc (xs.drop (i*3)) underlying278 hsz xl
   (fun j u hj=>by rw [Addr.add_lit];exact hcell _ u (by rwa [uP] at hj))
   (fun j hj=>hsp _ qZ) (fun j _=>hfz _) (fun u hu=>h1x u (Zh hu))
  exact ki9
 obtain ⟨W1,hW1⟩:=zc (w.drew.setCells g ((i+1)*3) (xs.drop (i*3)))
 have hsp1:∀j,j<(n+1)*3->(W1.cell? ⟨g,j,none⟩).isSome=true:=fun j hj=>by
  rw [hW1];exact isSome_setCells g (xs.drop (i*3)) ((i+1)*3) w.drew (fun t ht=>hsp ((i+1)*3+t) (by rw [hdl] at ht;omega)) _ (hsp j hj)
 have hcp2:∀(W:World),(∀x,W.cell? x=W1.cell? x)->(∀x,W.frozen? x=W1.frozen? x)->∀ty dc,(Builtin.copy_ #[278,278] ty #[.slice (some ⟨g,i*3,none⟩) (n+1 - i) dc,.slice (some ⟨vb,0,none⟩) 1 1]).run prog W= .ok (goInt 1) (W.setCells g (i*3) vs):=fun W hWc hWf ty dc=>by
  have hmin:Nat.min 1 (n+1 - i)=1:=yi
  have:=cG (P:=prog) W 278 278 ty 282 3 g (i*3) (n+1 - i) dc ⟨vb,0,none⟩ 1 1 vs underlying278 hsz ju
   (fun j u hj=>by
    rw [Addr.add_lit,vQ,hWc,hW1,ZM g _ _ _ _ (fun h _=>absurd h hvb)]
    exact hvs j u hj)
   (fun j hj=>by rw [hWc];exact hsp1 _ zj) (fun j _=>by rw [hWf,hW1,ZR];exact hfz _) h1v
  exact ki9
 rw [<-hW1] at hcp1;have hw1:IntKind.i64.wrap ((i:Int)+1)=(i:Int)+1:=zu;have hw2:IntKind.i64.wrap ((n:Int)+1)=(n:Int)+1:=zu;have hb1:(0:Int)<=(i:Int)+1:=zj;have hz2:¬((i:Int)=(n:Int)):=zj;have hin:i<=n:=zj;have htn:((i:Int)+1).toNat=i+1:=zj;have htn2:((n:Int)+1).toNat=n+1:=zj;have hb2:¬(cap=i+1):=zj;have hb3:(i:Int)<=(n:Int)+1:=zj;have hb4:¬(cap=i):=zj;have hb5:¬((cap:Int)<(n:Int)+1):=zj;clear htake hcs hgb hsp hfz hcell hsb hcm hxl hdl hvs h1v h1x hsa hfa hsp1 hbg;go_enter func205,ntmps205;go_wp2_with (simp only [hov]);have mixed:prog.follows .mixedOrders=true:=zo;go_region_law_o (refine step_copy_runI rfl _ _ 278 278 rfl _ _ yl yl (hcp1 _ _ _) ?_);clear mixed;go_wp2_with (at_builtin;refine wpList_copy_runI _ rfl _ _ 278 278 rfl _ _ rfl rfl (hcp2 _ (fun _=>rfl) (fun _=>rfl) _ _) ?_);go_ret;subst hW1;exact hL.o w.drew rfl rfl rfl rfl
theorem rl (w:World) (base g n cap i:Nat) (xs vs:List Value) (hown:w.ownsRow base 282 3 (.slice (some ⟨g,0,none⟩) n cap) n xs) (hn:n<=1000) (vb:Nat) (hv:vs.length=3)
  (hvs:∀j u,vs[j]? =some u->w.cell? ⟨vb,j,none⟩=some u) (h1v:∀u∈vs,u.oneCell'=true) (h1x:∀u∈xs,u.oneCell'=true) (hbase:base<=w.heap.size)
  (hi:i<n) (hroom:cap<n+1):
  Calls prog 205 #[.slice (some ⟨g,0,none⟩) n cap,.int .i64 i,.slice (some ⟨vb,0,none⟩) 1 1] w (td w base (.slice (some ⟨g,0,none⟩) n cap) n (xs.take (i*3)++vs++xs.drop (i*3))):=by
 obtain ⟨hxl,h2⟩:=hown
 rcases h2 with ⟨hc,_⟩ | ⟨g',cap',cur,hc,hbg,hgb,hnc,hcm,hcs,htake⟩
 ·cases hc
 cases hc
 obtain ⟨i0,hi0,hz0,hzs,hzb⟩:=info_parts tA
 have hcell:∀j u,xs[j]? =some u->w.cell? ⟨g,j,none⟩=some u:=fun j u hj=>by
  exact kd7
 have hgw:g<w.heap.size:=(vD.1 hgb).1;have hvw:vb<w.heap.size:=block_lt_of_cell (hvs 0 _ (vF zj))
 have hsz:(prog.info? 282).map (·.size)=some 3:=by rw [hi0];simp [hzs]
 have htl:(xs.take (i*3)).length=i*3:=by rw [vW,hxl];omega
 have hdl:(xs.drop (i*3)).length=n*3 - i*3:=qH
 have hold:(Builtin.firstCells i0.size i (.slice (some ⟨g,0,none⟩) i cap)).run prog w.drew= .ok (xs.take (i*3)).toArray w.drew:=by
  rw [hzs]
  exact run_firstCells_some w.drew 3 i ⟨g,0,none⟩ i cap (xs.take (i*3)) htl (fun j u hj=>by
   rw [Addr.add_lit,vQ]
   rw [Zd] at hj
   split at hj
   ·exact hcell j u hj
   ·cases hj)
 have hik:i+(n+1 - i)=n+1:=zj;have hkk:(n:Int)+1 - (i:Int)=((n+1 - i:Nat):Int):=zj;obtain ⟨Z,hZ⟩:=zc ((Value.agg #[.int .i64 0,.int .u8 0,.bool false]).cells)
 have hZs:Z.size=3:=by rw [hZ];rfl
 obtain ⟨G,hG⟩:=zc (grownCap w (n+1) cap 282)
 have hGn:n+1<=G:=by rw [hG];exact grownCap_ge w _ _ _
 have hGm:G<=maxLen:=by rw [hG];exact grownCap_le_maxLen w (n+1) cap 282 xi
 obtain ⟨ROW,hROW⟩:∃ROW:Array Value,ROW=(xs.take (i*3)).toArray++Builtin.zeroCells Z (n+1 - i)++Builtin.zeroCells Z (G - (n+1)):=⟨_,rfl⟩
 have hrz:∀ty,(Builtin.append_ #[278,3] ty #[.slice (some ⟨g,0,none⟩) i cap,.int .i64 ((n:Int)+1 - (i:Int))]).run prog w= .ok (.slice (some ⟨w.heap.size,0,none⟩) (n+1) G) (w.drew.alloc (.cells ROW 282)):=fun ty=>by
  have h:=Lib.run_append_grow_zeros w 278 3 ty 282 i0 _ .i64 .i64 underlying278 underlying3 hi0 hz0 (some ⟨g,0,none⟩) i cap (xs.take (i*3)) hold (n+1 - i) zj zj zj zj (by rw [hzb];omega) xV;rw [hik,<-hG,<-hZ,<-hROW] at h;rw [hkk];exact h
 have hRs:ROW.size=G*3:=by
  exact kn3
 have hRl:∃Y,ROW.toList=xs.take (i*3)++Y:=⟨(Builtin.zeroCells Z (n+1 - i)++Builtin.zeroCells Z (G - (n+1))).toList,by rw [hROW];simp⟩
 obtain ⟨W1,hW1⟩:=zc (w.drew.alloc (.cells ROW 282));rw [<-hW1] at hrz
 have hN:∀j,j<(n+1)*3->(W1.cell? ⟨w.heap.size,j,none⟩).isSome=true:=fun j hj=>by
  exact kl5
 have hNf:∀j,W1.frozen? ⟨w.heap.size,j,none⟩=false:=fun j=>by rw [hW1];exact World.frozen?_alloc_at (w:=w.drew) ROW _ w.heap.size j rfl
 have hOb:∀j u,w.cell? ⟨g,j,none⟩=some u->W1.cell? ⟨g,j,none⟩=some u:=fun j u h=>by rw [hW1,ZS (w:=w.drew) _ g j hgw];exact h
 have hOv:∀j u,w.cell? ⟨vb,j,none⟩=some u->W1.cell? ⟨vb,j,none⟩=some u:=fun j u h=>by rw [hW1,ZS (w:=w.drew) _ vb j hvw];exact h
 have hcpA:∀(W:World),(∀x,W.cell? x=W1.cell? x)->(∀x,W.frozen? x=W1.frozen? x)->∀ty dc,(Builtin.copy_ #[278,278] ty #[.slice (some ⟨w.heap.size,i*3,none⟩) (n+1 - i) dc,.slice (some ⟨vb,0,none⟩) 1 1]).run prog W= .ok (goInt 1) (W.setCells w.heap.size (i*3) vs):=fun W hWc hWf ty dc=>by
  have hmin:Nat.min 1 (n+1 - i)=1:=yi
  have:=cG (P:=prog) W 278 278 ty 282 3 w.heap.size (i*3) (n+1 - i) dc ⟨vb,0,none⟩ 1 1 vs underlying278 hsz ju
   (fun j u hj=>xD)
   (fun j hj=>by rw [hWc];exact hN _ zj) (fun j _=>by rw [hWf];exact hNf _) h1v
  exact ki9
 have hgN:g≠w.heap.size:=zj
 have hcpB:∀(W:World),(∀x,W.cell? x=(W1.setCells w.heap.size (i*3) vs).cell? x)->(∀x,W.frozen? x=(W1.setCells w.heap.size (i*3) vs).frozen? x)->∀ty dc sc,(Builtin.copy_ #[278,278] ty #[.slice (some ⟨w.heap.size,(i+1)*3,none⟩) (n - i) dc,.slice (some ⟨g,i*3,none⟩) (n - i) sc]).run prog W= .ok (goInt ((n - i:Nat):Int)) (W.setCells w.heap.size ((i+1)*3) (xs.drop (i*3))):=fun W hWc hWf ty dc sc=>by
  have hmin:Nat.min (n - i) (n - i)=n - i:=by simp [Nat.min_def]
  have:=cG (P:=prog) W 278 278 ty 282 3 w.heap.size ((i+1)*3) (n - i) dc ⟨g,i*3,none⟩ (n - i) sc (xs.drop (i*3)) underlying278 hsz xl
   (fun j u hj=>by
    rw [Addr.add_lit,hWc,ZM _ _ _ _ _ (fun h _=>absurd h hgN)]
    exact hOb _ u (hcell _ u (by rwa [uP] at hj)))
   (fun j hj=>by rw [hWc];exact isSome_setCells w.heap.size vs (i*3) W1 (fun t ht=>hN _ zj) _ (hN _ qZ))
   (fun j _=>by rw [hWf,ZR];exact hNf _) (fun u hu=>h1x u (Zh hu))
  exact ki9
 have hL:Aside (∀W:World,W.heap=W1.heap->W.os=w.os->W.tape=w.tape->W.output=w.output->td w base (.slice (some ⟨g,0,none⟩) n cap) n (xs.take (i*3)++vs++xs.drop (i*3)) (.returned (.slice (some ⟨w.heap.size,0,none⟩) (n+1) G)) ((W.setCells w.heap.size (i*3) vs).setCells w.heap.size ((i+1)*3) (xs.drop (i*3)))):=by
  intro W h0 h2 h3 h4;have hgW:W.heap[w.heap.size]? =some (.cells ROW 282 (0,0)):=jS;obtain ⟨Y,hY⟩:=hRl;have k1:=(aZ w.heap.size vs (i*3) W).trans (aZ w.heap.size (xs.drop (i*3)) ((i+1)*3) _);exact ke0
 have hG63:G<=9223372036854775807:=by unfold maxLen at hGm;omega
 have hGi:¬(G=i):=zj;have hGim:¬(G=i+1):=zj;have hci:¬(cap=i):=zj;have hw1:IntKind.i64.wrap ((i:Int)+1)=(i:Int)+1:=zu;have hw2:IntKind.i64.wrap ((n:Int)+1)=(n:Int)+1:=zu;have hw3:IntKind.i64.wrap ((n:Int)+1 - (i:Int))=(n:Int)+1 - (i:Int):=zu;have hb1:(0:Int)<=(i:Int)+1:=zj;have hz2:¬((i:Int)=(n:Int)):=zj;have hin:i<=n:=zj;have hin2:i<=cap:=zj;have htn:((i:Int)+1).toNat=i+1:=zj;have hb5:((cap:Int)<(n:Int)+1):=zj;have hb6:¬((n:Int)+1<=(cap:Int)):=zj
 have hE1:∀x,((w.alloc (.cells ROW 282)).drew).cell? x=(w.drew.alloc (.cells ROW 282)).cell? x:=fun x=>rfl
 have hE2:∀x,((w.alloc (.cells ROW 282)).drew).frozen? x=(w.drew.alloc (.cells ROW 282)).frozen? x:=fun x=>rfl
 subst hW1
 have hF1:∀x,(((w.alloc (.cells ROW 282)).drew.setCells w.heap.size (i*3) vs).drew).cell? x=((w.drew.alloc (.cells ROW 282)).setCells w.heap.size (i*3) vs).cell? x:=fun x=>rfl
 have hF2:∀x,(((w.alloc (.cells ROW 282)).drew.setCells w.heap.size (i*3) vs).drew).frozen? x=((w.drew.alloc (.cells ROW 282)).setCells w.heap.size (i*3) vs).frozen? x:=fun x=>rfl
 clear htake hcs hgb hcell hcm hxl hdl htl hvs h1v h1x hbg hold hROW hG hRs hRl hN hNf hOb hOv hik hkk hGm hZ hZs hgw hvw;go_enter func205,ntmps205
 go_wp2_with (first
  | (at_builtin;refine Lib.wpList_append_run _ rfl _ _ _ _ rfl _ _ rfl rfl _ _ (hrz _) ?_)
  | (at_builtin;refine wpList_copy_runI _ rfl _ _ 278 278 rfl _ _ rfl rfl (hcpA _ hE1 hE2 _ _) ?_))
 have mixed:prog.follows .mixedOrders=true:=zo;go_region_law_o (refine step_copy_runI rfl _ _ 278 278 rfl (.slice (some ⟨w.heap.size,(i+1)*3,none⟩) (n - i) (G - (i+1))) (.slice (some ⟨g,i*3,none⟩) (n - i) (cap - i)) yl yl (hcpB _ hF1 hF2 3 (G - (i+1)) (cap - i)) ?_);clear mixed;go_wp2;go_ret;rw [drew_setCells];exact hL.o ((w.alloc (.cells ROW 282)).drew.drew) rfl rfl rfl rfl
theorem CQ (w:World) (base n i:Nat) (v:Value) (xs vs:List Value) (hown:w.ownsRow base 282 3 v n xs) (hn:n<=1000) (vb:Nat) (hv:vs.length=3)
  (hvs:∀j u,vs[j]? =some u->w.cell? ⟨vb,j,none⟩=some u) (h1v:∀u∈vs,u.oneCell'=true) (h1x:∀u∈xs,u.oneCell'=true) (hvb:some vb≠v.ownBlock) (hsa:w.shape? vb=some (282,3)) (hfa:∀j,w.frozen? ⟨vb,j,none⟩=false) (hbase:base<=w.heap.size) (hi:i<=n):
  Calls prog 205 #[v,.int .i64 i,.slice (some ⟨vb,0,none⟩) 1 1] w (td w base v n (xs.take (i*3)++vs++xs.drop (i*3))):=by
 by_cases he:i=n
 ·subst he;have e1:xs.take (i*3)=xs:=vT xF;have e2:xs.drop (i*3)= []:=Za xF;rw [e1,e2,uQ];exact tu w base v i xs vs hown hn vb hv hvs h1v hbase
 have hown':=hown
 rcases hown.2 with ⟨rfl,rfl⟩ | ⟨g,cap,cur,rfl,-⟩
 ·omega
 by_cases hroom:n+1<=cap
 ·exact sY w base g n cap i xs vs hown hn vb hv hvs h1v h1x (fun e=>hvb vd) hsa hfa zj hroom
 exact rl w base g n cap i xs vs hown hn vb hv hvs h1v h1x hbase zj zj
end Go.Proofs.YtebpcnkdhgnghaaGreatDoor
end
section
namespace Go.Proofs.YtebpcnkdhgnghaaGreatDoor
open Go Go.RowKit
variable {xs:List Value} {base k n:Nat} {ao:Option Addr} {T e:TypeId} {v:Value} {w w':World}
theorem cv {b o:Nat} (hb:Below w.heap.size w w') (h:w.cell? ⟨b,o,none⟩=some v):w'.cell? ⟨b,o,none⟩=some v:=by
 exact kg2
theorem av (h:w.ownsRow base e k v n xs) (hs:∀g,v.ownBlock=some g->w'.heap[g]? =w.heap[g]?):w'.ownsRow base e k v n xs:=by
 refine ⟨h.1,?_⟩
 rcases h.2 with h0 | ⟨g,cap,cur,rfl,h1,hg,h2⟩
 ·exact .inl h0
 exact km3
theorem nj {base':Nat} (h:w.ownsRow base e k v n xs) (hb:base'<=base):w.ownsRow base' e k v n xs:=by
 refine ⟨h.1,h.2.imp (fun e=>e) ?_⟩;exact kq8
theorem fh (h:w.ownsRow base e k v n xs):∃ao cap,v= .slice ao n cap:=by
 rcases h.2 with ⟨h1,h2⟩ | ⟨g,cap,cur,rfl,_⟩
 ·subst h2;exact ⟨_,_,h1⟩
 exact ⟨_,_,rfl⟩
section
variable {α:Type} {enc:α→List Value} {k:Nat}
def InRow (enc:α->List Value) (w:World) (ao:Option Addr) (zs:List α):Prop:=zs= []\/∃blk off,ao=some ⟨blk,off,none⟩/\∀j u,(aI enc zs)[j]? =some u->w.cell? ⟨blk,off+j,none⟩=some u
theorem InRow.later {zs:List α} (h:InRow enc w ao zs) (hb:Below w.heap.size w w'):InRow enc w' ao zs:=by
 rcases h with h | ⟨g,o,h1,h2⟩
 ·exact .inl h
 exact .inr ⟨g,o,h1,fun j u hj=>cv hb (h2 j u hj)⟩
theorem InRow.kept {zs:List α} (h:InRow enc w ao zs) (hk:∀g o,ao=some ⟨g,o,none⟩->w'.heap[g]? =w.heap[g]?):InRow enc w' ao zs:=by
 rcases h with h | ⟨g,o,h1,h2⟩
 ·exact .inl h
 exact kl1
theorem InRow.part (hlen:∀x,(enc x).length=k) {zs:List α} (h:InRow enc w ao zs) (i:Nat) (hi:i<=zs.length):InRow enc w ao (zs.take i)/\InRow enc w (ao.map (fun x=>x.add (i*k))) (zs.drop i):=by
 rcases h with h | ⟨g,o,h1,h2⟩
 ·subst h;exact ⟨.inl zt,.inl zt⟩
 refine ⟨.inr ⟨g,o,h1,fun j u hj=>h2 j u ?_⟩,.inr ⟨g,o+i*k,by rw [h1];simp [Addr.add],fun j u hj=> ?_⟩⟩
 ·rw [<-iW hlen zs i hi,Zd] at hj;split at hj
  ·exact hj
  cases hj
 rw [<-dB hlen zs i hi,uP] at hj;rw [uT];exact h2 _ u hj
theorem InRow.get (hlen:∀x,(enc x).length=k) {zs:List α} (h:InRow enc w ao zs) {i:Nat} {x:α} (hi:zs[i]? =some x):∃blk off,ao=some ⟨blk,off,none⟩/\∀c u,(enc x)[c]? =some u->w.cell? ⟨blk,off+i*k+c,none⟩=some u:=by
 rcases h with h | ⟨b,o,h1,h2⟩
 ·subst h;simp at hi
 refine ⟨b,o,h1,fun c u hc=> ?_⟩
 have hck:c<k:=by have:=(vA.1 hc).1;rwa [hlen] at this
 rw [uT];exact h2 _ _ ((cX (enc:=enc) hlen hi hck).trans hc)
theorem sG (hlen:∀x,(enc x).length=k) {cap:Nat} {L:List α} (h:w.ownsRow base T k (.slice ao L.length cap) L.length (aI enc L)):InRow enc w ao L:=by
 have h':=h
 rcases h.2 with ⟨h1,h2⟩ | ⟨g,cap',cur,hv,_⟩
 ·exact kj5
 cases hv
 refine .inr ⟨g,0,rfl,fun j u hj=> ?_⟩;have hl:j<(aI enc L).length:=(vA.1 hj).1;rw [bX hlen] at hl;exact ko1
theorem Cn {P:Program} {S:TypeId} {z:Value} {bytes:Nat} (hS:P.underlying S=some (.slice T)) (hinfo:(P.info? T).map (fun i=>(i.zero,i.size,i.bytes))=some (some z,k,bytes)) (hb1:bytes<=1000) (hk0:0<k) (hzc:z.cells.size=k)
  (hlen:∀x,(enc x).length=k) (hone:∀x,∀v∈enc x,v.oneCell'=true)
  (ho:w.ownsRow base T k v n xs) (hn:n<=2000) (hbase:base<=w.heap.size) (ap:Option Addr) (c:Nat) (ys:List α) (hy:ys.length<=2000) (hap:InRow enc w ap ys) (hc:ap=none->c=0) (ty:TypeId):
  ∃v' w',(Builtin.append_ #[S,S] ty #[v,.slice ap ys.length c]).run P w= .ok v' w'/\w'.ownsRow base T k v' (n+ys.length) (xs++aI enc ys)/\w.grownBy w' v.ownBlock:=by
 obtain ⟨i0,hi,hz0,hz1,hz2⟩:=info_parts hinfo
 cases ap with
 | none=>
  have h0:ys= []:=by
   rcases hap with h | ⟨_,_,h,_⟩
   ·exact h
   cases h
  subst h0;rw [hc rfl];refine ⟨v,w,run_append_owned_none w base _ ty _ i0 k hS hi v n xs ho,by simpa [aI] using ho,⟨rfl,rfl,rfl,vB _,fun _ _ _=>rfl⟩⟩
 | some a=>
  have hl:(aI enc ys).length=ys.length*k:=bX hlen ys
  obtain ⟨v',w',h1,h2,h3,-⟩:=run_append_own (P:=P) w base S ty T i0 _ k bytes hS hi hz0 hz1 hz2 hzc zj v n xs ho a ys.length c (aI enc ys) hl (fun j u hj=>by
   rcases hap with h | ⟨b,o,h,hcell⟩
   ·subst h;simp [aI] at hj
   ·cases h
    rw [Addr.add_lit]
    exact hcell j u hj) (fb hone ys) zA (by have:=Nat.mul_le_mul (show n+ys.length<=4000 by omega) hb1;omega) hbase
  exact ⟨v',w',h1,h2,h3⟩
end
end Go.Proofs.YtebpcnkdhgnghaaGreatDoor
end
section
namespace Go.Proofs.YtebpcnkdhgnghaaGreatDoor
open Go
variable {a:Act} {w:World}
section
variable {P:Program} {ops:Array Oper} {Q:Exit→Act→World→Prop} {md:Region.Mode} {S:World→Prop}
theorem aW {i:Nat} {o:Oper} {fuel:Nat} {listed:Array Bool} (hr:Region.ready md ops listed= [i]) (ho:ops[i]? =some o)
  (h:∀K:Act->World->Prop,(∀a' w',S w'->wpAnyH P md ops Q S fuel (listed.setIfInBounds i true) a' w'->K a' w')->if Region.wanted o (yielded ops a.tmps)=true then Oper.wp P o a w K Q else K (a.put o.dst undef) w):wpAnyH P md ops Q S (fuel+1) listed a w:=by
 refine ⟨fun h0=>qg,fun j hj=> ?_⟩;rw [hr] at hj;simp only [vR] at hj;subst hj;have:=h (fun a' w'=>S w'/\wpAnyH P md ops Q S fuel (listed.setIfInBounds j true) a' w') (fun a' w' h1 h2=>⟨h1,h2⟩);unfold wpOp;simp only [ho];split
 ·rename_i hw;exact kh0
 rename_i hw;exact ki7
end
theorem aL {P:Program} {ops:Array Oper} {Q:Exit->Act->World->Prop} {S:World->Prop} {id:Nat} (hm:P.follows .mixedOrders=true) (hS:S w.drew)
  (h:S w.drew->wpAnyH P .any ops Q S ops.size (Array.replicate ops.size false) a w.drew):(Code.region id ops true).wp P Q a w:=
 wp_region_any hm (wpAny_of_held _ _ _ _ (h hS))
end Go.Proofs.YtebpcnkdhgnghaaGreatDoor
end
section
namespace Go.Proofs.YtebpcnkdhgnghaaGreatDoor
open Go
variable {a:Act} {l listed:Array Bool} {fuel i z:Nat} {oi:Oper} {v:Value} {w:World}
section
variable {P:Program} {ops:Array Oper} {Q:Exit→Act→World→Prop} {md:Region.Mode} {S:World→Prop} {z:Nat}
def pY (md:Region.Mode) (ops:Array Oper) (z i:Nat):Bool:=match ops[z]? with
 | some oz=>oz.after.any fun e=>Region.binds md e &&e.on==i
 | none=>false
theorem rn (h:pY md ops z i=true) {oz:Oper} (hz:ops[z]? =some oz):∃e∈oz.after,Region.binds md e=true/\e.on=i:=by
 unfold pY at h;rw [hz] at h;obtain ⟨e,he,h2⟩:=Array.any_eq_true'.1 h;rw [uL] at h2;exact ⟨e,he,h2.1,by simpa using h2.2⟩
def cR (P:Program) (md:Region.Mode) (ops:Array Oper) (Q:Exit->Act->World->Prop) (S:World->Prop) (z:Nat):Nat->Array Bool->Act->World->Prop
 | 0,listed,a,w=>Region.ready md ops listed= []/\Q .normal a w
 | fuel+1,listed,a,w=>
  (Region.ready md ops listed= []->Q .normal a w)/\
  ∀i∈Region.ready md ops listed,wpOp P ops Q i (fun a' w'=>(S w'\/(listed.setIfInBounds i true).getD z false=true)/\cR P md ops Q S z fuel (listed.setIfInBounds i true) a' w') a w
theorem nB:∀(fuel:Nat) (listed:Array Bool) (a:Act) (w:World),cR P md ops Q S z fuel listed a w->wpAny P md ops Q fuel listed a w
 | 0,_,_,_,h=>h
 | fuel+1,_,_,_,h=>⟨h.1,fun i hi=>wpOp_mono (fun a' w' h'=>nB fuel _ a' w' h'.2) (h.2 i hi)⟩
theorem eJ (h:i≠z):(l.setIfInBounds i true).getD z false=l.getD z false:=by
 simp only [Array.getD_eq_getD_getElem?];rw [Array.getElem?_setIfInBounds_ne h]
theorem iN (h:l.getD z false=true):(l.setIfInBounds i true).getD z false=true:=by
 by_cases e:i=z
 ·subst e
  have hl:i<l.size:=by
   rcases uB i l.size with h' | h'
   ·exact h'
   simp [Ze h'] at h
  simp [hl]
 rw [eJ e];exact h
theorem kJ {T:World->Prop} (hiz:i≠z) (hi:ops[i]? =some oi) (hsel:∀(j:Nat) (o:Oper) cs b,ops[j]? =some o->o.op≠ .select cs b)
  (hQ:∀c a w,Q (.panic c) (a.put oi.dst v) w->Q (.panic c) a w) (hT:(∀w,T w)\/((∀w,S w->T w)/\pY md ops z i=true)):
  ∀(fuel:Nat) (listed:Array Bool) (a:Act) (w:World),
   (∀j oj,ops[j]? =some oj->j≠i->listed.getD j true=false->(∀e∈oj.after,Region.binds md e=true->e.on≠i)->oi.apart ops oj=true)->
   i∈Region.ready md ops listed->YieldsIf P ops T oi v a->(S w\/listed.getD z false=true)->((∀w,T w)\/listed.getD z false=false)->
   cR P md ops Q S z fuel (listed.setIfInBounds i true) (a.put oi.dst v) w->cR P md ops Q S z (fuel+1) listed a w:=by
 have hTw:∀(listed:Array Bool) (w:World),(S w\/listed.getD z false=true)->((∀w,T w)\/listed.getD z false=false)->T w:=fun listed w h1 h2=>by
  rcases hT with hT | hT
  ·exact hT w
  rcases h2 with h2 | h2
  ·exact h2 w
  rcases h1 with h1 | h1
  ·exact hT.1 w h1
  rw [h2] at h1;cases h1
 intro fuel
 induction fuel with
 | zero=>
  intro listed a w _ hr hy hS hz H;refine ⟨fun h=>(by rw [h] at hr;cases hr),fun j hj=> ?_⟩;by_cases hji:j=i
  ·exact kp4
  have:=ready_mono hj hji;rw [H.1] at this
  cases this
 | succ fuel ih=>
  intro listed a w hfree hr hy hS hz H;refine ⟨fun h=>(by rw [h] at hr;cases hr),fun j hj=> ?_⟩;by_cases hji:j=i
  ·exact kp4
  have h1:=H.2 j (ready_mono hj hji);obtain ⟨hjun,oj,hoj,hall⟩:=mem_ready.1 hj
  have hnot:∀e∈oj.after,Region.binds md e=true->e.on≠i:=fun e he hb heq=>by
   have h1:=hall e he hb;have h0:=(mem_ready.1 hr).1;rw [heq] at h1
   rcases uB i listed.size with h' | h'
   ·simp [h'] at h0 h1;rw [h0] at h1;cases h1
   simp [Ze h'] at h1
  have hz':(∀w,T w)\/(listed.setIfInBounds j true).getD z false=false:=by
   rcases hT with hT | ⟨_,hw⟩
   ·exact .inl hT
   rcases hz with hz | hz
   ·exact .inl hz
   right;rw [eJ]
   ·exact hz
   intro e;subst e;obtain ⟨x,hx,hb,ho⟩:=rn hw hoj;exact hnot x hx hb ho
  have h2:=wpOp_putIf hoj (hfree j oj hoj hji hjun hnot) (fun cs b=>hsel i oi cs b hi) (fun cs b=>hsel j oj cs b hoj) hQ hy h1
  have hfree':∀k ok,ops[k]? =some ok->k≠i->(listed.setIfInBounds j true).getD k true=false->
    (∀e∈ok.after,Region.binds md e=true->e.on≠i)->oi.apart ops ok=true:=fun k ok hk hki hun hno=>by
   refine hfree k ok hk hki ?_ hno;by_cases hjk:j=k
   ·subst hjk;exact hjun
   rw [getD_set_ne true hjk] at hun;exact hun
  refine wpOp_mono (fun a' w' h3=> ?_) h2
  have hC:S w'\/(listed.setIfInBounds j true).getD z false=true:=h3.2.1.imp id (fun h=>by
   rw [Array.setIfInBounds_comm _ _ (Ne.symm hji),eJ hiz] at h
   exact h)
  refine ⟨hC,ih (listed.setIfInBounds j true) a' w' hfree' (ready_mono hr (Ne.symm hji)) h3.1 hC hz' ?_⟩;rw [Array.setIfInBounds_comm _ _ hji];exact h3.2.2
theorem aA (hiz:i≠z) (hzz:pY md ops z i=true) (hi:ops[i]? =some oi)
  (hs:Region.noSelect ops=true) (hf:Region.free md ops listed i=true) (hr:(Region.ready md ops listed).contains i=true) (hzl:listed.getD z false=false)
  (hQ:∀c a w,Q (.panic c) (a.put oi.dst v) w->Q (.panic c) a w) (hy:YieldsIf P ops S oi v a) (hS:S w)
  (h:cR P md ops Q S z fuel (listed.setIfInBounds i true) (a.put oi.dst v) w):cR P md ops Q S z (fuel+1) listed a w:=
 kJ hiz hi (Region.noSelect_spec hs) hQ (.inr ⟨fun _ h=>h,hzz⟩) fuel listed a w (Region.free_spec hi hf) (by simpa using hr) hy (.inl hS) (.inr hzl) h
theorem aY (hiz:i≠z) (hi:ops[i]? =some oi)
  (hs:Region.noSelect ops=true) (hf:Region.free md ops listed i=true) (hr:(Region.ready md ops listed).contains i=true)
  (hQ:∀c a w,Q (.panic c) (a.put oi.dst v) w->Q (.panic c) a w) (hy:YieldsIf P ops (fun _=>True) oi v a) (hS:S w)
  (h:cR P md ops Q S z fuel (listed.setIfInBounds i true) (a.put oi.dst v) w):cR P md ops Q S z (fuel+1) listed a w:=
 kJ hiz hi (Region.noSelect_spec hs) hQ (.inl fun _=>trivial) fuel listed a w (Region.free_spec hi hf) (by simpa using hr) hy (.inl hS) (.inl fun _=>trivial) h
theorem aF {o:Oper} (hr:Region.ready md ops listed= [i]) (ho:ops[i]? =some o)
  (h:∀K:Act->World->Prop,(∀a' w',(S w'\/i=z/\z<listed.size)->cR P md ops Q S z fuel (listed.setIfInBounds i true) a' w'->K a' w')->if Region.wanted o (yielded ops a.tmps)=true then Oper.wp P o a w K Q else K (a.put o.dst undef) w):cR P md ops Q S z (fuel+1) listed a w:=by
 refine ⟨fun h0=>qg,fun j hj=> ?_⟩;rw [hr] at hj;simp only [vR] at hj;subst hj
 have:=h (fun a' w'=>(S w'\/(listed.setIfInBounds j true).getD z false=true)/\cR P md ops Q S z fuel (listed.setIfInBounds j true) a' w') (fun a' w' h1 h2=>⟨h1.imp id (fun h=>by
  obtain ⟨e,hl⟩:=h
  subst e
  simp [hl]),h2⟩)
 unfold wpOp;simp only [ho];split
 ·rename_i hw;exact kh0
 rename_i hw;exact ki7
theorem bB (hr:Region.ready md ops listed= []) (h:Q .normal a w):
  ∀fuel,cR P md ops Q S z fuel listed a w
 | 0=>⟨hr,h⟩
 | _+1=>⟨fun _=>h,by rw [hr];simp⟩
theorem bv {id:Nat} (hm:P.follows .mixedOrders=true) (hS:S w.drew)
  (h:S w.drew->cR P .any ops Q S z ops.size (Array.replicate ops.size false) a w.drew):(Code.region id ops true).wp P Q a w:=
 wp_region_any hm (nB _ _ _ _ (h hS))
end
end Go.Proofs.YtebpcnkdhgnghaaGreatDoor
namespace Go.Proofs.YtebpcnkdhgnghaaGreatDoor
open Go
variable {a:Act} {l n:Nat} {o:Oper} {w:World}
section
variable {P:Program} {ops:Array Oper} {Q:Exit→Act→World→Prop} {md:Region.Mode} {S:World→Prop}
theorem oE (hd:∀c,o.op≠ .defer c) {K:Act->World->Prop} (h:o.wp P a w K Q):o.wpIn (Fence.wide.inRound l) n P a w K Q:=by
 refine ⟨fun _ _=>trivial,?_⟩;have e:Oper.semAt (Fence.wide.inRound l).round a.eval o=execOp a.eval o:=Oper.semAt_some l a.eval o hd;rw [e];unfold Oper.wp at h;generalize (execOp a.eval o).run P w=r at*
 cases r with
 | ok x w'=>
  cases x<;>simp only [Oper.upon,Oper.uponIn] at h |-
  case value v=>exact h
  case skip=>exact h
  case defer d=>exact h
  case enter f args=>exact ⟨fun h=>qD,CallsIn.inRound l (callsIn_wide.2 h)⟩
  case row row args=>
   refine ⟨fun h=>qD,fun c cs _=> ?_⟩;obtain ⟨v,w'',r,s⟩:=h c cs;exact ⟨v,w'',r,stepsIn_wide.2 s⟩
 | halt x w'=>
  cases x<;>simp only [Oper.upon,Oper.uponIn] at h |-
  case panic u=>exact h
def tc (ops:Array Oper):Bool:=ops.all fun o=>match o.op with | .defer _=>false | _=>true
theorem pH (h:tc ops=true) {i:Nat} (hi:ops[i]? =some o):∀c,o.op≠ .defer c:=by
 intro c e;obtain ⟨hl,he⟩:=vD.1 hi;have:=(Array.all_eq_true.1 h) i hl;rw [he,e] at this
 cases this
theorem df {l n:Nat} (hd:tc ops=true) (hno:¬LetsOut Q):∀(fuel:Nat) (listed:Array Bool) (a:Act) (w:World),wpAny P md ops Q fuel listed a w->wpAnyIn (Fence.wide.inRound l) n P md ops Q fuel listed a w
 | 0,_,_,_,h=>h
 | fuel+1,listed,a,w,h=>by
  refine ⟨h.1,fun i hi=> ?_⟩;have h1:=h.2 i hi;unfold wpOp at h1;unfold wpOpIn
  cases ho:ops[i]? with
  | none=>
   rw [ho] at h1;exact df hd hno fuel _ a w h1
  | some o=>
   rw [ho] at h1
   dsimp only at h1 |-
   split
   ·rename_i hw;rw [if_pos hw] at h1
    rcases h1 with h1 | h1
    ·have h2:=oE (l:=l) (n:=n) (pH hd ho) h1;have h3:=wpOpIn_mono (F:=Fence.wide.inRound l) (n:=n) (P:=P) (ops:=ops) (Q:=Q) (i:=i) (a:=a) (w:=w) (fun a' w' h'=>df (l:=l) (n:=n) hd hno fuel (listed.setIfInBounds i true) a' w' h') (K:=wpAny P md ops Q fuel (listed.setIfInBounds i true)) (by unfold wpOpIn;rw [ho];dsimp only;rw [if_pos hw];exact h2);unfold wpOpIn at h3;rw [ho] at h3;dsimp only at h3;rw [if_pos hw] at h3;exact h3
    exact absurd h1.2 hno
   rename_i hw;rw [if_neg hw] at h1;exact ⟨fun _ _=>trivial,df hd hno fuel _ _ w h1⟩
theorem fd {id:Nat} (hm:P.follows .mixedOrders=true) (hd:tc ops=true) (hno:¬LetsOut Q) (hS:S w.drew)
  (h:S w.drew->wpAnyH P .any ops Q S ops.size (Array.replicate ops.size false) a w.drew):(Code.region id ops true).wpIn (Fence.wide.inRound l) n P Q a w:=
 wpIn_region_any hm (df hd hno _ _ _ _ (wpAny_of_held _ _ _ _ (h hS)))
end
end Go.Proofs.YtebpcnkdhgnghaaGreatDoor
end
section
namespace Go.Proofs.YtebpcnkdhgnghaaGreatDoor
open Go.Proofs.Tryz
open Go.RowKit
def JF (u:Nat):UInt8:=UInt8.ofNat u
theorem pX (u:Nat) (w:World) (h2:u<=255):
  Calls prog 112 #[.int .i64 (u:Int)] w fun e w'=>e= .returned (.string ⟨#[JF u]⟩)/\Below w.heap.size w w':=by
 have hcv:(convert 184 9 (.slice (some ⟨w.heap.size,0,none⟩) 1 1)).run prog (w.alloc (.cells #[.int .u8 (u:Int)] 5))= .ok (.string ⟨#[JF u]⟩) (w.alloc (.cells #[.int .u8 (u:Int)] 5)):=by
  refine run_convert_bytes_back (P:=prog) _ 184 9 5 ⟨w.heap.size,0,none⟩ 1 [JF u] underlying184 underlying5 underlying9 ?_;intro j hj;have hj0:j=0:=yC;subst hj0;simp [go_sem,Addr.add,JF];omega
 go_enter func112,ntmps112;exact kb8
theorem lO (x y:List UInt8) (h:x.length+y.length<=9223372036854775807) (w:World):(Op.stringOp .add ⟨x.toArray⟩ ⟨y.toArray⟩).run prog w= .ok (.string ⟨(x++y).toArray⟩) w:=by
 rw [run_string_add_sum w ⟨x.toArray⟩ ⟨y.toArray⟩ (by simpa [ByteArray.size] using h)];congr 2
