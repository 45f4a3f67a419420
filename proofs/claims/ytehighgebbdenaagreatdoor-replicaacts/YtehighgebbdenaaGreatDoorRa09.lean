import Derived.Test.YtehighgebbdenaaGreatDoorRa08
import Derived.RangeFuncNested
import Derived.OwnWalkIn
import Derived.TacticsInMore
import Derived.LoopNIn
import Derived.LoopIn
set_option maxRecDepth 100000
set_option maxHeartbeats 64000000
namespace Go.Proofs.YtehighgebbdenaaGreatDoor
open Go.Proofs.Tryz
variable {s:Int×Int} {ms:List Mov} {m:Mov} {N b g h i j:Nat} {u:Value} {W W' w:World}
section
open Go
section
variable {α:Type} {enc:α→List Value} {k:Nat}
def aA (enc:α->List Value) (L:List α):List Value:=L.flatMap enc
theorem Gn:aA enc []= []:=rfl
theorem ee (x:α) (L:List α):aA enc (x::L)=enc x++aA enc L:=rfl
theorem bX (L M:List α):aA enc (L++M)=aA enc L++aA enc M:=by simp [aA]
theorem bR (hk:∀x,(enc x).length=k):∀L:List α,(aA enc L).length=L.length*k
 | []=>by simp [aA]
 | x::L=>by rw [ee,ub,hk,bR hk L,uu,Nat.succ_mul];omega
theorem iX (hk:∀x,(enc x).length=k) (L:List α) (i:Nat) (hi:i<=L.length):(aA enc L).take (i*k)=aA enc (L.take i):=by
 conv=>lhs;rw [<-ur i L]
 rw [bX,uZ yN,uc yN]
theorem dx (hk:∀x,(enc x).length=k) (L:List α) (i:Nat) (hi:i<=L.length):(aA enc L).drop (i*k)=aA enc (L.drop i):=by
 conv=>lhs;rw [<-ur i L]
 rw [bX,List.drop_append_of_le_length yN,Zk yN];rfl
theorem dM (hk:∀x,(enc x).length=k) {L:List α} {c:Nat} {x:α} (hx:L[i]? =some x) (hc:c<k):(aA enc L)[i*k+c]? =(enc x)[c]? :=by
 obtain ⟨hil,hie⟩:=vL.1 hx
 have h1:(aA enc L)[i*k+c]? =((aA enc L).drop (i*k))[c]? :=by rw [uV]
 rw [h1,dx hk L i zo,uQ hil,hie,ee,ZJ (by rw [hk];exact hc)]
theorem wM (hk:∀x,(enc x).length=k) (L:List α) (i:Nat) (hi:i<=L.length) (x:α):aA enc (L.take i++x::L.drop i)=(aA enc L).take (i*k)++enc x++(aA enc L).drop (i*k):=by
 rw [bX,ee,iX hk L i hi,dx hk L i hi,ux]
theorem dN (hk:∀x,(enc x).length=k) (L:List α) (i:Nat) (hi:i<L.length) (x:α):aA enc (L.set i x)=(aA enc L).take (i*k)++enc x++(aA enc L).drop ((i+1)*k):=by
 rw [List.set_eq_take_append_cons_drop,if_pos hi,bX,ee,iX hk L i zo,dx hk L (i+1) zo,ux]
theorem gO (h1:∀x,∀v∈enc x,v.oneCell'=true) (L:List α):∀v∈aA enc L,v.oneCell'=true:=by
 intro v hv;obtain ⟨x,_,hx⟩:=List.mem_flatMap.1 hv;exact h1 x v hx
end
theorem ff {base k n cap:Nat} {E:TypeId} {A B C vs:List Value} (h:w.ownsRow base E k (.slice (some ⟨g,0,none⟩) n cap) n (A++B++C)) (hl:B.length=vs.length):
  (w.setCells g A.length vs).ownsRow base E k (.slice (some ⟨g,0,none⟩) n cap) n (A++vs++C):=by
 obtain ⟨hlen,h2⟩:=h
 rcases h2 with ⟨hc,_⟩ | ⟨g',cap',cur,hc,hb,hg,hn,hm,hs,ht⟩
 ·cases hc
 cases hc
 have hlen':(A++vs++C).length=n*k:=by rw [<-hlen];simp [hl]
 refine ⟨hlen',.inr ⟨g,cap,_,rfl,hb,af g vs A.length w cur E hg,hn,hm,by rw [eo,hs],?_⟩⟩
 have hcur:cur.toList=A++B++(C++cur.toList.drop (n*k)):=by
  conv=>lhs;rw [<-ur (n*k) cur.toList]
  rw [ht];simp
 rw [ed vs A B _ cur hcur hl,<-ux,uZ zo,uc zo]
end
section
open scoped Classical
abbrev Ent:=Mov×Plc
structure LogTo (ms:List Mov) (i:Nat) (L:List Ent):Prop where
 movs:L.map (·.1)=ms
 from_:∀j x,j<i->L[j]? =some x->x.2=kQ ms j
theorem LogTo.len {L:List Ent} (h:LogTo ms i L):L.length=ms.length:=by rw [<-h.movs];simp
theorem LogTo.mov {L:List Ent} (h:LogTo ms i L) {x:Ent} (hx:L[j]? =some x):ms[j]? =some x.1:=by rw [<-h.movs];simp [hx]
theorem LogTo.mono {L:List Ent} (h:LogTo ms i L) (hj:j<=i):LogTo ms j L:=⟨h.movs,fun k x hk hx=>h.from_ k x zo hx⟩
theorem Do:LogTo [] 0 []:=⟨rfl,fun _ _ h=>zo⟩
theorem mY (h:ms[i]? =some m):kQ ms i=(aN (ms.take i) m.2.1).getD cV:=by unfold kQ;rw [h]
theorem pI {ms':List Mov} (h:ms.take (i+1)=ms'.take (i+1)):kQ ms i=kQ ms' i:=by
 have h1:ms[i]? =ms'[i]? :=by
  have e1:(ms.take (i+1))[i]? =ms[i]? :=by rw [Zq,if_pos zo]
  have e2:(ms'.take (i+1))[i]? =ms'[i]? :=by rw [Zq,if_pos zo]
  rw [<-e1,<-e2,h]
 have h2:ms.take i=ms'.take i:=by
  have e1:(ms.take (i+1)).take i=ms.take i:=xp;have e2:(ms'.take (i+1)).take i=ms'.take i:=xp;rw [<-e1,<-e2,h]
 unfold kQ;rw [h1,h2]
def Dz (L:List Ent) (i:Nat) (x:Ent):List Ent:=L.take i++x::L.drop i
theorem Hq {L:List Ent} (h:LogTo ms ms.length L) (hi:i<=ms.length) (fr:Plc):LogTo (gI ms i m) i (Dz L i (m,fr)):=by
 refine ⟨?_,fun j x hj hx=> ?_⟩
 ·unfold Dz gI;simp [<-h.movs,List.map_take,List.map_drop]
 have hx':L[j]? =some x:=by
  unfold Dz at hx;rwa [ZJ (by simp;have:=h.len;omega),Zq,if_pos hj] at hx
 rw [h.from_ j x zo hx'];refine pI ?_;unfold gI;rw [uZ zr,List.take_take];congr 1;omega
theorem Kn {L:List Ent} {x:Ent} (h:LogTo ms i L) (hx:L[i]? =some x):LogTo ms (i+1) (L.set i (x.1,kQ ms i)):=by
 refine ⟨?_,fun j y hj hy=> ?_⟩
 ·rw [<-h.movs,List.map_set];apply List.ext_getElem?;intro j;by_cases e:j=i
  ·subst e;have hl:=(vL.1 hx).1;rw [Zm (by simpa using hl)];simp [hx]
  rw [ZH zo]
 by_cases e:j=i
 ·subst e;rw [Zm (vL.1 hx).1] at hy
  cases hy
  rfl
 rw [ZH zo] at hy;exact h.from_ j y zo hy
def sJ (ms:List Mov) (s:Int×Int) (i:Nat) (b:Bool):Prop:=
 (b=true/\∃m,ms[i]? =some m/\m.1=s)\/(b=false/\i<=ms.length/\(∀x∈ms.take i,SLt x.1 s)/\∀x∈ms.drop i,SLt s x.1)
def CV (ms:List Mov) (s:Int×Int) (i:Nat):Prop:=∀x∈ms.drop i,SLt s x.1
theorem DC (ms:List Mov) (s:Int×Int):CV ms s ms.length:=fun x hx=>qP
theorem Bi (h:ms[i]? =some m) (e:m.1=s):sJ ms s i true:=.inl ⟨rfl,m,h,e⟩
theorem CX (hb:ax ms) (hl:CV ms s (i+1)) (h:ms[i]? =some m) (e:SLt m.1 s):sJ ms s (i+1) false:=by
 have hi:=(vL.1 h).1;refine .inr ⟨rfl,zo,fun x hx=> ?_,hl⟩;rw [uS,h] at hx
 rcases vW.1 hx with hx | hx
 ·refine iL ?_ e
  have hp:(ms.take i++ms.drop i).Pairwise (fun a b=>SLt a.1 b.1):=by rw [ur];exact hb
  refine (uY.1 hp).2.2 x hx m ?_;rw [Zo];exact ⟨0,by rw [uV,Zg,h]⟩
 simp at hx;rw [hx];exact e
theorem CO (hl:CV ms s (i+1)) (h:ms[i]? =some m) (ne:m.1≠s) (nl:¬SLt m.1 s):CV ms s i:=by
 intro x hx
 have hi:=(vL.1 h)
 rw [uQ hi.1] at hx
 rcases vT.1 hx with rfl | hx
 ·rw [hi.2];exact DI ne nl
 exact hl x hx
theorem wY (hl:CV ms s 0):sJ ms s 0 false:=.inr ⟨rfl,vV _,fun x hx=>qP,hl⟩
theorem DH {b:Bool} (h:sJ ms s i b) (hn:∀m∈ms,m.1≠s):b=false/\i<=ms.length/\(∀x∈ms.take i,SLt x.1 s)/\∀x∈ms.drop i,SLt s x.1:=by
 rcases h with ⟨_,m,hm,e⟩ | h
 ·exact absurd e (hn m (vQ hm))
 exact h
end
section
open Go.RowKit Go.Shelf
attribute [local go_sem] Oper.semAt_some
def gG (x:Ent):List Value:=[.int .i64 x.1.1.1,.int .i64 x.1.1.2,.int .i64 x.1.2.1,.int .i64 x.1.2.2.1,.string x.1.2.2.2,.int .i64 x.2.1,.int .i64 x.2.2.1,.string x.2.2.2]
theorem fO (x:Ent):(gG x).length=8:=rfl
theorem wm (x:Ent):∀v∈gG x,v.oneCell'=true:=by
 intro v hv;simp only [gG,vT,ZI,or_false] at hv;exact km7
def Lu:Ent:=(((0,0),cV),cV)
def cE (L:List Ent) (r:Nat):Ent:=L.getD (L.length - 1 - r) Lu
def Ko (L:List Ent) (r:Nat):Array Value:= #[.int .i64 ((L.length - 1 - r:Nat):Int),.agg #[.int .i64 (cE L r).1.1.1,.int .i64 (cE L r).1.1.2,.int .i64 (cE L r).1.2.1,.int .i64 (cE L r).1.2.2.1,.string (cE L r).1.2.2.2,.int .i64 (cE L r).2.1,.int .i64 (cE L r).2.2.1,.string (cE L r).2.2.2]]
def KeepTwo (g h:Nat) (W W':World):Prop:=W'.heap[g]? =W.heap[g]? /\W'.heap[h]? =W.heap[h]?
theorem KeepTwo.refl (g h:Nat) (W:World):KeepTwo g h W W:=⟨rfl,rfl⟩
theorem KeepTwo.trans {g h:Nat} {A B C:World} (x:KeepTwo g h A B) (y:KeepTwo g h B C):KeepTwo g h A C:=⟨y.1.trans x.1,y.2.trans x.2⟩
theorem KeepTwo.put (hg:g<N) (hh:h<N) (W:World) (l:Nat) (o':Obj) (hl:N<=l):KeepTwo g h W (W.putObj l o'):=
 ⟨World.putObj_heap_other zo,World.putObj_heap_other zo⟩
def RowAt (W:World) (g off:Nat) (L:List Ent):Prop:=∀j u,(aA gG L)[j]? =some u->W.cell? ⟨g,off+j,none⟩=some u
theorem RowAt.same {off:Nat} {L:List Ent} (h:RowAt W g off L) (e:W'.heap[g]? =W.heap[g]?):RowAt W' g off L:=fun j u hj=>by
 have:=h j u hj;rw [<-this];exact uk (a:=⟨g,off+j,none⟩) e
theorem RowAt.at {off:Nat} {L:List Ent} (h:RowAt W g off L) {x:Ent} (hx:L[i]? =some x) (c:Nat) (hu:(gG x)[c]? =some u):W.cell? ⟨g,off+i*8+c,none⟩=some u:=by
 have hc:c<8:=by have:=(vL.1 hu).1;rwa [fO] at this
 rw [Zc];exact h _ u (by rw [dM fO hx hc];exact hu)
theorem GI (F:Fence) (n:Nat) (h7:F.fn 282) (hro:F.round=none) (hn:1<=n) (l Bs g off cap:Nat) (ao:Option Addr) (L:List Ent) (hlen:L.length<=1000) (hao:L= []\/ao=some ⟨g,off,none⟩) (J Jx:List Nat->World->Prop)
  (hY:∀pre x W,J pre W->pre.length<L.length->YieldAt F (n - 1) prog l (Ko L x) W fun e W'=>
   (e= .returned (.bool true)/\J (pre++ [x]) W'/\KeepTwo g Bs W W')\/(e= .returned (.bool false)/\Jx (pre++ [x]) W'))
  (W:World) (hBs:W.cell? ⟨Bs,0,none⟩=some (.slice ao L.length cap)) (hc:RowAt W g off L) (h0:J [] W):
  CallsIn F n prog 282 #[.func (.yield l) #[] #[],.pointer (some ⟨Bs,0,none⟩)] W fun e W'=>(∃v,e= .returned v)/\
   ((∃ys,ys=List.range L.length/\J ys W')\/(∃pre,(∃k,k<=L.length/\pre=List.range k)/\Jx pre W')):=by
 refine callsIn_of_wp func282 rfl h7 ?_ hro;simp only [ntmps282,uA,uu,uM,Nat.reduceAdd,Nat.reduceSub,uT,uU,Zh,uX,Zb,Zl];have hw0:IntKind.i64.wrap ((L.length:Int) - 1)=(L.length:Int) - 1:=zB;gi_wp2
 gi_loopw [3] (fun i wr=>∃k:Nat,k<=L.length/\i= .int .i64 ((L.length:Int) - 1 - k)/\J (List.range k) wr/\KeepTwo g Bs W wr)
  (fun i _=>(intOf i+1).toNat)
 case atStart=>exact ⟨0,vV _,zv,h0,KeepTwo.refl _ _ _⟩
 case round=>
  obtain ⟨k,hk,rfl,hJs,hnx⟩:=hrel;have hBs':wr.cell? ⟨Bs,0,none⟩=some (.slice ao L.length cap):=(uk (a:=⟨Bs,0,none⟩) hnx.2).trans hBs;by_cases hlt:k<L.length
  ·have hao':ao=some ⟨g,off,none⟩:=hao.resolve_left (fun e=>by rw [e] at hlt;simp at hlt);subst hao';obtain ⟨fn,tmps,assign,body,hy,hR⟩:=hY _ k wr hJs (by rw [List.length_range];exact hlt)
   have hix:L[L.length - 1 - k]? =some (cE L k):=by
    exact kj8
   have hrow:=hc.same hnx.1;obtain ⟨x,hx⟩:=zc (cE L k);rw [<-hx] at hix;obtain ⟨i,hi⟩:=zc (L.length - 1 - k);have hil:(L.length:Int) - 1 - k=(i:Int):=zo;have hilt:i<L.length:=zo;unfold Ko at hy;rw [<-hx,<-hi] at hy;rw [<-hi] at hix;have c0:wr.cell? ⟨g,off+i*8,none⟩=some (.int .i64 x.1.1.1):=hrow.at hix 0 (u:=.int .i64 x.1.1.1) rfl;have c1:=hrow.at hix 1 (u:=.int .i64 x.1.1.2) rfl;have c2:=hrow.at hix 2 (u:=.int .i64 x.1.2.1) rfl;have c3:=hrow.at hix 3 (u:=.int .i64 x.1.2.2.1) rfl;have c4:=hrow.at hix 4 (u:=.string x.1.2.2.2) rfl;have c5:=hrow.at hix 5 (u:=.int .i64 x.2.1) rfl;have c6:=hrow.at hix 6 (u:=.int .i64 x.2.2.1) rfl;have c7:=hrow.at hix 7 (u:=.string x.2.2.2) rfl;rw [hil];have hw1:IntKind.i64.wrap ((i:Int) - 1)=(i:Int) - 1:=zB;have hi0:(0:Int)<=(i:Int):=zo;have hib:(i:Int)<(L.length:Int):=zo
   have HK:Aside (i=L.length - 1 - k/\k<L.length/\KeepTwo g Bs W wr):=⟨hi,hlt,hnx⟩
   have hR':Aside (RoundIn F (n - 1) prog l fn tmps assign body wr fun e W'=>(e= .returned (.bool true)/\J (List.range k++ [k]) W'/\KeepTwo g Bs wr W')\/(e= .returned (.bool false)/\Jx (List.range k++ [k]) W')):=hR;clear hi hil hlt hk hix hx hR hrow hnx hJs hY h0;gi_wp2;refine hR'.o.mono ?_;rintro e W3 (⟨rfl,hJ3,hk3⟩ | ⟨rfl,hJx3⟩)
   ·gi_wp2;go_roundw
    case rel=>exact ⟨k+1,by have:=HK.o;omega,by have:=HK.o;congr 1;omega,by rw [List.range_succ];exact hJ3,HK.o.2.2.trans hk3⟩
    case measure=>have:=HK.o;simp [intOf]
   gi_wp2;refine bodyPost_ret (results_none rfl _ _ _) rfl ?_;exact ⟨⟨_,rfl⟩,.inr ⟨_,⟨k+1,by have:=HK.o;omega,(List.range_succ).symm⟩,hJx3⟩⟩
  obtain rfl:k=L.length:=zo;gi_wp2;go_end0;exact ⟨⟨_,rfl⟩,.inl ⟨_,rfl,hJs⟩⟩
end
section
open Go.RowKit
def bL (t b t' b':Int):Bool:=if t=t' then decide (b<b') else decide (t<t')
theorem oB (t b t' b':Int) (w:World):
  Calls prog 115 #[.agg #[.int .i64 t,.int .i64 b],.agg #[.int .i64 t',.int .i64 b']] w fun e w'=>e= .returned (.bool (bL t b t' b'))/\Below w.heap.size w w':=by
 unfold bL;by_cases h:t=t'
 ·have hd:(t !=t')=false:=by simp [h]
  rw [if_pos h];clear h;go_enter func115,ntmps115;exact kf4
 have hd:(t !=t')=true:=xQ;rw [if_neg h];clear h;go_enter func115,ntmps115;exact kf4
end
section
open Go.RowKit
end
section
open Go.RowKit Go.Shelf
attribute [local go_sem] Oper.semAt_some
theorem MX (a b c d:Int) (w:World):(Op.equalIn 10000 36 (.agg #[.int .i64 a,.int .i64 b]) (.agg #[.int .i64 c,.int .i64 d])).run prog w= .ok (decide ((a,b)=(c,d))) w:=by
 go_simp;by_cases h1:a=c<;>by_cases h2:b=d<;>simp [h1,h2]
theorem pE (a b:Int×Int):bL a.1 a.2 b.1 b.2=true↔SLt a b:=by
 unfold bL SLt;split<;>simp<;>omega
theorem DV (F:Fence) (n:Nat) (h5:F.fn 227) (hro:F.round=none) (a:Option Addr) (len cap:Nat) (w:World):
  CallsIn F n prog 227 #[.slice a len cap] w fun e w'=>e= .returned (.func (.func 282) #[] #[.pointer (some ⟨w.heap.size,0,none⟩)])/\w'=w.alloc (.cells #[.slice a len cap] 185):=by
 refine callsIn_of_wp func227 rfl h5 ?_ hro;simp only [ntmps227,uA,uu,uM,Nat.reduceAdd,Nat.reduceSub,uT,uU,Zh,uX,Zb,Zl];gi_wp2;go_ret;exact km8
theorem nI (F:Fence) (n:Nat) (h7:F.fn 282) (hro:F.round=none) (hn:1<=n) (Bs g off cap:Nat) (ao:Option Addr) (L:List Ent) (hlen:L.length<=1000) (hao:L= []\/ao=some ⟨g,off,none⟩) (w:World) (hBs:Bs<w.heap.size) (hg:g<w.heap.size)
  (hc:w.cell? ⟨Bs,0,none⟩=some (.slice ao L.length cap)) (hI:RowAt w g off L):
  SeqStopsK F n prog 282 #[.pointer (some ⟨Bs,0,none⟩)] (Ko L) (KeepTwo g Bs) (fun ys=>ys=List.range L.length) (fun pre=>∃k,k<=L.length/\pre=List.range k) L.length w:=fun l J Jx W hW _ _ hY h0=>by
 have hc':=(hW.cell (p:=⟨Bs,0,none⟩) hBs).trans hc;exact GI F n h7 hro hn l Bs g off cap ao L hlen hao J Jx hY W hc' (hI.same (hW.block g hg)) h0
def StAt (w:World) (b:Nat) (s:Int×Int):Prop:=w.heap[b]? =some (.cells #[.int .i64 s.1,.int .i64 s.2] 36 (0,0))
theorem StAt.c0 (h:StAt w b s):w.cell? ⟨b,0,none⟩=some (.int .i64 s.1):=by unfold StAt at h;simp [World.cell?,h]
theorem StAt.c1 (h:StAt w b s):w.cell? ⟨b,1,none⟩=some (.int .i64 s.2):=by unfold StAt at h;simp [World.cell?,h]
def EntAt (w:World) (b:Nat) (x:Ent):Prop:=w.heap[b]? =some (.cells #[.int .i64 x.1.1.1,.int .i64 x.1.1.2,.int .i64 x.1.2.1,.int .i64 x.1.2.2.1,.string x.1.2.2.2,.int .i64 x.2.1,.int .i64 x.2.2.1,.string x.2.2.2] 284 (0,0))
theorem EntAt.cell {w:World} {b:Nat} {x:Ent} (h:EntAt w b x) (c:Nat) {u:Value} (hu:(gG x)[c]? =some u):w.cell? ⟨b,c,none⟩=some u:=by
 unfold EntAt at h;simp only [World.cell?,h];rw [<-hu];simp [gG]
theorem bw {X Y:World} {row:Option Nat} {cs:Array Value} {t:TypeId} {fr:Nat×Nat} (h:X.heap[b]? =some (.cells cs t fr)) (hg:X.grownBy Y row) (hr:∀r,row=some r->∃o:Obj,X.heap[r]? =some o/\o.isCells=false):Y.heap[b]? =some (.cells cs t fr):=by
 refine (hg.block b (vO.1 h).1 (fun e=> ?_)).trans h;obtain ⟨o',ho',hc'⟩:=hr b e.symm;rw [h] at ho'
 cases ho'
 cases hc'
theorem LH (w:World) (o1 o2:Obj):((w.alloc o1).alloc o2).heap[w.heap.size]? =some o1/\((w.alloc o1).alloc o2).heap[w.heap.size+1]? =some o2:=by
 refine ⟨(vZ _ _ _ zv).trans (heap_alloc_new w o1),?_⟩;have:=heap_alloc_new (w.alloc o1) o2;rwa [uP] at this
theorem LL (w:World) (o1 o2 o3 o4:Obj):((((w.alloc o1).alloc o2).alloc o3).alloc o4).heap[w.heap.size]? =some o1/\((((w.alloc o1).alloc o2).alloc o3).alloc o4).heap[w.heap.size+1]? =some o2/\((((w.alloc o1).alloc o2).alloc o3).alloc o4).heap[w.heap.size+1+1]? =some o3/\((((w.alloc o1).alloc o2).alloc o3).alloc o4).heap[w.heap.size+1+1+1]? =some o4:=by
 obtain ⟨a1,a2⟩:=LH w o1 o2;obtain ⟨a3,a4⟩:=LH ((w.alloc o1).alloc o2) o3 o4;simp only [uP] at a3 a4;exact ⟨(vZ _ _ _ yX).trans ((vZ _ _ _ yX).trans a1),(vZ _ _ _ yX).trans ((vZ _ _ _ yX).trans a2),a3,a4⟩
theorem tq {b1 b2:Nat} {t1 t2:TypeId} {v1 v2:Value} (u1 u2:Value) (h1:Boxed W b1 t1 v1) (h2:Boxed W b2 t2 v2) (hne:b1≠b2):
  Boxed ((W.setCell ⟨b1,0,none⟩ u1).setCell ⟨b2,0,none⟩ u2) b1 t1 u1/\Boxed ((W.setCell ⟨b1,0,none⟩ u1).setCell ⟨b2,0,none⟩ u2) b2 t2 u2:=
 ⟨(h1.set u1).kept (grownBy_setCell' _ _ _) (by simp [hne]),(h2.kept (grownBy_setCell' _ _ _) zr).set u2⟩
theorem fw (h:Below W.heap.size W W'):KeepsFrom N W W':=
 ⟨h.size,fun k _ _ hk _=>(h.block k (vO.1 hk).1).trans hk⟩
theorem oE (h:Below W.heap.size W W') (hg:g<W.heap.size) (hb:b<W.heap.size):KeepTwo g b W W':=⟨h.block g hg,h.block b hb⟩
theorem gX {pre:List Nat} {x:Nat} (h:pre++ [x]=List.range (pre++ [x]).length):pre=List.range pre.length/\x=pre.length:=by
 rw [ub,Zp,List.range_succ] at h;have:=List.append_inj' h rfl;exact ⟨this.1,by simpa using this.2⟩
theorem oA {L:List Ent} {r:Nat} (h:r<L.length):L[L.length - 1 - r]? =some (cE L r):=by
 exact kj8
theorem AS (w:World) (bt g cap:Nat) (ao:Option Addr) (L:List Ent) (ms:List Mov) (s:Int×Int) (hm:L.map (·.1)=ms) (hby:ax ms) (hlen:L.length<=1000) (hsl:w.cell? ⟨bt,1,none⟩=some (.slice ao L.length cap)) (hao:L= []\/ao=some ⟨g,0,none⟩) (hg:g<w.heap.size) (hrow:RowAt w g 0 L):
  Calls prog 187 #[.pointer (some ⟨bt,0,none⟩),.agg #[.int .i64 s.1,.int .i64 s.2]] w fun e w'=>(∃(i:Nat) (b:Bool),e= .returned (.tuple #[.int .i64 (i:Int),.bool b])/\sJ ms s i b)/\Below w.heap.size w w':=by
 have hbt:bt<w.heap.size:=block_lt_of_cell hsl
 have hsl3:∀o1 o2 o3,(((w.alloc o1).alloc o2).alloc o3).cell? ⟨bt,1,none⟩=some (.slice ao L.length cap):=fun o1 o2 o3=>
  (((((vP w.heap.size w).alloc zg o1).alloc zv o2).alloc zr o3).cell (p:=⟨bt,1,none⟩) hbt).trans hsl
 refine (callsIn_wide (n:=4)).1 ?_;refine callsIn_of_wp_marks func187 rfl trivial ?_ rfl;simp only [ntmps187,uA,uu,uM,Nat.reduceAdd,Nat.reduceSub,uT,uU,Zh,uX,Zb,Zl];gi_wp2_with (refine ⟨trivial,?_⟩;gi_at_call 227;refine (DV Fence.wide (4 - 1) trivial rfl _ _ _ _).mono ?_;rintro e w' ⟨rfl,rfl⟩);obtain ⟨w4,hw4⟩:=zc ((((w.alloc (.cells #[.int .i64 s.1,.int .i64 s.2] 36)).alloc (.cells #[.int .i64 0] 3)).alloc (.cells #[.bool false] 4)).alloc (.cells #[.slice ao L.length cap] 185));rw [<-hw4]
 have hB0:Below w.heap.size w w4:=by rw [hw4];exact (((((vP w.heap.size w).alloc zg _).alloc zv _).alloc zr _).alloc zr _)
 have hs4:w4.heap.size=w.heap.size+4:=by rw [hw4];simp
 obtain ⟨B,hB⟩:=zc w.heap.size
 have e1:StAt w4 B s:=by rw [hw4,hB];exact (LL w _ _ _ _).1
 have e2:Boxed w4 (B+1) 3 (.int .i64 0):=by rw [hw4,hB];exact (LL w _ _ _ _).2.1
 have e3:Boxed w4 (B+1+1) 4 (.bool false):=by rw [hw4,hB];exact (LL w _ _ _ _).2.2.1
 have e4:Boxed w4 (B+1+1+1) 185 (.slice ao L.length cap):=by rw [hw4,hB];exact (LL w _ _ _ _).2.2.2
 rw [<-hB] at hB0 hs4 hg hbt |-
 have HB:Aside (B=w.heap.size):=hB;have hBw:B<=w.heap.size:=zo;clear hB;have hrow4:RowAt w4 g 0 L:=hrow.same (hB0.block g hg)
 have hms:ms.length=L.length:=by rw [<-hm];simp
 clear hw4 hsl3 hrow
 refine wpIn_rangeFunc_ownH rfl zo (gf:=282) (lb:= #[.pointer (some ⟨B+1+1+1,0,none⟩)]) rfl trivial (enters_of func282 zq rfl)
  (nI Fence.wide (4 - 1) trivial rfl zo (B+1+1+1) g 0 cap ao L hlen hao w4 zo zo e4.cell hrow4) KeepTwo.trans (fun W l o o' hl _ _ _=>KeepTwo.put (N:=w4.heap.size) zo zo W l o' hl) (vP _ _) (fun _=>rfl)
  (fun pre W=>((pre=List.range pre.length->CV ms s (L.length - pre.length))/\StAt W B s/\Boxed W (B+1) 3 (.int .i64 0)/\Boxed W (B+1+1) 4 (.bool false)/\w4.heap.size<=W.heap.size)/\Below B w W)
  (fun c pre W=>(c= .ret/\(pre=List.range pre.length->∃(i:Nat) (b:Bool),sJ ms s i b/\Boxed W (B+1) 3 (.int .i64 (i:Int))/\Boxed W (B+1+1) 4 (.bool b)))/\Below B w W)
  (OwnFrom.and (Own.from (fun _ X Y row hs hg hr=>⟨hs.1,bw hs.2.1 hg hr,bw hs.2.2.1 hg hr,bw hs.2.2.2.1 hg hr,uf hs.2.2.2.2 hg.size⟩) _) (ownFrom_below zo zo))
  (fun c=>OwnFrom.and (Own.from (fun _ X Y row hs hg hr=>⟨hs.1,fun hp=>by obtain ⟨i,b,f1,f2,f3⟩:=hs.2 hp;exact ⟨i,b,f1,bw f2 hg hr,bw f3 hg hr⟩⟩) _) (ownFrom_below zo zo))
  ⟨⟨fun _=>by rw [uM,Nat.sub_zero,<-hms];exact DC ms s,e1,e2,e3,vM _⟩,hB0⟩
  (fun x a' W=>∃Bx,w4.heap.size<=Bx/\EntAt W Bx (cE L x)/\a'= {tmps:= #[.pointer (some ⟨bt,0,none⟩),.agg #[.int .i64 s.1,.int .i64 s.2],undef,.pointer (some ⟨B,0,none⟩),.pointer (some ⟨B+1,0,none⟩),.pointer (some ⟨B+1+1,0,none⟩),.int .i64 ((L.length - 1 - x:Nat):Int),.pointer (some ⟨Bx,0,none⟩),.pointer (some ⟨bt,0,none⟩),.pointer (some ⟨bt,0,none⟩),.pointer (some ⟨bt,1,none⟩),.slice ao L.length cap,.func (.func 282) #[] #[.pointer (some ⟨B+1+1+1,0,none⟩)],.int .i64 ((L.length - 1 - x:Nat):Int),.agg #[.int .i64 (cE L x).1.1.1,.int .i64 (cE L x).1.1.2,.int .i64 (cE L x).1.2.1,.int .i64 (cE L x).1.2.2.1,.string (cE L x).1.2.2.2,.int .i64 (cE L x).2.1,.int .i64 (cE L x).2.2.1,.string (cE L x).2.2.2],undef,undef,undef,undef,undef,undef,undef,undef,undef,undef,undef],defers:=[]})
  (fun x a'=>Own.from (fun _ X Y row hs hg hr=>yi) _)
  ?assign ?body ?done ?stop
 case assign=>
  rintro l pre x W K ⟨⟨hlat,hst,hr1,hr2,hsz⟩,hBW⟩ hK;have hBs:B<=W.heap.size:=zo;have hK':Aside _:=hK
  have H1:Aside (StAt W B s/\Boxed W (B+1) 3 (.int .i64 0)/\Boxed W (B+1+1) 4 (.bool false)/\Below B w W):=⟨hst,hr1,hr2,hBW⟩
  clear hK hst hr1 hr2 hBW;unfold Ko;gi_wp2;refine hK'.o _ _ ((KeepsOthers.alloc _ _).from _) ⟨vZ _ _ _ zo,vZ _ _ _ zo⟩ ⟨⟨hlat,?_,H1.o.2.1.alloc _,H1.o.2.2.1.alloc _,zr⟩,H1.o.2.2.2.alloc hBs _⟩ ⟨W.heap.size,zo,heap_alloc_new W _,rfl⟩;exact (vZ _ _ _ zo).trans H1.o.1
 case body=>
  rintro l pre x a' W hl _ ⟨⟨hlat,hst,hr1,hr2,hsz⟩,hBW⟩ ⟨Bx,hBx,hE,rfl⟩ hlt;have k0:=hst.c0;have k1:=hst.c1;have f0:=hE.cell 0 (u:=.int .i64 (cE L x).1.1.1) rfl;have f1:=hE.cell 1 (u:=.int .i64 (cE L x).1.1.2) rfl;have g1:=hr1.cell;have g2:=hr1.frozen;have g3:=hr2.cell;have g4:=hr2.frozen;have hq:=MX (cE L x).1.1.1 (cE L x).1.1.2 s.1 s.2;by_cases he:(cE L x).1.1=s
  ·have hd:decide (((cE L x).1.1.1,(cE L x).1.1.2)=(s.1,s.2))=true:=decide_eq_true he;rw [hd] at hq;gi_wp2;obtain ⟨q1,q2⟩:=tq (.int .i64 ((L.length - 1 - x:Nat):Int)) (.bool true) hr1 hr2 zo;refine ⟨((KeepsOthers.setCell _ _ _).trans (KeepsOthers.setCell _ _ _)).from _,⟨rfl,fun hp=> ?_⟩,(hBW.setCell (p:=⟨B+1,0,none⟩) jM _).setCell (p:=⟨B+1+1,0,none⟩) ju _⟩;obtain ⟨hp1,hp2⟩:=gX hp;have hix:=oA (L:=L) (r:=x) zo;exact ⟨L.length - 1 - x,true,Bi (m:=(cE L x).1) (by rw [<-hm,Zf,hix];rfl) he,q1,q2⟩
  have hd:decide (((cE L x).1.1.1,(cE L x).1.1.2)=(s.1,s.2))=false:=decide_eq_false he;rw [hd] at hq;by_cases hls:SLt (cE L x).1.1 s
  ·have hlb:=(pE (cE L x).1.1 s).2 hls;have hless:=oB (cE L x).1.1.1 (cE L x).1.1.2 s.1 s.2 W;rw [hlb] at hless;have hw1:IntKind.i64.wrap (((L.length - 1 - x:Nat):Int)+1)=((L.length - 1 - x:Nat):Int)+1:=zB
   have G:Aside (Boxed W (B+1) 3 (.int .i64 0)/\Boxed W (B+1+1) 4 (.bool false)):=⟨hr1,hr2⟩
   gi_wp2_with (refine ⟨trivial,?_⟩;gi_at_call 115;refine (CallsIn.inRound l (callsIn_wide.2 hless)).mono ?_;rintro e w' ⟨rfl,hb'⟩;have G1:Aside (Boxed w' (B+1) 3 (.int .i64 0)/\Boxed w' (B+1+1) 4 (.bool false)):=⟨(hb'.block _ zo).trans G.o.1,(hb'.block _ zo).trans G.o.2⟩;have m1:=G1.o.1.cell;have m2:=G1.o.1.frozen;have m3:=G1.o.2.cell;have m4:=G1.o.2.frozen);obtain ⟨q1,q2⟩:=tq (.int .i64 (((L.length - 1 - x:Nat):Int)+1)) (.bool false) G1.o.1 G1.o.2 zo;refine ⟨(fw hb').trans (((KeepsOthers.setCell _ _ _).trans (KeepsOthers.setCell _ _ _)).from _),⟨rfl,fun hp=> ?_⟩,((hBW.trans (hb'.mono zo)).setCell (p:=⟨B+1,0,none⟩) jM _).setCell (p:=⟨B+1+1,0,none⟩) ju _⟩;obtain ⟨hp1,hp2⟩:=gX hp;have hix:=oA (L:=L) (r:=x) zo;exact ⟨L.length - 1 - x+1,false,CX (m:=(cE L x).1) hby (by have:=hlat hp1;rwa [show L.length - pre.length=L.length - 1 - x+1 by omega] at this) (by rw [<-hm,Zf,hix];rfl) hls,q1,q2⟩
  have hlb:bL (cE L x).1.1.1 (cE L x).1.1.2 s.1 s.2=false:=by
   cases hh:bL (cE L x).1.1.1 (cE L x).1.1.2 s.1 s.2 with
   | false=>rfl
   | true=>exact absurd ((pE (cE L x).1.1 s).1 hh) hls
  have hless:=oB (cE L x).1.1.1 (cE L x).1.1.2 s.1 s.2 W;rw [hlb] at hless;gi_wp2_with (refine ⟨trivial,?_⟩;gi_at_call 115;refine (CallsIn.inRound l (callsIn_wide.2 hless)).mono ?_;rintro e w' ⟨rfl,hb'⟩);refine ⟨fw hb',oE hb' zo zo,⟨⟨fun hp=> ?_,(hb'.block _ zo).trans hst,(hb'.block _ zo).trans hr1,(hb'.block _ zo).trans hr2,by have:=hb'.size;omega⟩,hBW.trans (hb'.mono zo)⟩⟩;obtain ⟨hp1,hp2⟩:=gX hp;have hix:=oA (L:=L) (r:=x) zo;have h1:=hlat hp1;rw [show L.length - pre.length=L.length - 1 - x+1 by omega] at h1;rw [ub,Zp,show L.length - (pre.length+1)=L.length - 1 - x by omega];exact CO (m:=(cE L x).1) h1 (by rw [<-hm,Zf,hix];rfl) he hls
 case done=>
  rintro D ys W hD rfl ⟨⟨hlat,hst,hr1,hr2,hsz⟩,hBW⟩ hK;have g1:=hr1.cell;have g2:=hr1.frozen;have g3:=hr2.cell;have g4:=hr2.frozen;gi_wp2;have hK':=((KeepsOthers.setCell W ⟨B+1,0,none⟩ (.int .i64 0)).trans (KeepsOthers.setCell _ ⟨B+1+1,0,none⟩ (.bool false))).same D _ hK rfl;refine ⟨zv,.inl ⟨_,_,rfl,run_takeDeferred hK',?_⟩⟩;obtain ⟨q1,q2⟩:=tq (.int .i64 0) (.bool false) hr1 hr2 zo;have q3:Boxed _ (B+1) 3 (.int .i64 0):=bw q1 (grownBy_putObj' _ D (.deferred none)) (fun r e=>by cases e;exact ⟨_,hK',rfl⟩);have q4:Boxed _ (B+1+1) 4 (.bool false):=bw q2 (grownBy_putObj' _ D (.deferred none)) (fun r e=>by cases e;exact ⟨_,hK',rfl⟩);have q5:=q3.cell;have q6:=q4.cell;refine ⟨.tuple #[.int .i64 0,.bool false],?_,⟨0,false,rfl,wY (by have:=hlat zv;simpa using this)⟩,?_⟩
  ·simp [results,f187,go_sem,q5,q6]
  rw [<-HB.o];exact ((hBW.setCell (p:=⟨B+1,0,none⟩) jM _).setCell (p:=⟨B+1+1,0,none⟩) ju _).trans (belowK_b (w:=w) zo _ D _ _ vK hK' rfl rfl)
 case stop=>
  rintro D c pre W hD ⟨k,hk,rfl⟩ ⟨⟨rfl,hf⟩,hBW⟩ hK;obtain ⟨i,b,hF,hr1,hr2⟩:=hf zv;gi_wp2;refine ⟨zv,.inl ⟨_,_,rfl,run_takeDeferred hK,?_⟩⟩;have q3:Boxed _ (B+1) 3 (.int .i64 (i:Int)):=bw hr1 (grownBy_putObj' _ D (.deferred none)) (fun r e=>by cases e;exact ⟨_,hK,rfl⟩);have q4:Boxed _ (B+1+1) 4 (.bool b):=bw hr2 (grownBy_putObj' _ D (.deferred none)) (fun r e=>by cases e;exact ⟨_,hK,rfl⟩);have q5:=q3.cell;have q6:=q4.cell;refine ⟨.tuple #[.int .i64 (i:Int),.bool b],?_,⟨i,b,rfl,hF⟩,?_⟩
  ·simp [results,f187,go_sem,q5,q6]
  exact kg2
