import Derived.Test.YtehighgebbdenaaGreatDoorRa24
set_option maxHeartbeats 64000000
section
namespace Go.Proofs.YtehighgebbdenaaGreatDoor
open Go.RowKit Go.Lib Go.Sort Go.Maps
variable {cap:Nat} {ao:Option Addr} {w:World}
theorem below_drewN {B:Nat} {w':World} (h:Below B w w') (q:Nat):Below B w (w'.drewN q):=⟨h.os,h.tape,h.output,h.size,h.block⟩
def stX (x:OpX):Int×Int:=(x.1,x.2.1)
def FX (x:OpX):Mov:=(stX x,(x.2.2.2.2.1,x.2.2.2.2.2.1,x.2.2.2.2.2.2.1))
theorem wy {base n k:Nat} {e:TypeId} {xs:List Value} (h:w.ownsRow base e k (.slice ao n cap) n xs) (hn:0<n):∃g,ao=some ⟨g,0,none⟩:=by
 rcases h.2 with ⟨h1,h2⟩ | ⟨g,cap',cur,h1,_⟩
 ·omega
 cases h1;exact ⟨g,rfl⟩
theorem PlsAt.three {qs:List Plc} (h:PlsAt w (.slice ao qs.length cap) qs) {i:Nat} {c q:Int} {nm:ByteArray} (hi:qs[i]? =some (c,q,nm)):∃g,ao=some ⟨g,0,none⟩/\w.cell? ⟨g,i*3,none⟩=some (.int .i64 c)/\w.cell? ⟨g,i*3+1,none⟩=some (.int .i64 q)/\w.cell? ⟨g,i*3+2,none⟩=some (.string nm):=by
 rcases h with ⟨_,rfl⟩ | ⟨g,cap',he,_,hc⟩
 ·simp at hi
 cases he
 have hg:=fun k hk=>dM (enc:=aM) (k:=3) (fun _=>rfl) (c:=k) hi hk
 exact ⟨g,rfl,hc _ _ (hg 0 zo),hc _ _ (hg 1 zo),hc _ _ (hg 2 zo)⟩
end Go.Proofs.YtehighgebbdenaaGreatDoor
end
section
namespace Go.Proofs.YtehighgebbdenaaGreatDoor
open scoped Classical
variable {x y:Int} {l:List Plc} {k:Nat} {p:Plc} {f:Sta}
def rg (l:List Plc) (node:Int):Option Nat:=l.findIdx? (fun p=>decide (p.1=node))
theorem fA {node:Int} (h:rg l node=some k):∃p,l[k]? =some p/\p.1=node:=by
 unfold rg at h;obtain ⟨hk,h1,_⟩:=List.findIdx?_eq_some_iff_getElem.1 h;exact ⟨l[k],vN hk,xu⟩
theorem rD {node:Int} (h:rg l node=none):∀p∈l,p.1≠node:=by
 unfold rg at h;rw [List.findIdx?_eq_none_iff] at h;intro p hp e;have:=h p hp;simp [e] at this
theorem KY (G:gr f) (hp:IsPlaces f l) {node:Int} :f node=(rg l node).bind (fun k=>l[k]?):=by
 cases h:rg l node with
 | none=>
  cases hf:f node with
  | none=>rfl
  | some p=>
   have hk:=G.key node p hf;exact absurd hk (rD h p ((hp.mem p).2 (by rw [hk];exact hf)))
 | some k=>
  obtain ⟨p,h1,h2⟩:=fA h;have:=(hp.mem p).1 (vQ h1);rw [h2] at this;rw [this,Option.bind_some,h1]
theorem rG {n m:Nat} (h:n<=m) (hi:ki f n x y=true):ki f m x y=true:=by
 induction h with
 | refl=>exact hi
 | step _ ih=>exact rI f _ _ _ ih
def below (d:Int->Nat) (l:List Plc) (x:Int):Nat:=l.countP (fun p=>decide (d p.1<d x))
theorem rK {α:Type} {p q:α->Bool} :∀(l:List α),(∀x∈l,p x=true->q x=true)->(∃x∈l,p x=false/\q x=true)->l.countP p+1<=l.countP q
 | [],_,⟨x,hx,_⟩=>qP
 | a::r,h,⟨x,hx,h1,h2⟩=>by
  rcases vT.1 hx with rfl | hx
  ·rw [List.countP_cons_of_neg (by simp [h1]),List.countP_cons_of_pos h2];have:=List.countP_mono_left (l:=r) (p:=p) (q:=q) (fun y hy=>h y jo);omega
  have ih:=rK r (fun y hy=>h y jo) ⟨x,hx,h1,h2⟩
  cases ha:p a with
  | true=>rw [List.countP_cons_of_pos ha,List.countP_cons_of_pos (h a zv ha)];omega
  | false=>
   rw [List.countP_cons_of_neg (by simp [ha])]
   have:r.countP q<=(a::r).countP q:=by rw [List.countP_cons];omega
   omega
theorem nY {f:Sta} {l:List Plc} {d:Int->Nat} (G:gr f) (hp:IsPlaces f l) (hd:Hi f d):∀(n:Nat) (x y:Int),ki f n x y=true->ki f (below d l x+1) x y=true
 | 0,_,_,h=>by simp [ki] at h
 | n+1,x,y,h=>by
  cases hf:f x with
  | none=>rw [fg hf] at h;cases h
  | some p=>
   rw [eF hf,Zz] at h |-
   rcases h with h | h
   ·exact .inl h
   right;have ih:=nY G hp hd n _ _ h
   cases hq:f p.2.1 with
   | none=>rw [fg hq] at h;cases h
   | some q=>
    have hk:=G.key _ q hq;have hdx:=hd x p hf;refine rG (rK l (fun z _ hz=> ?_) ⟨q,(hp.mem q).2 (by rw [hk];exact hq),?_,?_⟩) ih
    ·simp at hz |-;omega
    ·simp [hk]
    simp [hk];exact hdx
theorem kY (G:gr f) (hp:IsPlaces f l) :Ins f x y↔ki f (l.length+1) x y=true:=by
 constructor
 ·rintro ⟨n,hn⟩;obtain ⟨d,hd⟩:=G.rank;refine rG ?_ (nY G hp hd n x y hn);have:below d l x<=l.length:=List.countP_le_length;omega
 exact fun h=>⟨_,h⟩
theorem BD (hp:IsPlaces f l) (hk:rg l p.1=some k):IsPlaces (upd f p.1 (some p)) (l.set k p):=by
 obtain ⟨q,h1,h2⟩:=fA hk;obtain ⟨hkl,hke⟩:=vL.1 h1
 have hmap:(l.set k p).map (·.1)=l.map (·.1):=by
  rw [List.map_set];apply List.ext_getElem?;intro j;by_cases e:j=k
  ·subst e;rw [Zm (by simpa using hkl)];simp [h1,h2]
  rw [ZH zo]
 have hr:(l.set k p).Pairwise (fun a b=>a.1<b.1):=by
  have:=hp.rise;have h3:(l.map (·.1)).Pairwise (· < ·):=ZA.2 this;rw [<-hmap] at h3;exact ZA.1 h3
 refine ⟨hr,fun z=> ?_⟩;by_cases e:z.1=p.1
 ·rw [e,eU];constructor
  ·intro hz;have hpm:p∈l.set k p:=Zo.2 ⟨k,Zm hkl⟩;obtain ⟨i,hi⟩:=Zo.1 hz;obtain ⟨j,hj⟩:=Zo.1 hpm;obtain ⟨hil,hie⟩:=vL.1 hi;obtain ⟨hjl,hje⟩:=vL.1 hj
   rcases ZM i j with h | h | h
   ·have:=ud.1 hr i j hil hjl h;rw [hie,hje] at this;omega
   ·subst h;exact hj.symm.trans hi
   have:=ud.1 hr j i hjl hil h;rw [hie,hje] at this;omega
  intro h
  cases h
  exact Zo.2 ⟨k,Zm hkl⟩
 rw [ct e,<-hp.mem z];constructor
 ·intro hz;obtain ⟨i,hi⟩:=Zo.1 hz;by_cases hik:i=k
  ·subst hik;rw [Zm hkl] at hi
   cases hi
   exact absurd rfl e
  rw [ZH zo] at hi;exact vQ hi
 intro hz;obtain ⟨i,hi⟩:=Zo.1 hz;refine Zo.2 ⟨i,?_⟩;by_cases hik:i=k
 ·subst hik;rw [h1] at hi
  cases hi
  exact absurd h2 e
 rw [ZH zo];exact hi
theorem AE (hp:IsPlaces f l) (hno:rg l p.1=none) (hlt:∀x∈l.take k,x.1<p.1) (hge:∀x,l[k]? =some x->¬x.1<p.1):IsPlaces (upd f p.1 (some p)) (l.take k++p::l.drop k):=by
 have hne:=rD hno
 have hgt:∀x∈l.drop k,p.1<x.1:=by
  intro x hx
  cases hk:l[k]? with
  | none=>
   rw [List.getElem?_eq_none_iff] at hk;rw [Zk hk] at hx;simp at hx
  | some y=>
   have hy:=hge y hk;have hyn:=hne y (vQ hk);obtain ⟨hkl,hke⟩:=vL.1 hk;rw [uQ hkl,hke] at hx
   rcases vT.1 hx with rfl | hx
   ·omega
   have hpw:(l.drop k).Pairwise (fun a b=>a.1<b.1):=hp.rise.sublist (List.drop_sublist _ _);rw [uQ hkl,hke] at hpw;have:=(uC.1 hpw).1 x hx;omega
 refine ⟨?_,fun z=> ?_⟩
 ·rw [uY];refine ⟨hp.rise.sublist (List.take_sublist _ _),uC.2 ⟨hgt,hp.rise.sublist (List.drop_sublist _ _)⟩,fun a ha b hb=> ?_⟩
  rcases vT.1 hb with rfl | hb
  ·exact hlt a ha
  have h1:=hlt a ha;have h2:=hgt b hb;omega
 have hmem:z∈l.take k++p::l.drop k↔z=p\/z∈l:=by
  conv=>rhs;rw [<-ur k l]
  simp only [vW,vT];exact ⟨fun h=>h.elim (fun h=>.inr (.inl h)) (fun h=>h.elim .inl (fun h=>.inr (.inr h))),fun h=>h.elim (fun h=>.inr (.inl h)) (fun h=>h.elim .inl (fun h=>.inr (.inr h)))⟩
 rw [hmem];by_cases e:z.1=p.1
 ·rw [e,eU];constructor
  ·rintro (h | h)
   ·rw [h]
   exact absurd e (hne z h)
  intro h;cases h;exact .inl rfl
 rw [ct e,<-hp.mem z];exact ⟨fun h=>h.elim (fun h=>absurd (by rw [h]) e) id,.inr⟩
end Go.Proofs.YtehighgebbdenaaGreatDoor
namespace Go.Proofs.YtehighgebbdenaaGreatDoor
open Go.Proofs.Tryz
open Go.RowKit Go.Lib Go.Sort Go.Maps
open scoped Classical
variable {qs:List Plc}
def tH (qs:List Plc) (node:Int):Int:=match rg qs node with | some k=>(k:Int) | none=> -1
theorem Eb {node:Int} (h:∀j,j<qs.length->(qs[j]!).1≠node):rg qs node=none:=by
 unfold rg;rw [List.findIdx?_eq_none_iff];intro p hp;obtain ⟨j,hj,rfl⟩:=uN hp;have:=h j hj;rw [getElem!_pos qs j hj] at this;simpa using this
theorem EN {node:Int} {i:Nat} (hi:i<qs.length) (he:(qs[i]!).1=node) (h:∀j,j<i->(qs[j]!).1≠node):rg qs node=some i:=by
 unfold rg;refine List.findIdx?_eq_some_iff_getElem.2 ⟨hi,?_,fun j hj=> ?_⟩
 ·rw [getElem!_pos qs i hi] at he;simpa using he
 have:=h j hj;rw [getElem!_pos qs j zo] at this;simpa using this
theorem gh (w:World) (ao:Option Addr) (cap:Nat) (qs:List Plc) (node:Int) (h:PlsAt w (.slice ao qs.length cap) qs) (hn:qs.length<=1000):
  Calls prog 95 #[.slice ao qs.length cap,.int .i64 node] w fun e w'=>e= .returned (.int .i64 (tH qs node))/\w'=w:=by
 have HP:Aside (PlsAt w (.slice ao qs.length cap) qs):=h;clear h;go_enter func95,ntmps95;go_wp2;go_loopg [5] qs.length (fun kx s5 wr=>∃(i:Nat),s5= .int .i64 (i:Int)/\i<=qs.length/\qs.length - i<=kx/\wr=w/\Aside (∀j,j<i->(qs[j]!).1≠node))
 case atStart=>exact ⟨0,rfl,vV _,vM _,rfl,fun j hj=>absurd hj (Nat.not_lt_zero _)⟩
 case round=>
  obtain ⟨i,rfl,hi,hkx,rfl,A⟩:=hrel;by_cases hlt:i<qs.length
  ·have hltz:decide ((i:Int)<(qs.length:Int))=true:=by simp;omega
   have ex:((i:Int)).toNat=i:=zo;have px:(0:Int)<=(i:Int):=zo;have bx:(i:Int)<(qs.length:Int):=zo
   obtain ⟨⟨c,q,nm⟩,hp⟩:∃p:Plc,qs[i]? =some p:=⟨_,vN hlt⟩
   obtain ⟨g,rfl,x0,-,-⟩:=HP.o.three hp
   have hc:Aside ((qs[i]!).1=c):=by
    have:=(vL.1 hp).2
    show (qs[i]!).1=c
    rw [getElem!_pos qs i hlt,this]
   clear hp;by_cases he:c=node
   ·have hd:(c==node)=true:=by simp [he]
    have HE:Aside (tH qs node=(i:Int)):=by
     show tH qs node=(i:Int)
     unfold tH;rw [EN hlt (hc.o.trans he) A.o]
    clear he;exact ko0
   have hd:(c==node)=false:=by simp [he]
   go_wp2;go_roundg (qs.length - (i+1))
   case measure=>omega
   case rel=>
    refine ⟨i+1,zD,zo,vM _,rfl,fun j hj=> ?_⟩
    rcases uJ j i with h | h
    ·exact A.o j h
    obtain rfl:j=i:=zo;rw [hc.o];exact he
  have hltz:decide ((i:Int)<(qs.length:Int))=false:=zr
  have HE:Aside (tH qs node= -1):=by
   show tH qs node= -1
   unfold tH;rw [Eb (fun j hj=>A.o j zo)]
  exact ko0
theorem kM (w:World) (ao:Option Addr) (cap:Nat) (qs:List Plc) (f:Sta) (node of:Int) (G:gr f) (hp:IsPlaces f qs) (h:PlsAt w (.slice ao qs.length cap) qs) (hn:qs.length<=1000):
  Calls prog 36 #[.slice ao qs.length cap,.int .i64 node,.int .i64 of] w fun e w'=>e= .returned (.bool (ki f (qs.length+1) node of))/\w'=w:=by
 have HP:Aside (PlsAt w (.slice ao qs.length cap) qs/\gr f/\IsPlaces f qs):=⟨h,G,hp⟩
 clear h G hp
 obtain ⟨zz,hzz⟩:∃zz,Aside (ki f (qs.length+1) node of=zz):=⟨_,rfl⟩
 rw [hzz.o];go_enter func36,ntmps36;go_wp2;go_loopg [1,7] (qs.length+1) (fun kx s1 s7 wr=>∃(i:Nat) (x:Int),s1= .int .i64 x/\s7= .int .i64 (i:Int)/\i<=qs.length+1/\qs.length+1 - i<=kx/\wr=w/\Aside (ki f (qs.length+1 - i) x of=zz))
 case atStart=>exact ⟨0,node,rfl,rfl,vV _,vM _,rfl,hzz.o⟩
 case round=>
  obtain ⟨i,x,rfl,rfl,hi,hkx,rfl,A⟩:=hrel;by_cases hlt:i<=qs.length
  ·have hltz:decide ((i:Int)<=(qs.length:Int))=true:=by simp;omega
   obtain ⟨mm,hmm⟩:∃mm,Aside (qs.length+1 - i=mm+1):=⟨qs.length - i,show qs.length+1 - i=qs.length - i+1 by omega⟩
   have hat:=KY HP.o.2.1 HP.o.2.2 (node:=x)
   cases hix:rg qs x with
   | none=>
    rw [hix] at hat
    have HZ:Aside (zz=false):=by
     have:=A.o;rw [fg hat] at this;exact this.symm
    have e1:tH qs x= -1:=by unfold tH;rw [hix]
    have hc:=gh wr ao cap qs x HP.o.1 hn;rw [e1] at hc;clear hat hix e1;exact kk1
   | some k=>
    obtain ⟨⟨c,q,nm⟩,hpk,hpc⟩:=fA hix;rw [hix,Option.bind_some,hpk] at hat
    have e1:tH qs x=(k:Int):=by unfold tH;rw [hix]
    have hc:=gh wr ao cap qs x HP.o.1 hn;rw [e1] at hc;have hkl:k<qs.length:=(vL.1 hpk).1;have ex:((k:Int)).toNat=k:=zo;have px:(0:Int)<=(k:Int):=zo;have bx:(k:Int)<(qs.length:Int):=zo;have dk:decide ((k:Int)<0)=false:=zv;obtain ⟨g,rfl,x0,x1,x2⟩:=HP.o.1.three hpk;have AA:=A.o;rw [hmm.o,eF hat] at AA;clear x0 x2 hat hix e1 hpk;by_cases he:q=of
    ·have hd:(q==of)=true:=by simp [he]
     have HZ:Aside (zz=true):=by
      rw [decide_eq_true (show (c,q,nm).2.1=of from he)] at AA;exact AA.symm
     clear AA he;exact kk1
    have hd:(q==of)=false:=by simp [he]
    have HZ:Aside (ki f mm q of=zz):=by
     rw [decide_eq_false (show ¬(c,q,nm).2.1=of from he),Bool.false_or] at AA;exact AA
    clear AA he;go_wp2_with fail;refine hc.mono ?_;rintro e w1 ⟨rfl,hw1⟩;subst hw1;go_wp2;go_roundg (qs.length+1 - (i+1))
    case measure=>omega
    case rel=>
     refine ⟨i+1,q,rfl,zD,zo,vM _,rfl,?_⟩
     have e3:qs.length+1 - (i+1)=mm:=by have:=hmm.o;omega
     show ki f (qs.length+1 - (i+1)) q of=zz
     rw [e3];exact HZ.o
  have hltz:decide ((i:Int)<=(qs.length:Int))=false:=zr
  have HZ:Aside (zz=false):=by
   have:=A.o;have e3:qs.length+1 - i=0:=zo;rw [e3] at this;exact this.symm
  go_wp2;go_ret;exact ⟨by rw [HZ.o];rfl,rfl⟩
end Go.Proofs.YtehighgebbdenaaGreatDoor
namespace Go.Proofs.YtehighgebbdenaaGreatDoor
open Go.RowKit Go.Lib Go.Sort
open scoped Classical
variable {name:ByteArray} {ys:List OpX} {qs:List Plc} {g i k n:Nat} {y:OpX} {e:TypeId} {ov v:Value} {w w1 wr wr':World}
theorem KE:(Tryz.prog.info? 95).map (fun i=>(i.zero,i.size,i.bytes))=some (some (.agg #[.int .i64 0,.int .i64 0,.string ⟨#[]⟩]),3,32):=zq
theorem nX {base:Nat} (h:w.ownsRow base e 3 v qs.length (aA aM qs)):PlsAt w v qs:=by
 rcases h.2 with ⟨h1,h2⟩ | ⟨g,cap,cur,rfl,_⟩
 ·exact kq1
 refine .inr ⟨g,cap,rfl,(h.lt g rfl).2,fun j u hj=> ?_⟩;have hl:j<(aA aM qs).length:=(vL.1 hj).1;rw [bR (k:=3) (fun _=>rfl)] at hl;rw [h.cellAt j hl,hj]
theorem LP {base cap:Nat} (p:Plc) (h:w.ownsRow base e 3 (.slice (some ⟨g,0,none⟩) n cap) n (aA aM qs)) (hk:k<qs.length):
  (((w.setCell ⟨g,k*3,none⟩ (.int .i64 p.1)).setCell ⟨g,k*3+1,none⟩ (.int .i64 p.2.1)).setCell ⟨g,k*3+2,none⟩ (.string p.2.2)).ownsRow base e 3 (.slice (some ⟨g,0,none⟩) n cap) n (aA aM (qs.set k p)):=by
 have e1:aA aM qs=(aA aM qs).take (k*3)++aM qs[k]++(aA aM qs).drop ((k+1)*3):=by
  have:=dN (enc:=aM) (k:=3) (fun _=>rfl) qs k hk qs[k];rwa [Yj] at this
 have e2:=dN (enc:=aM) (k:=3) (fun _=>rfl) qs k hk p
 have hl:((aA aM qs).take (k*3)).length=k*3:=by
  rw [ug,bR (k:=3) (fun _=>rfl)];omega
 rw [e1] at h;rw [e2];have:=ff (vs:=aM p) h rfl;rw [hl] at this;exact this
theorem Da (w:World) (p:Plc) (j:Nat) (u:Value) (hj:(aM p)[j]? =some u):(w.alloc (.cells #[.int .i64 p.1,.int .i64 p.2.1,.string p.2.2] 95)).cell? ((⟨w.heap.size,0,none⟩:Addr).add j)=some u:=by
 have hl:j<1*3:=by have:=(vL.1 hj).1;simpa [aM] using this
 have h:=World.ownsRow_lit (base:=0) (e:=95) (size:=3) w #[.int .i64 p.1,.int .i64 p.2.1,.string p.2.2] 1 (vV _) (by simp [maxLen]) rfl;rw [Addr.add_lit,vY,h.cellAt j hl];exact hj
theorem Ei (w:World) (c q:Int) (nm:ByteArray):(w.alloc (.cells #[.int .i64 c,.int .i64 q,.string nm] 95)).cell? ⟨w.heap.size,0,none⟩=some (.int .i64 c)/\(w.alloc (.cells #[.int .i64 c,.int .i64 q,.string nm] 95)).cell? ⟨w.heap.size,1,none⟩=some (.int .i64 q)/\(w.alloc (.cells #[.int .i64 c,.int .i64 q,.string nm] 95)).cell? ⟨w.heap.size,2,none⟩=some (.string nm):=by
 have h:=fun j u hj=>Da w (c,q,nm) j u hj
 exact ⟨h 0 _ rfl,h 1 _ rfl,h 2 _ rfl⟩
theorem lI (k:Nat) (h:∀j u,(aA aM qs)[j]? =some u->w.cell? ⟨g,j,none⟩=some u) (j:Nat) (u:Value) (hj:(aA aM (qs.take k))[j]? =some u):w.cell? ((⟨g,0,none⟩:Addr).add j)=some u:=by
 rw [Addr.add_lit,vY];refine h j u ?_;have e:aA aM qs=aA aM (qs.take k)++aA aM (qs.drop k):=jZ;exact kr9
theorem mW (k:Nat) (hk:k<=qs.length) (h:∀j u,(aA aM qs)[j]? =some u->w.cell? ⟨g,j,none⟩=some u) (j:Nat) (u:Value) (hj:(aA aM (qs.drop k))[j]? =some u):w.cell? ((⟨g,k*3,none⟩:Addr).add j)=some u:=by
 rw [Addr.add_lit];refine h _ u ?_;have e:aA aM qs=aA aM (qs.take k)++aA aM (qs.drop k):=jZ
 have hl:(aA aM (qs.take k)).length=k*3:=by rw [bR (k:=3) (fun _=>rfl),ug];congr 1;omega
 exact kr4
theorem rN {b b':Nat} {xs:List Value} (h:w.ownsRow b e k v n xs) (hb:b'<=b):w.ownsRow b' e k v n xs:=by
 refine ⟨h.1,?_⟩
 rcases h.2 with h0 | ⟨g,cap,cur,rfl,h1,h2⟩
 ·exact .inl h0
 exact .inr ⟨g,cap,cur,rfl,zo,h2⟩
structure St4 (w1:World) (ys:List OpX) (i:Nat) (qs:List Plc) (ov:Value) (wr:World):Prop where
 row:wr.ownsRow w1.heap.size 95 3 ov qs.length (aA aM qs)
 pls:IsPlaces (aN (ai (ys.take i))) qs
 len:qs.length<=i
 below:Below w1.heap.size w1 wr
theorem lw (h:kdO y=109):Gg y=some (FX y):=by unfold Gg FX stX;rw [if_pos h]
theorem gA (h:kdO y≠109):Gg y=none:=by unfold Gg;rw [if_neg h]
theorem St4.good (_:St4 w1 ys i qs ov wr) (h:∀y∈ys,kdO y=109->FineP (FX y).2):gr (aN (ai (ys.take i))):=
 fq fun m hm=>by
  obtain ⟨y,hy,he⟩:=Zv.1 hm;by_cases hk:kdO y=109
  ·rw [lw hk] at he
   cases he
   exact h y (ZB hy) hk
  rw [gA hk] at he
  cases he
theorem pw (hi:i<ys.length):ys.take (i+1)=ys.take i++ [ys[i]!]:=by
 rw [uS,vN hi,getElem!_pos ys i hi];rfl
theorem pP (hi:i<ys.length) (hk:kdO ys[i]! =109):aN (ai (ys.take (i+1)))=step (aN (ai (ys.take i))) (FX ys[i]!):=by
 unfold ai;rw [pw hi,List.filterMap_append]
 have:List.filterMap Gg [ys[i]!]= [FX ys[i]!]:=by rw [List.filterMap_cons,lw hk];rfl
 rw [this];exact pA _ _
theorem EM (hi:i<ys.length) (hk:kdO ys[i]! ≠109):ai (ys.take (i+1))=ai (ys.take i):=by
 unfold ai;rw [pw hi,List.filterMap_append]
 have:List.filterMap Gg [ys[i]!]= []:=by rw [List.filterMap_cons,gA hk];rfl
 rw [this,Zi]
theorem St4.idle (h:St4 w1 ys i qs ov wr) (hi:i<ys.length) (hk:kdO ys[i]! =109) (hb:Below wr.heap.size wr wr') (hd:BK (aN (ai (ys.take i))) (FX ys[i]!).2):St4 w1 ys (i+1) qs ov wr':=
 ⟨cY h.row (fun g hg=>hb.block g (h.row.lt g hg).2),by rw [pP hi hk,fj hd];exact h.pls,by have:=h.len;omega,zj h.below hb⟩
theorem St4.skip (h:St4 w1 ys i qs ov wr) (hi:i<ys.length) (hk:kdO ys[i]! ≠109) (hb:Below wr.heap.size wr wr'):St4 w1 ys (i+1) qs ov wr':=
 ⟨cY h.row (fun g hg=>hb.block g (h.row.lt g hg).2),by rw [EM hi hk];exact h.pls,by have:=h.len;omega,zj h.below hb⟩
theorem St4.later (h:St4 w1 ys i qs ov wr) (hb:Below wr.heap.size wr wr'):St4 w1 ys i qs ov wr':=
 ⟨cY h.row (fun g hg=>hb.block g (h.row.lt g hg).2),h.pls,h.len,zj h.below hb⟩
theorem St4.set {w1:World} {ys:List OpX} {i:Nat} {qs:List Plc} {g cg k:Nat} {wr:World} {node other:Int} {name:ByteArray} (h:St4 w1 ys i qs (.slice (some ⟨g,0,none⟩) qs.length cg) wr) (hk:rg qs node=some k) (hID:aN (ai (ys.take (i+1)))=upd (aN (ai (ys.take i))) node (some (node,other,name))):
  St4 w1 ys (i+1) (qs.set k (node,other,name)) (.slice (some ⟨g,0,none⟩) qs.length cg) (((wr.setCell ⟨g,k*3,none⟩ (.int .i64 node)).setCell ⟨g,k*3+1,none⟩ (.int .i64 other)).setCell ⟨g,k*3+2,none⟩ (.string name)):=by
 obtain ⟨p,hp,_⟩:=fA hk;have hkl:=(vL.1 hp).1;have hg:=(h.row.lt g rfl).1;refine ⟨by rw [Zt];exact LP (node,other,name) h.row hkl,by rw [hID];exact BD (p:=(node,other,name)) h.pls hk,by rw [Zt];have:=h.len;omega,h.below.trans ?_⟩;exact (lU wr g _ _ _ _ _ _).below h.below.size (fun j e=>by rw [e];exact hg)
theorem St4.lay {v':Value} {w':World} {node other:Int} (h:St4 w1 ys i qs ov wr) (hk:rg qs node=none) (hID:aN (ai (ys.take (i+1)))=upd (aN (ai (ys.take i))) node (some (node,other,name)))
  (hkl:k<=qs.length) (hl:∀j,j<k->(qs[j]!).1<node) (hge:k<qs.length->¬(qs[k]!).1<node) (hrow:w'.ownsRow w1.heap.size 95 3 v' (k+1+(qs.length - k)) (aA aM (qs.take k)++aM (node,other,name)++aA aM (qs.drop k))) (hb:Below w1.heap.size w1 w'):
  St4 w1 ys (i+1) (qs.take k++(node,other,name)::qs.drop k) v' w':=by
 have hlen:(qs.take k++(node,other,name)::qs.drop k).length=k+1+(qs.length - k):=by
  rw [ub,uu,ug,uy];omega
 have hfl:aA aM (qs.take k++(node,other,name)::qs.drop k)=aA aM (qs.take k)++aM (node,other,name)++aA aM (qs.drop k):=by
  rw [bX,ee,ux]
 refine ⟨by rw [hlen,hfl];exact hrow,?_,by rw [hlen];have:=h.len;omega,hb⟩;rw [hID];refine AE (p:=(node,other,name)) h.pls hk (fun x hx=> ?_) (fun x hx=> ?_)
 ·obtain ⟨j,hj,rfl⟩:=List.mem_iff_getElem.1 hx;rw [ug] at hj;have:=hl j zo;rw [getElem!_pos qs j zo] at this;rwa [ZG]
 obtain ⟨hkl',hke⟩:=vL.1 hx;have:=hge hkl';rw [getElem!_pos qs k hkl',hke] at this;exact this
