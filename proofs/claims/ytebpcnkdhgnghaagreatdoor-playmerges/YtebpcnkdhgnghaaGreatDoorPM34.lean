import Derived.Test.YtebpcnkdhgnghaaGreatDoorPM29
set_option linter.unusedSimpArgs false
set_option linter.unusedVariables false
set_option maxRecDepth 100000
set_option maxHeartbeats 64000000
section
namespace Go.Proofs.YtebpcnkdhgnghaaGreatDoor
open scoped Classical
variable {x y:Int} {l:List Plc} {k:Nat} {p:Plc} {f:Sta}
def pB (l:List Plc) (node:Int):Option Nat:=l.findIdx? (fun p=>decide (p.1=node))
theorem fq {node:Int} (h:pB l node=some k):∃p,l[k]? =some p/\p.1=node:=by
 unfold pB at h
 obtain ⟨hk,h1,_⟩:=List.findIdx?_eq_some_iff_getElem.1 h
 exact ⟨l[k],vF hk,xp⟩
theorem rb {node:Int} (h:pB l node=none):∀p∈l,p.1≠node:=by
 unfold pB at h
 rw [List.findIdx?_eq_none_iff] at h
 intro p hp e
 have:=h p hp
 simp [e] at this
theorem Mh (G:gj f) (hp:IsPlaces f l) {node:Int} :f node=(pB l node).bind (fun k=>l[k]?):=by
 cases h:pB l node with
 | none=>
  cases hf:f node with
  | none=>rfl
  | some p=>
   have hk:=G.key node p hf
   exact absurd hk (rb h p ((hp.mem p).2 (by rw [hk];exact hf)))
 | some k=>
  obtain ⟨p,h1,h2⟩:=fq h
  have:=(hp.mem p).1 (vH h1)
  rw [h2] at this
  rw [this,Option.bind_some,h1]
theorem rF {n m:Nat} (h:n<=m) (hi:lv f n x y=true):lv f m x y=true:=by
 induction h with
 | refl=>exact hi
 | step _ ih=>exact pw f _ _ _ ih
def below (d:Int->Nat) (l:List Plc) (x:Int):Nat:=l.countP (fun p=>decide (d p.1<d x))
theorem rS {α:Type} {p q:α->Bool} :∀(l:List α),(∀x∈l,p x=true->q x=true)->(∃x∈l,p x=false/\q x=true)->l.countP p+1<=l.countP q
 | [],_,⟨x,hx,_⟩=>zW
 | a::r,h,⟨x,hx,h1,h2⟩=>by
  rcases vJ.1 hx with rfl | hx
  ·rw [List.countP_cons_of_neg (by simp [h1]),List.countP_cons_of_pos h2]
   have:=List.countP_mono_left (l:=r) (p:=p) (q:=q) (fun y hy=>h y xE)
   omega
  have ih:=rS r (fun y hy=>h y xE) ⟨x,hx,h1,h2⟩
  cases ha:p a with
  | true=>rw [List.countP_cons_of_pos ha,List.countP_cons_of_pos (h a zt ha)];omega
  | false=>
   rw [List.countP_cons_of_neg (by simp [ha])]
   have:r.countP q<=(a::r).countP q:=by rw [List.countP_cons];omega
   omega
theorem nN {f:Sta} {l:List Plc} {d:Int->Nat} (G:gj f) (hp:IsPlaces f l) (hd:Jn f d):∀(n:Nat) (x y:Int),lv f n x y=true->lv f (below d l x+1) x y=true
 | 0,_,_,h=>by simp [lv] at h
 | n+1,x,y,h=>by
  cases hf:f x with
  | none=>rw [fu hf] at h;cases h
  | some p=>
   rw [eE hf,Zo] at h |-
   rcases h with h | h
   ·exact .inl h
   right
   have ih:=nN G hp hd n _ _ h
   cases hq:f p.2.1 with
   | none=>rw [fu hq] at h;cases h
   | some q=>
    have hk:=G.key _ q hq
    have hdx:=hd x p hf
    refine rF (rS l (fun z _ hz=> ?_) ⟨q,(hp.mem q).2 (by rw [hk];exact hq),?_,?_⟩) ih
    ·simp at hz |-;omega
    ·simp [hk]
    simp [hk];exact hdx
theorem nR (G:gj f) (hp:IsPlaces f l) :Ins f x y↔lv f (l.length+1) x y=true:=by
 constructor
 ·rintro ⟨n,hn⟩
  obtain ⟨d,hd⟩:=G.rank
  refine rF ?_ (nN G hp hd n x y hn)
  have:below d l x<=l.length:=List.countP_le_length
  omega
 exact fun h=>⟨_,h⟩
theorem CM (hp:IsPlaces f l) (hk:pB l p.1=some k):IsPlaces (upd f p.1 (some p)) (l.set k p):=by
 obtain ⟨q,h1,h2⟩:=fq hk
 obtain ⟨hkl,hke⟩:=vA.1 h1
 have hmap:(l.set k p).map (·.1)=l.map (·.1):=by
  rw [List.map_set]
  apply List.ext_getElem?
  intro j
  by_cases e:j=k
  ·subst e
   rw [Zk (by simpa using hkl)]
   simp [h1,h2]
  rw [Zx zj]
 have hr:(l.set k p).Pairwise (fun a b=>a.1<b.1):=by
  have:=hp.rise
  have h3:(l.map (·.1)).Pairwise (· < ·):=Zp.2 this
  rw [<-hmap] at h3
  exact Zp.1 h3
 refine ⟨hr,fun z=> ?_⟩
 by_cases e:z.1=p.1
 ·rw [e,de]
  constructor
  ·intro hz
   have hpm:p∈l.set k p:=Zf.2 ⟨k,Zk hkl⟩
   obtain ⟨i,hi⟩:=Zf.1 hz
   obtain ⟨j,hj⟩:=Zf.1 hpm
   obtain ⟨hil,hie⟩:=vA.1 hi
   obtain ⟨hjl,hje⟩:=vA.1 hj
   rcases Zw i j with h | h | h
   ·have:=ub.1 hr i j hil hjl h
    rw [hie,hje] at this;omega
   ·subst h;exact hj.symm.trans hi
   have:=ub.1 hr j i hjl hil h
   rw [hie,hje] at this;omega
  intro h
  cases h
  exact Zf.2 ⟨k,Zk hkl⟩
 rw [cw e,<-hp.mem z]
 constructor
 ·intro hz
  obtain ⟨i,hi⟩:=Zf.1 hz
  by_cases hik:i=k
  ·subst hik
   rw [Zk hkl] at hi
   cases hi
   exact absurd rfl e
  rw [Zx zj] at hi
  exact vH hi
 intro hz
 obtain ⟨i,hi⟩:=Zf.1 hz
 refine Zf.2 ⟨i,?_⟩
 by_cases hik:i=k
 ·subst hik
  rw [h1] at hi
  cases hi
  exact absurd h2 e
 rw [Zx zj];exact hi
theorem BD (hp:IsPlaces f l) (hno:pB l p.1=none) (hlt:∀x∈l.take k,x.1<p.1) (hge:∀x,l[k]? =some x->¬x.1<p.1):IsPlaces (upd f p.1 (some p)) (l.take k++p::l.drop k):=by
 have hne:=rb hno
 have hgt:∀x∈l.drop k,p.1<x.1:=by
  intro x hx
  cases hk:l[k]? with
  | none=>
   rw [List.getElem?_eq_none_iff] at hk
   rw [Za hk] at hx
   simp at hx
  | some y=>
   have hy:=hge y hk
   have hyn:=hne y (vH hk)
   obtain ⟨hkl,hke⟩:=vA.1 hk
   rw [uK hkl,hke] at hx
   rcases vJ.1 hx with rfl | hx
   ·omega
   have hpw:(l.drop k).Pairwise (fun a b=>a.1<b.1):=hp.rise.sublist (List.drop_sublist _ _)
   rw [uK hkl,hke] at hpw
   have:=(um.1 hpw).1 x hx
   omega
 refine ⟨?_,fun z=> ?_⟩
 ·rw [uX]
  refine ⟨hp.rise.sublist (List.take_sublist _ _),um.2 ⟨hgt,hp.rise.sublist (List.drop_sublist _ _)⟩,fun a ha b hb=> ?_⟩
  rcases vJ.1 hb with rfl | hb
  ·exact hlt a ha
  have h1:=hlt a ha
  have h2:=hgt b hb
  omega
 have hmem:z∈l.take k++p::l.drop k↔z=p\/z∈l:=by
  conv=>rhs;rw [<-ui k l]
  simp only [vL,vJ]
  exact ⟨fun h=>h.elim (fun h=>.inr (.inl h)) (fun h=>h.elim .inl (fun h=>.inr (.inr h))),fun h=>h.elim (fun h=>.inr (.inl h)) (fun h=>h.elim .inl (fun h=>.inr (.inr h)))⟩
 rw [hmem]
 by_cases e:z.1=p.1
 ·rw [e,de]
  constructor
  ·rintro (h | h)
   ·rw [h]
   exact absurd e (hne z h)
  intro h;cases h;exact .inl rfl
 rw [cw e,<-hp.mem z]
 exact ⟨fun h=>h.elim (fun h=>absurd (by rw [h]) e) id,.inr⟩
end Go.Proofs.YtebpcnkdhgnghaaGreatDoor
namespace Go.Proofs.YtebpcnkdhgnghaaGreatDoor
open Go.Proofs.Tryz
open Go.RowKit Go.Lib Go.Sort Go.Maps
open scoped Classical
variable {qs:List Plc}
def tz (qs:List Plc) (node:Int):Int:=match pB qs node with | some k=>(k:Int) | none=> -1
theorem ET {node:Int} (h:∀j,j<qs.length->(qs[j]!).1≠node):pB qs node=none:=by
 unfold pB
 rw [List.findIdx?_eq_none_iff]
 intro p hp
 obtain ⟨j,hj,rfl⟩:=uJ hp
 have:=h j hj
 rw [getElem!_pos qs j hj] at this
 exact kp3
theorem GU {node:Int} {i:Nat} (hi:i<qs.length) (he:(qs[i]!).1=node) (h:∀j,j<i->(qs[j]!).1≠node):pB qs node=some i:=by
 unfold pB
 refine List.findIdx?_eq_some_iff_getElem.2 ⟨hi,?_,fun j hj=> ?_⟩
 ·rw [getElem!_pos qs i hi] at he
  simpa using he
 have:=h j hj
 rw [getElem!_pos qs j zj] at this
 exact kp3
theorem gm (w:World) (ao:Option Addr) (cap:Nat) (qs:List Plc) (node:Int) (h:PlsAt w (.slice ao qs.length cap) qs) (hn:qs.length<=1000):
  Calls prog 77 #[.slice ao qs.length cap,.int .i64 node] w fun e w'=>e= .returned (.int .i64 (tz qs node))/\w'=w:=by
 have HP:Aside (PlsAt w (.slice ao qs.length cap) qs):=h
 clear h
 go_enter func77,ntmps77
 go_wp2
 go_loopg [5] qs.length (fun kx s5 wr=>∃(i:Nat),s5= .int .i64 (i:Int)/\i<=qs.length/\qs.length - i<=kx/\wr=w/\Aside (∀j,j<i->(qs[j]!).1≠node))
 case atStart=>exact ⟨0,rfl,vM _,vB _,rfl,fun j hj=>absurd hj (Nat.not_lt_zero _)⟩
 case round=>
  obtain ⟨i,rfl,hi,hkx,rfl,A⟩:=hrel
  by_cases hlt:i<qs.length
  ·have hltz:decide ((i:Int)<(qs.length:Int))=true:=by simp;omega
   have ex:((i:Int)).toNat=i:=zj
   have px:(0:Int)<=(i:Int):=zj
   have bx:(i:Int)<(qs.length:Int):=zj
   obtain ⟨⟨c,q,nm⟩,hp⟩:∃p:Plc,qs[i]? =some p:=⟨_,vF hlt⟩
   obtain ⟨g,rfl,x0,-,-⟩:=HP.o.three hp
   have hc:Aside ((qs[i]!).1=c):=by
    have:=(vA.1 hp).2
    show (qs[i]!).1=c
    rw [getElem!_pos qs i hlt,this]
   clear hp
   by_cases he:c=node
   ·have hd:(c==node)=true:=by simp [he]
    have HE:Aside (tz qs node=(i:Int)):=by
     show tz qs node=(i:Int)
     unfold tz
     rw [GU hlt (hc.o.trans he) A.o]
    clear he
    exact kl7
   have hd:(c==node)=false:=by simp [he]
   go_wp2
   go_roundg (qs.length - (i+1))
   case measure=>omega
   case rel=>
    refine ⟨i+1,zw,zj,vB _,rfl,fun j hj=> ?_⟩
    rcases uB j i with h | h
    ·exact A.o j h
    obtain rfl:j=i:=zj
    rw [hc.o];exact he
  have hltz:decide ((i:Int)<(qs.length:Int))=false:=zq
  have HE:Aside (tz qs node= -1):=by
   show tz qs node= -1
   unfold tz
   rw [ET (fun j hj=>A.o j zj)]
  exact kl7
theorem rz (w:World) (ao:Option Addr) (cap:Nat) (qs:List Plc) (f:Sta) (node of:Int) (G:gj f) (hp:IsPlaces f qs) (h:PlsAt w (.slice ao qs.length cap) qs) (hn:qs.length<=1000):
  Calls prog 76 #[.slice ao qs.length cap,.int .i64 node,.int .i64 of] w fun e w'=>e= .returned (.bool (lv f (qs.length+1) node of))/\w'=w:=by
 have HP:Aside (PlsAt w (.slice ao qs.length cap) qs/\gj f/\IsPlaces f qs):=⟨h,G,hp⟩
 clear h G hp
 obtain ⟨zz,hzz⟩:∃zz,Aside (lv f (qs.length+1) node of=zz):=⟨_,rfl⟩
 rw [hzz.o]
 go_enter func76,ntmps76
 go_wp2
 go_loopg [1,7] (qs.length+1) (fun kx s1 s7 wr=>∃(i:Nat) (x:Int),s1= .int .i64 x/\s7= .int .i64 (i:Int)/\i<=qs.length+1/\qs.length+1 - i<=kx/\wr=w/\Aside (lv f (qs.length+1 - i) x of=zz))
 case atStart=>exact ⟨0,node,rfl,rfl,vM _,vB _,rfl,hzz.o⟩
 case round=>
  obtain ⟨i,x,rfl,rfl,hi,hkx,rfl,A⟩:=hrel
  by_cases hlt:i<=qs.length
  ·have hltz:decide ((i:Int)<=(qs.length:Int))=true:=by simp;omega
   obtain ⟨mm,hmm⟩:∃mm,Aside (qs.length+1 - i=mm+1):=⟨qs.length - i,show qs.length+1 - i=qs.length - i+1 by omega⟩
   have hat:=Mh HP.o.2.1 HP.o.2.2 (node:=x)
   cases hix:pB qs x with
   | none=>
    rw [hix] at hat
    have HZ:Aside (zz=false):=by
     have:=A.o
     rw [fu hat] at this
     exact this.symm
    have e1:tz qs x= -1:=by unfold tz;rw [hix]
    have hc:=gm wr ao cap qs x HP.o.1 hn
    rw [e1] at hc
    clear hat hix e1
    exact ki3
   | some k=>
    obtain ⟨⟨c,q,nm⟩,hpk,hpc⟩:=fq hix
    rw [hix,Option.bind_some,hpk] at hat
    have e1:tz qs x=(k:Int):=by unfold tz;rw [hix]
    have hc:=gm wr ao cap qs x HP.o.1 hn
    rw [e1] at hc
    have hkl:k<qs.length:=(vA.1 hpk).1
    have ex:((k:Int)).toNat=k:=zj
    have px:(0:Int)<=(k:Int):=zj
    have bx:(k:Int)<(qs.length:Int):=zj
    have dk:decide ((k:Int)<0)=false:=zt
    obtain ⟨g,rfl,x0,x1,x2⟩:=HP.o.1.three hpk
    have AA:=A.o
    rw [hmm.o,eE hat] at AA
    clear x0 x2 hat hix e1 hpk
    by_cases he:q=of
    ·have hd:(q==of)=true:=by simp [he]
     have HZ:Aside (zz=true):=by
      rw [decide_eq_true (show (c,q,nm).2.1=of from he)] at AA
      exact AA.symm
     clear AA he
     exact ki3
    have hd:(q==of)=false:=by simp [he]
    have HZ:Aside (lv f mm q of=zz):=by
     rw [decide_eq_false (show ¬(c,q,nm).2.1=of from he),Bool.false_or] at AA
     exact AA
    clear AA he
    go_wp2_with fail
    refine hc.mono ?_
    rintro e w1 ⟨rfl,hw1⟩
    subst hw1
    go_wp2
    go_roundg (qs.length+1 - (i+1))
    case measure=>omega
    case rel=>
     refine ⟨i+1,q,rfl,zw,zj,vB _,rfl,?_⟩
     have e3:qs.length+1 - (i+1)=mm:=by have:=hmm.o;omega
     show lv f (qs.length+1 - (i+1)) q of=zz
     rw [e3];exact HZ.o
  have hltz:decide ((i:Int)<=(qs.length:Int))=false:=zq
  have HZ:Aside (zz=false):=by
   have:=A.o
   have e3:qs.length+1 - i=0:=zj
   rw [e3] at this
   exact this.symm
  go_wp2
  go_ret
  exact ⟨by rw [HZ.o];rfl,rfl⟩
end Go.Proofs.YtebpcnkdhgnghaaGreatDoor
namespace Go.Proofs.YtebpcnkdhgnghaaGreatDoor
open Go.RowKit Go.Lib Go.Sort
open scoped Classical
variable {name:ByteArray} {ys:List OpX} {qs:List Plc} {base g i k n:Nat} {y:OpX} {e:TypeId} {ov v:Value} {w w1 wr wr':World}
theorem ME:(Tryz.prog.info? 82).map (fun i=>(i.zero,i.size,i.bytes))=some (some (.agg #[.int .i64 0,.int .i64 0,.string ⟨#[]⟩]),3,32):=zo
theorem sO (h:w.ownsRow base e 3 v qs.length (aI aP qs)):PlsAt w v qs:=by
 rcases h.2 with ⟨h1,h2⟩ | ⟨g,cap,cur,rfl,_⟩
 ·exact kn8
 refine .inr ⟨g,cap,rfl,(h.lt g rfl).2,fun j u hj=> ?_⟩
 have hl:j<(aI aP qs).length:=(vA.1 hj).1
 rw [bX (k:=3) (fun _=>rfl)] at hl
 rw [h.cellAt j hl,hj]
theorem MS {cap:Nat} (p:Plc) (h:w.ownsRow base e 3 (.slice (some ⟨g,0,none⟩) n cap) n (aI aP qs)) (hk:k<qs.length):
  (((w.setCell ⟨g,k*3,none⟩ (.int .i64 p.1)).setCell ⟨g,k*3+1,none⟩ (.int .i64 p.2.1)).setCell ⟨g,k*3+2,none⟩ (.string p.2.2)).ownsRow base e 3 (.slice (some ⟨g,0,none⟩) n cap) n (aI aP (qs.set k p)):=by
 have e1:aI aP qs=(aI aP qs).take (k*3)++aP qs[k]++(aI aP qs).drop ((k+1)*3):=by
  have:=dV (enc:=aP) (k:=3) (fun _=>rfl) qs k hk qs[k]
  rwa [ZZ] at this
 have e2:=dV (enc:=aP) (k:=3) (fun _=>rfl) qs k hk p
 have hl:((aI aP qs).take (k*3)).length=k*3:=by
  rw [vW,bX (k:=3) (fun _=>rfl)];omega
 rw [e1] at h
 rw [e2]
 have:=fg (vs:=aP p) h rfl
 rw [hl] at this
 exact this
theorem Dh (w:World) (p:Plc) (j:Nat) (u:Value) (hj:(aP p)[j]? =some u):(w.alloc (.cells #[.int .i64 p.1,.int .i64 p.2.1,.string p.2.2] 82)).cell? ((⟨w.heap.size,0,none⟩:Addr).add j)=some u:=by
 have hl:j<1*3:=by have:=(vA.1 hj).1;simpa [aP] using this
 have h:=World.ownsRow_lit (base:=0) (e:=82) (size:=3) w #[.int .i64 p.1,.int .i64 p.2.1,.string p.2.2] 1 (vM _) (by simp [maxLen]) rfl
 rw [Addr.add_lit,vQ,h.cellAt j hl]
 exact hj
theorem Di (w:World) (c q:Int) (nm:ByteArray):(w.alloc (.cells #[.int .i64 c,.int .i64 q,.string nm] 82)).cell? ⟨w.heap.size,0,none⟩=some (.int .i64 c)/\(w.alloc (.cells #[.int .i64 c,.int .i64 q,.string nm] 82)).cell? ⟨w.heap.size,1,none⟩=some (.int .i64 q)/\(w.alloc (.cells #[.int .i64 c,.int .i64 q,.string nm] 82)).cell? ⟨w.heap.size,2,none⟩=some (.string nm):=by
 have h:=fun j u hj=>Dh w (c,q,nm) j u hj
 exact ⟨h 0 _ rfl,h 1 _ rfl,h 2 _ rfl⟩
theorem li (k:Nat) (h:∀j u,(aI aP qs)[j]? =some u->w.cell? ⟨g,j,none⟩=some u) (j:Nat) (u:Value) (hj:(aI aP (qs.take k))[j]? =some u):w.cell? ((⟨g,0,none⟩:Addr).add j)=some u:=by
 rw [Addr.add_lit,vQ]
 refine h j u ?_
 have e:aI aP qs=aI aP (qs.take k)++aI aP (qs.drop k):=jW
 exact kp8
theorem mS (k:Nat) (hk:k<=qs.length) (h:∀j u,(aI aP qs)[j]? =some u->w.cell? ⟨g,j,none⟩=some u) (j:Nat) (u:Value) (hj:(aI aP (qs.drop k))[j]? =some u):w.cell? ((⟨g,k*3,none⟩:Addr).add j)=some u:=by
 rw [Addr.add_lit]
 refine h _ u ?_
 have e:aI aP qs=aI aP (qs.take k)++aI aP (qs.drop k):=jW
 have hl:(aI aP (qs.take k)).length=k*3:=by rw [bX (k:=3) (fun _=>rfl),vW];congr 1;omega
 exact kp1
theorem pI {b b':Nat} {xs:List Value} (h:w.ownsRow b e k v n xs) (hb:b'<=b):w.ownsRow b' e k v n xs:=by
 refine ⟨h.1,?_⟩
 rcases h.2 with h0 | ⟨g,cap,cur,rfl,h1,h2⟩
 ·exact .inl h0
 exact .inr ⟨g,cap,cur,rfl,zj,h2⟩
structure St4 (w1:World) (ys:List OpX) (i:Nat) (qs:List Plc) (ov:Value) (wr:World):Prop where
 row:wr.ownsRow w1.heap.size 82 3 ov qs.length (aI aP qs)
 pls:IsPlaces (aO (bO (ys.take i))) qs
 len:qs.length<=i
 below:Below w1.heap.size w1 wr
theorem mX (h:kdO y=109):GJ y=some (GM y):=by unfold GJ GM stX;rw [if_pos h]
theorem mB (h:kdO y≠109):GJ y=none:=by unfold GJ;rw [if_neg h]
theorem St4.good (_:St4 w1 ys i qs ov wr) (h:∀y∈ys,kdO y=109->FineP (GM y).2):gj (aO (bO (ys.take i))):=
 fl fun m hm=>by
  obtain ⟨y,hy,he⟩:=Zl.1 hm
  by_cases hk:kdO y=109
  ·rw [mX hk] at he
   cases he
   exact h y (Zg hy) hk
  rw [mB hk] at he
  cases he
theorem rK (hi:i<ys.length):ys.take (i+1)=ys.take i++ [ys[i]!]:=by
 rw [uA,vF hi,getElem!_pos ys i hi]
 rfl
theorem sL (hi:i<ys.length) (hk:kdO ys[i]! =109):aO (bO (ys.take (i+1)))=step (aO (bO (ys.take i))) (GM ys[i]!):=by
 unfold bO
 rw [rK hi,List.filterMap_append]
 have:List.filterMap GJ [ys[i]!]= [GM ys[i]!]:=by rw [List.filterMap_cons,mX hk];rfl
 rw [this]
 exact pt _ _
theorem DA (hi:i<ys.length) (hk:kdO ys[i]! ≠109):bO (ys.take (i+1))=bO (ys.take i):=by
 unfold bO
 rw [rK hi,List.filterMap_append]
 have:List.filterMap GJ [ys[i]!]= []:=by rw [List.filterMap_cons,mB hk];rfl
 rw [this,uQ]
theorem St4.idle (h:St4 w1 ys i qs ov wr) (hi:i<ys.length) (hk:kdO ys[i]! =109) (hb:Below wr.heap.size wr wr') (hd:wo (aO (bO (ys.take i))) (GM ys[i]!).2):St4 w1 ys (i+1) qs ov wr':=
 ⟨bg h.row (fun g hg=>hb.block g (h.row.lt g hg).2),by rw [sL hi hk,dA hd];exact h.pls,by have:=h.len;omega,zi h.below hb⟩
theorem St4.skip (h:St4 w1 ys i qs ov wr) (hi:i<ys.length) (hk:kdO ys[i]! ≠109) (hb:Below wr.heap.size wr wr'):St4 w1 ys (i+1) qs ov wr':=
 ⟨bg h.row (fun g hg=>hb.block g (h.row.lt g hg).2),by rw [DA hi hk];exact h.pls,by have:=h.len;omega,zi h.below hb⟩
theorem St4.later (h:St4 w1 ys i qs ov wr) (hb:Below wr.heap.size wr wr'):St4 w1 ys i qs ov wr':=
 ⟨bg h.row (fun g hg=>hb.block g (h.row.lt g hg).2),h.pls,h.len,zi h.below hb⟩
theorem St4.set {w1:World} {ys:List OpX} {i:Nat} {qs:List Plc} {g cg k:Nat} {wr:World} {node other:Int} {name:ByteArray} (h:St4 w1 ys i qs (.slice (some ⟨g,0,none⟩) qs.length cg) wr) (hk:pB qs node=some k) (hID:aO (bO (ys.take (i+1)))=upd (aO (bO (ys.take i))) node (some (node,other,name))):
  St4 w1 ys (i+1) (qs.set k (node,other,name)) (.slice (some ⟨g,0,none⟩) qs.length cg) (((wr.setCell ⟨g,k*3,none⟩ (.int .i64 node)).setCell ⟨g,k*3+1,none⟩ (.int .i64 other)).setCell ⟨g,k*3+2,none⟩ (.string name)):=by
 obtain ⟨p,hp,_⟩:=fq hk
 have hkl:=(vA.1 hp).1
 have hg:=(h.row.lt g rfl).1
 refine ⟨by rw [ZY];exact MS (node,other,name) h.row hkl,by rw [hID];exact CM (p:=(node,other,name)) h.pls hk,by rw [ZY];have:=h.len;omega,h.below.trans ?_⟩
 exact (lh wr g _ _ _ _ _ _).below h.below.size (fun j e=>by rw [e];exact hg)
theorem St4.lay {v':Value} {w':World} {node other:Int} (h:St4 w1 ys i qs ov wr) (hk:pB qs node=none) (hID:aO (bO (ys.take (i+1)))=upd (aO (bO (ys.take i))) node (some (node,other,name)))
  (hkl:k<=qs.length) (hl:∀j,j<k->(qs[j]!).1<node) (hge:k<qs.length->¬(qs[k]!).1<node) (hrow:w'.ownsRow w1.heap.size 82 3 v' (k+1+(qs.length - k)) (aI aP (qs.take k)++aP (node,other,name)++aI aP (qs.drop k))) (hb:Below w1.heap.size w1 w'):
  St4 w1 ys (i+1) (qs.take k++(node,other,name)::qs.drop k) v' w':=by
 have hlen:(qs.take k++(node,other,name)::qs.drop k).length=k+1+(qs.length - k):=by
  rw [vN,ud,vW,ur];omega
 have hfl:aI aP (qs.take k++(node,other,name)::qs.drop k)=aI aP (qs.take k)++aP (node,other,name)++aI aP (qs.drop k):=by
  rw [ah,ef,uj]
 refine ⟨by rw [hlen,hfl];exact hrow,?_,by rw [hlen];have:=h.len;omega,hb⟩
 rw [hID]
 refine BD (p:=(node,other,name)) h.pls hk (fun x hx=> ?_) (fun x hx=> ?_)
 ·obtain ⟨j,hj,rfl⟩:=List.mem_iff_getElem.1 hx
  rw [vW] at hj
  have:=hl j zj
  rw [getElem!_pos qs j zj] at this
  rwa [ZB]
 obtain ⟨hkl',hke⟩:=vA.1 hx
 have:=hge hkl'
 rw [getElem!_pos qs k hkl',hke] at this
 exact this
end Go.Proofs.YtebpcnkdhgnghaaGreatDoor
end
section
namespace Go.Proofs.YtebpcnkdhgnghaaGreatDoor
open Go.Proofs.Tryz
open Go.RowKit Go.Lib Go.Sort Go.Maps
open scoped Classical
theorem Id {w:World} {v:Value} {xs:List OpX} (h:OpsAt w v xs):∃ao cap,v= .slice ao xs.length cap/\OpsIn w ao xs:=by
 rcases h with ⟨rfl,rfl⟩ | ⟨blk,off,cap,rfl,hc⟩
 ·exact ⟨none,0,rfl,.inl rfl⟩
 exact ⟨some ⟨blk,off,none⟩,cap,rfl,.inr ⟨blk,off,rfl,hc⟩⟩
theorem gX {xs ys:List OpX} (hw:WellK xs) (hnd:xs.Nodup) (hS:cY xs ys):(∀y∈ys,ai y=0)/\(∀y∈ys,kdO y=109->FineP (GM y).2)/\(bO ys).Perm (bO xs)/\bQ (bO ys):=by
 obtain ⟨hp,hs⟩:=fo hS
 have hok:∀y∈ys,ai y=0:=fun y hy=>hw.ok y (hp.mem_iff.1 hy)
 have hne:ys.Pairwise (fun a b=>stO a≠stO b):=by
  have hnd':ys.Nodup:=hp.nodup_iff.2 hnd
  rw [ub]
  intro i j hi hj hij e
  have:=hw.stamp (hp.mem_iff.1 (uS hi)) (hp.mem_iff.1 (uS hj)) e
  exact kk3
 have hlt:=lS hs hne
 refine ⟨hok,fun y hy hk=> ?_,hp.filterMap _,?_⟩
 ·exact kk5
 unfold bQ bO
 rw [List.pairwise_filterMap]
 refine hlt.imp ?_
 intro a b hab u hu v hv
 by_cases ha:kdO a=109
 ·by_cases hb:kdO b=109
  ·rw [mX ha] at hu
   rw [mX hb] at hv
   cases hu
   cases hv
   exact hab
  rw [mB hb] at hv
  cases hv
 rw [mB ha] at hu
 cases hu
theorem rH (w:World) (v:Value) (xs:List OpX) (h:OpsAt w v xs) (hO:WellK xs) (hnd:xs.Nodup) (hn:xs.length<=250):
  Calls prog 38 #[v] w fun e w'=>∃v' qs ms,e= .returned v'/\ms.Perm (bO xs)/\bQ ms/\IsPlaces (aO ms) qs/\qs.length<=250/\w'.ownsRow w.heap.size 82 3 v' qs.length (aI aP qs)/\Below w.heap.size w w':=by
 obtain ⟨i0,hi,hz0,hz1,hz2⟩:=info_parts ME
 have HO:Aside (WellK xs/\xs.Nodup):=⟨hO,hnd⟩
 have hS:=kN w v xs h zj
 clear h hO hnd
 go_enter func38,ntmps38
 go_wp2_with fail
 refine hS.mono ?_
 clear hS
 rintro e w1 ⟨v1,ys,rfl,hOps,hSort,hb1⟩
 obtain ⟨ay,cy,rfl,hIn⟩:=Id hOps
 have hy200:ys.length<=250:=by rw [(fo hSort).1.length_eq];exact hn
 have Y:Aside (OpsIn w1 ay ys/\(∀y∈ys,ai y=0)/\(∀y∈ys,kdO y=109->FineP (GM y).2)/\(bO ys).Perm (bO xs)/\bQ (bO ys)/\Below w.heap.size w w1):=⟨hIn,(gX HO.o.1 HO.o.2 hSort).1,(gX HO.o.1 HO.o.2 hSort).2.1,(gX HO.o.1 HO.o.2 hSort).2.2.1,(gX HO.o.1 HO.o.2 hSort).2.2.2,hb1⟩
 clear hOps hIn hSort hb1 HO
 go_wp2
 go_loopg [3,5] ys.length (fun kx s3 s5 wr=>∃(i:Nat) (qs:List Plc) (ov:Value),ov=s3/\s5= .int .i64 (i:Int)/\i<=ys.length/\ys.length - i<=kx/\Aside (St4 w1 ys i qs ov wr))
 case atStart=>exact ⟨0,[],_,rfl,rfl,vM _,vB _,⟨uf _ _ _ _,⟨List.Pairwise.nil,fun p=>⟨fun h=>qq,fun h=>by simp [bO,aO,tR,mh] at h⟩⟩,vM _,vG _ _⟩⟩
 case round=>
  obtain ⟨i,qs,ov,rfl,rfl,hix,hkx,A⟩:=hrel
  obtain ⟨ag,cg,rfl⟩:=cP A.o.row
  have hq200:qs.length<=250:=qp
  by_cases hlt:i<ys.length
  ·have hltz:decide ((i:Int)<(ys.length:Int))=true:=by simp;omega
   have ex:((i:Int)).toNat=i:=zj
   have px:(0:Int)<=(i:Int):=zj
   have bx:(i:Int)<(ys.length:Int):=zj
   obtain ⟨blk,off,rfl,hc⟩:∃b off,ay=some ⟨b,off,none⟩/\∀j u,(cellsOf ys)[j]? =some u->w1.cell? ⟨b,off+j,none⟩=some u:=by
    rcases Y.o.1 with h0 | h1
    ·subst h0;simp at hlt
    exact h1
   obtain ⟨⟨t,b,m,kd,node,other,name,value⟩,hx⟩:∃x,ys[i]! =x:=⟨_,rfl⟩
   have hmem:ys[i]! ∈ys:=by rw [getElem!_pos ys i hlt];exact uS hlt
   by_cases hkd:kd=109
   case neg=>
    obtain ⟨f0,f1,f2,f3,f4,f5,f6,f7⟩:=iB (fun j v hj=>aT A.o.below (hc j v hj)) i hlt hx
    have HK1:Aside (kdO ys[i]! ≠109):=by rw [hx];exact hkd
    have dk:((kd:Int)==109)=false:=zq
    have dkn:(kd==109)=false:=zq
    have dk2:((kd:Int) !=109)=true:=zq
    clear hx hmem hc hkd
    go_upto_region 7 with fail
    obtain ⟨u,hu⟩:=zc (wr.alloc (.cells #[.int .i64 t,.int .i64 b,.int .i64 m,.int .u8 (kd:Int),.int .i64 node,.int .i64 other,.string name,.string value] 61))
    have B1:Below wr.heap.size wr u:=by rw [hu];exact zh wr _
    have R:Aside (St4 w1 ys (i+1) qs (.slice ag qs.length cg) u):=A.o.skip hlt HK1.o B1
    have O3:u.cell? ⟨wr.heap.size,3,none⟩=some (.int .u8 (kd:Int)):=by rw [hu];exact (OpBlk.new wr (t,b,m,kd,node,other,name,value)).cells.2.2.2.1
    rw [<-hu]
    clear hu f0 f1 f2 f3 f4 f5 f6 f7 B1 A
    go_wp2
    go_roundg (ys.length - (i+1))
    case measure=>omega
    case rel=>exact ⟨i+1,qs,_,rfl,zw,zj,vB _,R⟩
   subst hkd
   have HK1:Aside (kdO ys[i]! =109):=by show kdO ys[i]! =109;rw [hx]
   obtain ⟨f0,f1,f2,f3,f4,f5,f6,f7⟩:=iB (fun j v hj=>aT A.o.below (hc j v hj)) i hlt hx
   have f3':wr.cell? ⟨blk,off+i*8+3,none⟩=some (.int .u8 109):=f3
   have HM:Aside (GM ys[i]! =((t,b),(node,other,name))):=by show GM ys[i]! =_;rw [hx];rfl
   clear hx hmem f3 hc
   go_upto_region 7 with fail
   obtain ⟨u,hu⟩:=zc (wr.alloc (.cells #[.int .i64 t,.int .i64 b,.int .i64 m,.int .u8 109,.int .i64 node,.int .i64 other,.string name,.string value] 61))
   have O1:OpAt u wr.heap.size t b m 109 node other name value:=by rw [hu];exact OpAt.new wr t b m 109 node other name value 61
   have B1:Below wr.heap.size wr u:=by rw [hu];exact zh wr _
   rw [<-hu]
   obtain ⟨Bo,hBo⟩:∃Bo,Aside (wr.heap.size=Bo):=⟨_,rfl⟩
   rw [hBo.o] at O1 |-
   have U:Aside (St4 w1 ys i qs (.slice ag qs.length cg) u/\OpAt u Bo t b m 109 node other name value):=⟨A.o.later B1,O1⟩
   clear hu f0 f1 f2 f3' f4 f5 f6 f7 B1 O1 A
   obtain ⟨g0,g1,g2,g3,g4,g5,g6,g7⟩:=U.o.2
   have g3':u.cell? ⟨Bo,3,none⟩=some (.int .u8 109):=g3
   clear g3 g0 g1 g2 g7
   by_cases hno:node=other
   ·have dno:(node==other)=true:=by simp [hno]
    have R:Aside (St4 w1 ys (i+1) qs (.slice ag qs.length cg) u):=U.o.1.idle hlt HK1.o (vG _ _) (by rw [HM.o];exact .inl hno)
    clear hno
    go_wp2
    go_roundg (ys.length - (i+1))
    case measure=>omega
    case rel=>exact ⟨i+1,qs,_,rfl,zw,zj,vB _,R⟩
   have dno:(node==other)=false:=by simp [hno]
   have HNO:=Lib.hid hno
   clear hno
   have hI:=rz u ag cg qs _ other node (U.o.1.good Y.o.2.2.1) U.o.1.pls (sO U.o.1.row) zj
   cases hz:lv (aO (bO (ys.take i))) (qs.length+1) other node with
   | true=>
    rw [hz] at hI
    have R:Aside (St4 w1 ys (i+1) qs (.slice ag qs.length cg) u):=U.o.1.idle hlt HK1.o (vG _ _) (by rw [HM.o];exact .inr ((nR (U.o.1.good Y.o.2.2.1) U.o.1.pls).2 hz))
    clear hz
    go_wp2_with fail
    refine hI.mono ?_
    rintro e u1 ⟨rfl,hu1⟩
    subst hu1
    go_wp2
    go_roundg (ys.length - (i+1))
    case measure=>omega
    case rel=>exact ⟨i+1,qs,_,rfl,zw,zj,vB _,R⟩
   | false=>
    rw [hz] at hI
    have ID:Aside (aO (bO (ys.take (i+1)))=upd (aO (bO (ys.take i))) node (some (node,other,name))):=by
     show aO (bO (ys.take (i+1)))=_
     rw [sL hlt HK1.o,HM.o]
     exact dy (by
      rintro (h | h)
      ·exact HNO.o h
      ·rw [(nR (U.o.1.good Y.o.2.2.1) U.o.1.pls).1 h] at hz;cases hz)
    clear hz
    go_wp2_with fail
    refine hI.mono ?_
    rintro e u1 ⟨rfl,hu1⟩
    subst hu1
    clear hI
    go_upto_region 10 with fail
    obtain ⟨ua,hua⟩:=zc (u1.alloc (.cells #[.int .i64 node,.int .i64 other,.string name] 82))
    have B2:Below u1.heap.size u1 ua:=by rw [hua];exact zh u1 _
    have q0:ua.cell? ⟨u1.heap.size,0,none⟩=some (.int .i64 node):=by rw [hua];exact (Di u1 node other name).1
    have q1:ua.cell? ⟨u1.heap.size,1,none⟩=some (.int .i64 other):=by rw [hua];exact (Di u1 node other name).2.1
    have q2:ua.cell? ⟨u1.heap.size,2,none⟩=some (.string name):=by rw [hua];exact (Di u1 node other name).2.2
    have k4:=aT B2 g4
    rw [<-hua]
    obtain ⟨Bp,hBp⟩:∃Bp,Aside (u1.heap.size=Bp):=⟨_,rfl⟩
    rw [hBp.o] at q0 q1 q2 |-
    have V:Aside (St4 w1 ys i qs (.slice ag qs.length cg) ua):=U.o.1.later B2
    clear hua B2 g4 g5 g6 g3' U
    have hP:=gm ua ag cg qs node (sO V.o.row) zj
    cases hk:pB qs node with
    | some k=>
     have e1:tz qs node=(k:Int):=by unfold tz;rw [hk]
     rw [e1] at hP
     obtain ⟨⟨pc,pq,pn⟩,hpk,-⟩:=fq hk
     have hkl:k<qs.length:=(vA.1 hpk).1
     obtain ⟨g,rfl⟩:=Aj V.o.row zj
     obtain ⟨g',hg',y0,y1,y2⟩:=(sO V.o.row).three hpk
     cases hg'
     have z0:=V.o.row.frozenAt (k*3)
     have z1:=V.o.row.frozenAt (k*3+1)
     have z2:=V.o.row.frozenAt (k*3+2)
     have R:=V.o.set (other:=other) (name:=name) hk ID.o
     have ek:((k:Int)).toNat=k:=zj
     have pk:(0:Int)<=(k:Int):=zj
     have bk:(k:Int)<(qs.length:Int):=zj
     have dk:decide ((0:Int)<=(k:Int))=true:=zt
     have RR:Aside _:=R
     clear R hk e1 hpk
     go_wp2_with fail
     refine hP.mono ?_
     rintro e u2 ⟨rfl,hu2⟩
     subst hu2
     go_wp2
     go_roundg (ys.length - (i+1))
     case measure=>omega
     case rel=>exact ⟨i+1,_,_,rfl,zw,zj,vB _,RR⟩
    | none=>
     have e1:tz qs node= -1:=by unfold tz;rw [hk]
     rw [e1] at hP
     have HK:=Lib.hid hk
     clear hk e1
     go_wp2_with fail
     refine hP.mono ?_
     rintro e u2 ⟨rfl,hu2⟩
     subst hu2
     clear hP
     have Q:Aside (u2.cell? ⟨Bo,4,none⟩=some (.int .i64 node)/\u2.cell? ⟨Bp,0,none⟩=some (.int .i64 node)/\u2.cell? ⟨Bp,1,none⟩=some (.int .i64 other)/\u2.cell? ⟨Bp,2,none⟩=some (.string name)):=⟨k4,q0,q1,q2⟩
     go_wp2
     clear k4 q0 q1 q2
     go_loopg [8] qs.length (fun ky s8 wr=>∃(k:Nat),s8= .int .i64 (k:Int)/\k<=qs.length/\qs.length - k<=ky/\Aside ((∀j,j<k->(qs[j]!).1<node)/\Below u2.heap.size u2 wr))
     case atStart=>exact ⟨0,rfl,vM _,vB _,⟨fun j hj=>absurd hj (Nat.not_lt_zero _),vG _ _⟩⟩
     case round=>
      obtain ⟨k,rfl,hkq,hky,K⟩:=hrel
      go_upto_region 14 with fail
      go_cut [68] (fun s68 wx=>∃z:Bool,s68= .bool z/\Aside ((z=true↔k<qs.length/\(qs[k]!).1<node)/\Below u2.heap.size u2 wx))
      case first=>
       by_cases hkl:k<qs.length
       ·have hkz:decide ((k:Int)<(qs.length:Int))=true:=by simp;omega
        have ek:((k:Int)).toNat=k:=zj
        have pk:(0:Int)<=(k:Int):=zj
        have bk:(k:Int)<(qs.length:Int):=zj
        obtain ⟨⟨pc,pq,pn⟩,hpk⟩:∃p:Plc,qs[k]? =some p:=⟨_,vF hkl⟩
        obtain ⟨g,rfl⟩:=Aj V.o.row zj
        obtain ⟨g',hg',y0,-,-⟩:=(sO (V.o.later K.o.2).row).three hpk
        cases hg'
        have hpc:Aside ((qs[k]!).1=pc):=by
         have:=(vA.1 hpk).2
         show (qs[k]!).1=pc
         rw [getElem!_pos qs k hkl,this]
        have k4:=aT K.o.2 Q.o.1
        clear hpk
        by_cases hl:pc<node
        ·have dl:decide (pc<node)=true:=decide_eq_true hl
         go_quiet (fail)
         go_wp2
         go_meet
         exact ⟨true,rfl,⟨fun _=>⟨hkl,by rw [hpc.o];exact hl⟩,fun _=>rfl⟩,below_drewN K.o.2 _⟩
        have dl:decide (pc<node)=false:=decide_eq_false hl
        go_quiet (fail)
        go_wp2
        go_meet
        exact ⟨false,rfl,⟨fun h=>qD,fun h=>by have:=h.2;rw [hpc.o] at this;omega⟩,below_drewN K.o.2 _⟩
       have hkz:decide ((k:Int)<(qs.length:Int))=false:=zq
       go_quiet (fail)
       go_wp2
       go_meet
       exact ⟨false,rfl,⟨fun h=>qD,fun h=>absurd h.1 hkl⟩,below_drewN K.o.2 _⟩
      obtain ⟨z,rfl,Z⟩:=hcut
      cases z with
      | true=>
       have Z1:Aside ((k<qs.length/\(qs[k]!).1<node)/\Below u2.heap.size u2 wc):=⟨Z.o.1.1 rfl,Z.o.2⟩
       have hkl:=Z1.o.1.1
       clear Z
       go_wp2
       go_roundg (qs.length - (k+1))
       case measure=>omega
       case rel=>
        refine ⟨k+1,zw,zj,vB _,⟨fun j hj=> ?_,Z1.o.2⟩⟩
        rcases uB j k with h | h
        ·exact K.o.1 j h
        obtain rfl:j=k:=zj
        exact Z1.o.1.2
      | false=>
       have Z0:Aside ((k<qs.length->¬(qs[k]!).1<node)/\Below u2.heap.size u2 wc):=⟨fun h1 h2=>(by have:=Z.o.1.2 ⟨h1,h2⟩;cases this),Z.o.2⟩
       have VV:Aside (St4 w1 ys i qs (.slice ag qs.length cg) wc/\∀j,j<k->(qs[j]!).1<node):=⟨V.o.later Z0.o.2,K.o.1⟩
       have QQ:Aside (wc.cell? ⟨Bp,0,none⟩=some (.int .i64 node)/\wc.cell? ⟨Bp,1,none⟩=some (.int .i64 other)/\wc.cell? ⟨Bp,2,none⟩=some (.string name)):=⟨aT Z0.o.2 Q.o.2.1,aT Z0.o.2 Q.o.2.2.1,aT Z0.o.2 Q.o.2.2.2⟩
       clear Z K V Q
       have LY:Aside (∀(v':Value) (w':World),w'.ownsRow wc.heap.size 82 3 v' (k+1+(qs.length - k)) (aI aP (qs.take k)++aP (node,other,name)++aI aP (qs.drop k))->Below wc.heap.size wc w'->St4 w1 ys (i+1) (qs.take k++(node,other,name)::qs.drop k) v' w'):=fun v' w' h1 h2=>
        VV.o.1.lay HK.o ID.o hkq VV.o.2 Z0.o.1 (pI h1 VV.o.1.below.size) (zi VV.o.1.below h2)
       clear Z0
       rcases VV.o.1.row.2 with ⟨hv,h0⟩ | ⟨g,cap',cur,hv,_,_,hcap,_⟩
       ·obtain rfl:qs= []:=vZ.1 h0
        simp only [Value.slice.injEq] at hv
        obtain ⟨rfl,-,rfl⟩:=hv
        obtain rfl:k=0:=by simpa using hkq
        obtain ⟨q0,q1,q2⟩:=QQ.o
        go_wp2_with (at_builtin;refine wpList_append_own _ rfl _ _ 78 rfl wc.heap.size 82 i0 _ 3 32 underlying78 hi hz0 hz1 hz2 rfl zj _ _ _ rfl (uf (wc.alloc _) _ _ _) ⟨wc.heap.size,0,none⟩ 1 1 [.int .i64 node,.int .i64 other,.string name] rfl ?qb1 ?qb2 ?qb3 ?qb4 ?qb5 ?qb6 ?_)
        case qb1=>rfl
        case qb2=>exact Dh wc (node,other,name)
        case qb3=>exact dG (node,other,name)
        case qb4=>simp only [maxLen];omega
        case qb5=>omega
        case qb6=>simp
        intro v2 u3 hown hgrow hnil
        clear q0 q1 q2 hnil
        have W2:Below wc.heap.size wc u3:=(zh wc _).grown hgrow zt zN
        have R3:Aside (St4 w1 ys (i+1) [(node,other,name)] v2 u3):=LY.o v2 u3 (by simpa [aI,aP] using hown) W2
        obtain ⟨g2,c2,rfl,hc2⟩:∃g2 c2,v2= .slice (some ⟨g2,0,none⟩) 1 c2/\1<=c2:=by
         rcases hown.2 with ⟨_,h⟩ | ⟨g2,c2,_,h,_,_,hr,_⟩
         ·exact absurd h zj
         exact ⟨g2,c2,h,hr⟩
        clear hown hgrow W2 LY
        go_wp2
        go_roundg (ys.length - (i+1))
        case measure=>omega
        case rel=>exact ⟨i+1,_,_,rfl,zw,zj,vB _,R3⟩
       simp only [Value.slice.injEq] at hv
       obtain ⟨rfl,-,rfl⟩:=hv
       have HG:Aside (∀j v,(aI aP qs)[j]? =some v->wc.cell? ⟨g,j,none⟩=some v):=fun j v hj=>by
        have hl:j<(aI aP qs).length:=(vA.1 hj).1
        rw [bX (k:=3) (fun _=>rfl)] at hl
        rw [VV.o.1.row.cellAt j hl,hj]
       have dk0:(0:Int)<=(k:Int):=zj
       have dk1:(k:Int)<=(cg:Int):=zj
       have dk2:(k:Int)<=(qs.length:Int):=zj
       have ek:((k:Int)).toNat=k:=zj
       have HKL:Aside ((qs.take k).length=k/\(qs.drop k).length=qs.length - k):=⟨by rw [vW];omega,ur⟩
       go_wp2_with (at_builtin;refine wpList_append_own _ rfl _ _ 78 rfl wc.heap.size 82 i0 _ 3 32 underlying78 hi hz0 hz1 hz2 rfl zj _ _ _ rfl (uf wc _ _ _) ⟨g,0,none⟩ k cg (aI aP (qs.take k)) rfl ?qa1 ?qa2 ?qa3 ?qa4 ?qa5 ?qa6 ?_)
       case qa1=>rw [bX (k:=3) (fun _=>rfl),HKL.o.1]
       case qa2=>exact li k HG.o
       case qa3=>exact fb dG _
       case qa4=>rw [vQ];simp only [maxLen];omega
       case qa5=>rw [vQ];omega
       case qa6=>exact vB _
       intro v2 u3 hown hgrow hnil
       clear hnil
       have B1:Below wc.heap.size wc u3:=(vG _ wc).grown hgrow zg zN
       have O1:Aside (u3.ownsRow wc.heap.size 82 3 v2 k (aI aP (qs.take k))/\Below wc.heap.size wc u3):=⟨qv,B1⟩
       have q0:=aT B1 QQ.o.1
       have q1:=aT B1 QQ.o.2.1
       have q2:=aT B1 QQ.o.2.2
       clear hown hgrow B1
       go_wp2_with (at_builtin;refine wpList_append_own _ rfl _ _ 78 rfl wc.heap.size 82 i0 _ 3 32 underlying78 hi hz0 hz1 hz2 rfl zj _ _ _ rfl (O1.o.1.alloc _) ⟨u3.heap.size,0,none⟩ 1 1 [.int .i64 node,.int .i64 other,.string name] rfl ?qb1 ?qb2 ?qb3 ?qb4 ?qb5 ?qb6 ?_)
       case qb1=>rfl
       case qb2=>exact Dh u3 (node,other,name)
       case qb3=>exact dG (node,other,name)
       case qb4=>simp only [maxLen];omega
       case qb5=>omega
       case qb6=>have:=O1.o.2.size;simp;omega
       intro v3 u4 hown hgrow hnil
       clear hnil q0 q1 q2
       have B2:Below wc.heap.size wc u4:=(O1.o.2.alloc O1.o.2.size _).grown hgrow (by have:=O1.o.2.size;simp;omega) (fun k hk=>(O1.o.1.lt k hk).1)
       have O2:Aside (u4.ownsRow wc.heap.size 82 3 v3 (k+1) (aI aP (qs.take k)++aP (node,other,name))/\Below wc.heap.size wc u4):=⟨hown,B2⟩
       clear hown hgrow B2 O1
       by_cases hkc:k=cg
       ·subst hkc
        go_wp2_with (at_builtin;refine wpList_append_own _ rfl _ _ 78 rfl wc.heap.size 82 i0 _ 3 32 underlying78 hi hz0 hz1 hz2 rfl zj _ _ _ rfl O2.o.1 ⟨g,0,none⟩ 0 0 [] rfl ?qd1 ?qd2 ?qd3 ?qd4 ?qd5 ?qd6 ?_)
        case qd1=>rfl
        case qd2=>intro j v hj;simp at hj
        case qd3=>intro v hv;cases hv
        case qd4=>simp only [maxLen];omega
        case qd5=>omega
        case qd6=>exact O2.o.2.size
        intro v4 u5 hown hgrow hnil
        clear hnil
        have R3:Aside (St4 w1 ys (i+1) (qs.take k++(node,other,name)::qs.drop k) v4 u5):=LY.o v4 u5 (by
         have hdrop:qs.drop k= []:=ZQ zj
         have hl0:qs.length - k=0:=zj
         rw [hdrop,hl0,JO,uQ]
         exact hown) (O2.o.2.grown hgrow O2.o.2.size (fun k hk=>(O2.o.1.lt k hk).1))
        clear hown hgrow O2 LY
        go_wp2
        go_roundg (ys.length - (i+1))
        case measure=>omega
        case rel=>exact ⟨i+1,_,_,rfl,zw,zj,vB _,R3⟩
       have hne:¬cg=k:=fun h=>hkc h.symm
       go_wp2_with (at_builtin;refine wpList_append_own _ rfl _ _ 78 rfl wc.heap.size 82 i0 _ 3 32 underlying78 hi hz0 hz1 hz2 rfl zj _ _ _ rfl O2.o.1 ⟨g,k*3,none⟩ (qs.length - k) (cg - k) (aI aP (qs.drop k)) rfl ?qd1 ?qd2 ?qd3 ?qd4 ?qd5 ?qd6 ?_)
       case qd1=>rw [bX (k:=3) (fun _=>rfl),HKL.o.2]
       case qd2=>exact mS k zj (fun j v hj=>aT O2.o.2 (HG.o j v hj))
       case qd3=>exact fb dG _
       case qd4=>simp only [maxLen];omega
       case qd5=>omega
       case qd6=>exact O2.o.2.size
       intro v4 u5 hown hgrow hnil
       clear hnil
       have R3:Aside (St4 w1 ys (i+1) (qs.take k++(node,other,name)::qs.drop k) v4 u5):=LY.o v4 u5 (by rw [uj];exact hown) (O2.o.2.grown hgrow O2.o.2.size (fun k hk=>(O2.o.1.lt k hk).1))
       clear hown hgrow O2 LY
       go_wp2
       go_roundg (ys.length - (i+1))
       case measure=>omega
       case rel=>exact ⟨i+1,_,_,rfl,zw,zj,vB _,R3⟩
  have hltz:decide ((i:Int)<(ys.length:Int))=false:=zq
  have R:Aside ((bO ys).Perm (bO xs)/\bQ (bO ys)/\IsPlaces (aO (bO ys)) qs/\qs.length<=250/\wr.ownsRow w.heap.size 82 3 (.slice ag qs.length cg) qs.length (aI aP qs)/\Below w.heap.size w wr):=by
   obtain rfl:i=ys.length:=zj
   have h1:=A.o.pls
   rw [uU] at h1
   exact ⟨Y.o.2.2.2.1,Y.o.2.2.2.2.1,h1,hq200,pI A.o.row Y.o.2.2.2.2.2.size,zi Y.o.2.2.2.2.2 A.o.below⟩
  clear A
  go_wp2
  go_ret
  exact ⟨_,qs,_,rfl,R.o⟩
