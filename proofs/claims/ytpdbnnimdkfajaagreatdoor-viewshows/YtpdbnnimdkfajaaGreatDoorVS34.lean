import Derived.Test.YtpdbnnimdkfajaaGreatDoorVS32
set_option linter.unusedSimpArgs false
set_option linter.unusedVariables false
set_option maxRecDepth 100000
set_option maxHeartbeats 64000000
section
namespace Go.Proofs.YtpdbnnimdkfajaaGreatDoor
open scoped Classical
variable {x y:Int} {l:List Plc} {k:Nat} {p:Plc} {f:Sta}
def idxP (l:List Plc) (node:Int):Option Nat:=l.findIdx? (fun p=>decide (p.1=node))
theorem idxP_some {node:Int} (h:idxP l node=some k):∃p,l[k]? =some p/\p.1=node:=by
 unfold idxP at h
 obtain ⟨hk,h1,_⟩:=List.findIdx?_eq_some_iff_getElem.1 h
 exact ⟨l[k],ji hk,qD⟩
theorem idxP_none {node:Int} (h:idxP l node=none):∀p∈l,p.1≠node:=by
 unfold idxP at h
 rw [List.findIdx?_eq_none_iff] at h
 intro p hp e
 have:=h p hp
 simp [e] at this
theorem at_idx (G:Good f) (hp:IsPlaces f l) {node:Int} :f node=(idxP l node).bind (fun k=>l[k]?):=by
 cases h:idxP l node with
 | none=>
  cases hf:f node with
  | none=>rfl
  | some p=>
   have hk:=G.key node p hf
   exact absurd hk (idxP_none h p ((hp.mem p).2 (by rw [hk];exact hf)))
 | some k=>
  obtain ⟨p,h1,h2⟩:=idxP_some h
  have:=(hp.mem p).1 (jm h1)
  rw [h2] at this
  rw [this,Option.bind_some,h1]
theorem insF_mono {n m:Nat} (h:n<=m) (hi:insF f n x y=true):insF f m x y=true:=by
 induction h with
 | refl=>exact hi
 | step _ ih=>exact insF_succ f _ _ _ ih
def below (d:Int->Nat) (l:List Plc) (x:Int):Nat:=l.countP (fun p=>decide (d p.1<d x))
theorem countP_lt {α:Type} {p q:α->Bool} :∀(l:List α),(∀x∈l,p x=true->q x=true)->(∃x∈l,p x=false/\q x=true)->l.countP p+1<=l.countP q
 | [],_,⟨x,hx,_⟩=>yy
 | a::r,h,⟨x,hx,h1,h2⟩=>by
  rcases jn.1 hx with rfl | hx
  ·rw [List.countP_cons_of_neg (by simp [h1]),List.countP_cons_of_pos h2]
   have:=List.countP_mono_left (l:=r) (p:=p) (q:=q) (fun y hy=>h y qO)
   omega
  have ih:=countP_lt r (fun y hy=>h y qO) ⟨x,hx,h1,h2⟩
  cases ha:p a with
  | true=>rw [List.countP_cons_of_pos ha,List.countP_cons_of_pos (h a zm ha)];omega
  | false=>
   rw [List.countP_cons_of_neg (by simp [ha])]
   have:r.countP q<=(a::r).countP q:=by rw [List.countP_cons];omega
   omega
theorem insF_below {f:Sta} {l:List Plc} {d:Int->Nat} (G:Good f) (hp:IsPlaces f l) (hd:Ranked f d):∀(n:Nat) (x y:Int),insF f n x y=true->insF f (below d l x+1) x y=true
 | 0,_,_,h=>by simp [insF] at h
 | n+1,x,y,h=>by
  cases hf:f x with
  | none=>rw [insF_none hf] at h;cases h
  | some p=>
   rw [insF_some hf,uI] at h |-
   rcases h with h | h
   ·exact .inl h
   right
   have ih:=insF_below G hp hd n _ _ h
   cases hq:f p.2.1 with
   | none=>rw [insF_none hq] at h;cases h
   | some q=>
    have hk:=G.key _ q hq
    have hdx:=hd x p hf
    refine insF_mono (countP_lt l (fun z _ hz=> ?_) ⟨q,(hp.mem q).2 (by rw [hk];exact hq),?_,?_⟩) ih
    ·simp at hz |-;omega
    ·simp [hk]
    simp [hk];exact hdx
theorem ins_enough (G:Good f) (hp:IsPlaces f l) :Ins f x y↔insF f (l.length+1) x y=true:=by
 constructor
 ·rintro ⟨n,hn⟩
  obtain ⟨d,hd⟩:=G.rank
  refine insF_mono ?_ (insF_below G hp hd n x y hn)
  have:below d l x<=l.length:=List.countP_le_length
  omega
 exact fun h=>⟨_,h⟩
theorem places_set (hp:IsPlaces f l) (hk:idxP l p.1=some k):IsPlaces (upd f p.1 (some p)) (l.set k p):=by
 obtain ⟨q,h1,h2⟩:=idxP_some hk
 obtain ⟨hkl,hke⟩:=jh.1 h1
 have hmap:(l.set k p).map (·.1)=l.map (·.1):=by
  rw [List.map_set]
  apply List.ext_getElem?
  intro j
  by_cases e:j=k
  ·subst e
   rw [vB (by simpa using hkl)]
   simp [h1,h2]
  rw [uh zi]
 have hr:(l.set k p).Pairwise (fun a b=>a.1<b.1):=by
  have:=hp.rise
  have h3:(l.map (·.1)).Pairwise (· < ·):=ub.2 this
  rw [<-hmap] at h3
  exact ub.1 h3
 refine ⟨hr,fun z=> ?_⟩
 by_cases e:z.1=p.1
 ·rw [e,upd_same]
  constructor
  ·intro hz
   have hpm:p∈l.set k p:=vN.2 ⟨k,vB hkl⟩
   obtain ⟨i,hi⟩:=vN.1 hz
   obtain ⟨j,hj⟩:=vN.1 hpm
   obtain ⟨hil,hie⟩:=jh.1 hi
   obtain ⟨hjl,hje⟩:=jh.1 hj
   rcases uc i j with h | h | h
   ·have:=jF.1 hr i j hil hjl h
    rw [hie,hje] at this;omega
   ·subst h;exact hj.symm.trans hi
   have:=jF.1 hr j i hjl hil h
   rw [hie,hje] at this;omega
  intro h
  cases h
  exact vN.2 ⟨k,vB hkl⟩
 rw [upd_other e,<-hp.mem z]
 constructor
 ·intro hz
  obtain ⟨i,hi⟩:=vN.1 hz
  by_cases hik:i=k
  ·subst hik
   rw [vB hkl] at hi
   cases hi
   exact absurd rfl e
  rw [uh zi] at hi
  exact jm hi
 intro hz
 obtain ⟨i,hi⟩:=vN.1 hz
 refine vN.2 ⟨i,?_⟩
 by_cases hik:i=k
 ·subst hik
  rw [h1] at hi
  cases hi
  exact absurd h2 e
 rw [uh zi];exact hi
theorem places_lay (hp:IsPlaces f l) (hno:idxP l p.1=none) (hlt:∀x∈l.take k,x.1<p.1) (hge:∀x,l[k]? =some x->¬x.1<p.1):IsPlaces (upd f p.1 (some p)) (l.take k++p::l.drop k):=by
 have hne:=idxP_none hno
 have hgt:∀x∈l.drop k,p.1<x.1:=by
  intro x hx
  cases hk:l[k]? with
  | none=>
   rw [List.getElem?_eq_none_iff] at hk
   rw [vR hk] at hx
   simp at hx
  | some y=>
   have hy:=hge y hk
   have hyn:=hne y (jm hk)
   obtain ⟨hkl,hke⟩:=jh.1 hk
   rw [jZ hkl,hke] at hx
   rcases jn.1 hx with rfl | hx
   ·omega
   have hpw:(l.drop k).Pairwise (fun a b=>a.1<b.1):=hp.rise.sublist (List.drop_sublist _ _)
   rw [jZ hkl,hke] at hpw
   have:=(jB.1 hpw).1 x hx
   omega
 refine ⟨?_,fun z=> ?_⟩
 ·rw [jW]
  refine ⟨hp.rise.sublist (List.take_sublist _ _),jB.2 ⟨hgt,hp.rise.sublist (List.drop_sublist _ _)⟩,fun a ha b hb=> ?_⟩
  rcases jn.1 hb with rfl | hb
  ·exact hlt a ha
  have h1:=hlt a ha
  have h2:=hgt b hb
  omega
 have hmem:z∈l.take k++p::l.drop k↔z=p\/z∈l:=by
  conv=>rhs;rw [<-jH k l]
  simp only [ju,jn]
  exact ⟨fun h=>h.elim (fun h=>.inr (.inl h)) (fun h=>h.elim .inl (fun h=>.inr (.inr h))),fun h=>h.elim (fun h=>.inr (.inl h)) (fun h=>h.elim .inl (fun h=>.inr (.inr h)))⟩
 rw [hmem]
 by_cases e:z.1=p.1
 ·rw [e,upd_same]
  constructor
  ·rintro (h | h)
   ·rw [h]
   exact absurd e (hne z h)
  intro h;cases h;exact .inl rfl
 rw [upd_other e,<-hp.mem z]
 exact ⟨fun h=>h.elim (fun h=>absurd (by rw [h]) e) id,.inr⟩
end Go.Proofs.YtpdbnnimdkfajaaGreatDoor
namespace Go.Proofs.YtpdbnnimdkfajaaGreatDoor
open Go.Proofs.Tryz
open Go.RowKit Go.Lib Go.Sort Go.Maps
open scoped Classical
variable {qs:List Plc}
def idxI (qs:List Plc) (node:Int):Int:=match idxP qs node with | some k=>(k:Int) | none=> -1
theorem idxI_none {node:Int} (h:∀j,j<qs.length->(qs[j]!).1≠node):idxP qs node=none:=by
 unfold idxP
 rw [List.findIdx?_eq_none_iff]
 intro p hp
 obtain ⟨j,hj,rfl⟩:=jU hp
 have:=h j hj
 rw [getElem!_pos qs j hj] at this
 simpa using this
theorem idxI_some {node:Int} {i:Nat} (hi:i<qs.length) (he:(qs[i]!).1=node) (h:∀j,j<i->(qs[j]!).1≠node):idxP qs node=some i:=by
 unfold idxP
 refine List.findIdx?_eq_some_iff_getElem.2 ⟨hi,?_,fun j hj=> ?_⟩
 ·rw [getElem!_pos qs i hi] at he
  simpa using he
 have:=h j hj
 rw [getElem!_pos qs j zi] at this
 simpa using this
theorem placeOf_any (w:World) (ao:Option Addr) (cap:Nat) (qs:List Plc) (node:Int) (h:PlsAt w (.slice ao qs.length cap) qs) (hn:qs.length<=1000):
  Calls prog 95 #[.slice ao qs.length cap,.int .i64 node] w fun e w'=>e= .returned (.int .i64 (idxI qs node))/\w'=w:=by
 have HP:Aside (PlsAt w (.slice ao qs.length cap) qs):=h
 clear h
 go_enter func95,ntmps95
 go_wp2
 go_loopg [5] qs.length (fun kx s5 wr=>∃(i:Nat),s5= .int .i64 (i:Int)/\i<=qs.length/\qs.length - i<=kx/\wr=w/\Aside (∀j,j<i->(qs[j]!).1≠node))
 case atStart=>exact ⟨0,rfl,js _,jj _,rfl,fun j hj=>absurd hj (uv _)⟩
 case round=>
  obtain ⟨i,rfl,hi,hkx,rfl,A⟩:=hrel
  by_cases hlt:i<qs.length
  ·have hltz:decide ((i:Int)<(qs.length:Int))=true:=by simp;omega
   have ex:((i:Int)).toNat=i:=zi
   have px:(0:Int)<=(i:Int):=zi
   have bx:(i:Int)<(qs.length:Int):=zi
   obtain ⟨⟨c,q,nm⟩,hp⟩:∃p:Plc,qs[i]? =some p:=⟨_,ji hlt⟩
   obtain ⟨g,rfl,x0,-,-⟩:=HP.o.three hp
   have hc:Aside ((qs[i]!).1=c):=by
    have:=(jh.1 hp).2
    show (qs[i]!).1=c
    rw [getElem!_pos qs i hlt,this]
   clear hp
   by_cases he:c=node
   ·have hd:(c==node)=true:=by simp [he]
    have HE:Aside (idxI qs node=(i:Int)):=by
     show idxI qs node=(i:Int)
     unfold idxI
     rw [idxI_some hlt (hc.o.trans he) A.o]
    clear he
    go_wp2
    go_ret
    exact ⟨by rw [HE.o];rfl,rfl⟩
   have hd:(c==node)=false:=by simp [he]
   go_wp2
   go_roundg (qs.length - (i+1))
   case measure=>omega
   case rel=>
    refine ⟨i+1,zw,zi,jj _,rfl,fun j hj=> ?_⟩
    rcases vh j i with h | h
    ·exact A.o j h
    obtain rfl:j=i:=zi
    rw [hc.o];exact he
  have hltz:decide ((i:Int)<(qs.length:Int))=false:=zk
  have HE:Aside (idxI qs node= -1):=by
   show idxI qs node= -1
   unfold idxI
   rw [idxI_none (fun j hj=>A.o j zi)]
  go_wp2
  go_ret
  exact ⟨by rw [HE.o];rfl,rfl⟩
theorem isInside_any (w:World) (ao:Option Addr) (cap:Nat) (qs:List Plc) (f:Sta) (node of:Int) (G:Good f) (hp:IsPlaces f qs) (h:PlsAt w (.slice ao qs.length cap) qs) (hn:qs.length<=1000):
  Calls prog 36 #[.slice ao qs.length cap,.int .i64 node,.int .i64 of] w fun e w'=>e= .returned (.bool (insF f (qs.length+1) node of))/\w'=w:=by
 have HP:Aside (PlsAt w (.slice ao qs.length cap) qs/\Good f/\IsPlaces f qs):=⟨h,G,hp⟩
 clear h G hp
 obtain ⟨zz,hzz⟩:∃zz,Aside (insF f (qs.length+1) node of=zz):=⟨_,rfl⟩
 rw [hzz.o]
 go_enter func36,ntmps36
 go_wp2
 go_loopg [1,7] (qs.length+1) (fun kx s1 s7 wr=>∃(i:Nat) (x:Int),s1= .int .i64 x/\s7= .int .i64 (i:Int)/\i<=qs.length+1/\qs.length+1 - i<=kx/\wr=w/\Aside (insF f (qs.length+1 - i) x of=zz))
 case atStart=>exact ⟨0,node,rfl,rfl,js _,jj _,rfl,hzz.o⟩
 case round=>
  obtain ⟨i,x,rfl,rfl,hi,hkx,rfl,A⟩:=hrel
  by_cases hlt:i<=qs.length
  ·have hltz:decide ((i:Int)<=(qs.length:Int))=true:=by simp;omega
   obtain ⟨mm,hmm⟩:∃mm,Aside (qs.length+1 - i=mm+1):=⟨qs.length - i,show qs.length+1 - i=qs.length - i+1 by omega⟩
   have hat:=at_idx HP.o.2.1 HP.o.2.2 (node:=x)
   cases hix:idxP qs x with
   | none=>
    rw [hix] at hat
    have HZ:Aside (zz=false):=by
     have:=A.o
     rw [insF_none hat] at this
     exact this.symm
    have e1:idxI qs x= -1:=by unfold idxI;rw [hix]
    have hc:=placeOf_any wr ao cap qs x HP.o.1 hn
    rw [e1] at hc
    clear hat hix e1
    go_wp2_with fail
    refine hc.mono ?_
    rintro e w1 ⟨rfl,hw1⟩
    subst hw1
    go_wp2
    go_ret
    exact ⟨by rw [HZ.o];rfl,rfl⟩
   | some k=>
    obtain ⟨⟨c,q,nm⟩,hpk,hpc⟩:=idxP_some hix
    rw [hix,Option.bind_some,hpk] at hat
    have e1:idxI qs x=(k:Int):=by unfold idxI;rw [hix]
    have hc:=placeOf_any wr ao cap qs x HP.o.1 hn
    rw [e1] at hc
    have hkl:k<qs.length:=(jh.1 hpk).1
    have ex:((k:Int)).toNat=k:=zi
    have px:(0:Int)<=(k:Int):=zi
    have bx:(k:Int)<(qs.length:Int):=zi
    have dk:decide ((k:Int)<0)=false:=zm
    obtain ⟨g,rfl,x0,x1,x2⟩:=HP.o.1.three hpk
    have AA:=A.o
    rw [hmm.o,insF_some hat] at AA
    clear x0 x2 hat hix e1 hpk
    by_cases he:q=of
    ·have hd:(q==of)=true:=by simp [he]
     have HZ:Aside (zz=true):=by
      rw [decide_eq_true (show (c,q,nm).2.1=of from he)] at AA
      exact AA.symm
     clear AA he
     go_wp2_with fail
     refine hc.mono ?_
     rintro e w1 ⟨rfl,hw1⟩
     subst hw1
     go_wp2
     go_ret
     exact ⟨by rw [HZ.o];rfl,rfl⟩
    have hd:(q==of)=false:=by simp [he]
    have HZ:Aside (insF f mm q of=zz):=by
     rw [decide_eq_false (show ¬(c,q,nm).2.1=of from he),Bool.false_or] at AA
     exact AA
    clear AA he
    go_wp2_with fail
    refine hc.mono ?_
    rintro e w1 ⟨rfl,hw1⟩
    subst hw1
    go_wp2
    go_roundg (qs.length+1 - (i+1))
    case measure=>omega
    case rel=>
     refine ⟨i+1,q,rfl,zw,zi,jj _,rfl,?_⟩
     have e3:qs.length+1 - (i+1)=mm:=by have:=hmm.o;omega
     show insF f (qs.length+1 - (i+1)) q of=zz
     rw [e3];exact HZ.o
  have hltz:decide ((i:Int)<=(qs.length:Int))=false:=zk
  have HZ:Aside (zz=false):=by
   have:=A.o
   have e3:qs.length+1 - i=0:=zi
   rw [e3] at this
   exact this.symm
  go_wp2
  go_ret
  exact ⟨by rw [HZ.o];rfl,rfl⟩
end Go.Proofs.YtpdbnnimdkfajaaGreatDoor
namespace Go.Proofs.YtpdbnnimdkfajaaGreatDoor
open Go.RowKit Go.Lib Go.Sort
open scoped Classical
variable {name:ByteArray} {ys:List OpX} {qs:List Plc} {g i k n:Nat} {y:OpX} {e:TypeId} {ov v:Value} {w w1 wr wr':World}
theorem infoRP:(Tryz.prog.info? 95).map (fun i=>(i.zero,i.size,i.bytes))=some (some (.agg #[.int .i64 0,.int .i64 0,.string ⟨#[]⟩]),3,32):=zj
theorem plsOwn {base:Nat} (h:w.ownsRow base e 3 v qs.length (flat cellsP qs)):PlsAt w v qs:=by
 rcases h.2 with ⟨h1,h2⟩ | ⟨g,cap,cur,rfl,_⟩
 ·exact .inl ⟨h1,jC.1 h2⟩
 refine .inr ⟨g,cap,rfl,(h.lt g rfl).2,fun j u hj=> ?_⟩
 have hl:j<(flat cellsP qs).length:=(jh.1 hj).1
 rw [flat_len (k:=3) (fun _=>rfl)] at hl
 rw [h.cellAt j hl,hj]
theorem rp_set {base cap:Nat} (p:Plc) (h:w.ownsRow base e 3 (.slice (some ⟨g,0,none⟩) n cap) n (flat cellsP qs)) (hk:k<qs.length):
  (((w.setCell ⟨g,k*3,none⟩ (.int .i64 p.1)).setCell ⟨g,k*3+1,none⟩ (.int .i64 p.2.1)).setCell ⟨g,k*3+2,none⟩ (.string p.2.2)).ownsRow base e 3 (.slice (some ⟨g,0,none⟩) n cap) n (flat cellsP (qs.set k p)):=by
 have e1:flat cellsP qs=(flat cellsP qs).take (k*3)++cellsP qs[k]++(flat cellsP qs).drop ((k+1)*3):=by
  have:=flat_set (enc:=cellsP) (k:=3) (fun _=>rfl) qs k hk qs[k]
  rwa [List.set_getElem_self] at this
 have e2:=flat_set (enc:=cellsP) (k:=3) (fun _=>rfl) qs k hk p
 have hl:((flat cellsP qs).take (k*3)).length=k*3:=by
  rw [jz,flat_len (k:=3) (fun _=>rfl)];omega
 rw [e1] at h
 rw [e2]
 have:=owns_over (vs:=cellsP p) h rfl
 rw [hl] at this
 exact this
theorem lit_rp (w:World) (p:Plc) (j:Nat) (u:Value) (hj:(cellsP p)[j]? =some u):(w.alloc (.cells #[.int .i64 p.1,.int .i64 p.2.1,.string p.2.2] 95)).cell? ((⟨w.heap.size,0,none⟩:Addr).add j)=some u:=by
 have hl:j<1*3:=by have:=(jh.1 hj).1;simpa [cellsP] using this
 have h:=World.ownsRow_lit (base:=0) (e:=95) (size:=3) w #[.int .i64 p.1,.int .i64 p.2.1,.string p.2.2] 1 (js _) (by simp [maxLen]) rfl
 rw [Addr.add_lit,jt,h.cellAt j hl]
 exact hj
theorem rp_new (w:World) (c q:Int) (nm:ByteArray):(w.alloc (.cells #[.int .i64 c,.int .i64 q,.string nm] 95)).cell? ⟨w.heap.size,0,none⟩=some (.int .i64 c)/\(w.alloc (.cells #[.int .i64 c,.int .i64 q,.string nm] 95)).cell? ⟨w.heap.size,1,none⟩=some (.int .i64 q)/\(w.alloc (.cells #[.int .i64 c,.int .i64 q,.string nm] 95)).cell? ⟨w.heap.size,2,none⟩=some (.string nm):=by
 have h:=fun j u hj=>lit_rp w (c,q,nm) j u hj
 exact ⟨h 0 _ rfl,h 1 _ rfl,h 2 _ rfl⟩
theorem flat_take_cells (k:Nat) (h:∀j u,(flat cellsP qs)[j]? =some u->w.cell? ⟨g,j,none⟩=some u) (j:Nat) (u:Value) (hj:(flat cellsP (qs.take k))[j]? =some u):w.cell? ((⟨g,0,none⟩:Addr).add j)=some u:=by
 rw [Addr.add_lit,jt]
 refine h j u ?_
 have e:flat cellsP qs=flat cellsP (qs.take k)++flat cellsP (qs.drop k):=ya
 rw [e,vD (jh.1 hj).1]
 exact hj
theorem flat_drop_cells (k:Nat) (hk:k<=qs.length) (h:∀j u,(flat cellsP qs)[j]? =some u->w.cell? ⟨g,j,none⟩=some u) (j:Nat) (u:Value) (hj:(flat cellsP (qs.drop k))[j]? =some u):w.cell? ((⟨g,k*3,none⟩:Addr).add j)=some u:=by
 rw [Addr.add_lit]
 refine h _ u ?_
 have e:flat cellsP qs=flat cellsP (qs.take k)++flat cellsP (qs.drop k):=ya
 have hl:(flat cellsP (qs.take k)).length=k*3:=by rw [flat_len (k:=3) (fun _=>rfl),jz];congr 1;omega
 rw [e,uz zi,hl,Nat.add_sub_cancel_left]
 exact hj
theorem owns_base {b b':Nat} {xs:List Value} (h:w.ownsRow b e k v n xs) (hb:b'<=b):w.ownsRow b' e k v n xs:=by
 refine ⟨h.1,?_⟩
 rcases h.2 with h0 | ⟨g,cap,cur,rfl,h1,h2⟩
 ·exact .inl h0
 exact .inr ⟨g,cap,cur,rfl,zi,h2⟩
structure St4 (w1:World) (ys:List OpX) (i:Nat) (qs:List Plc) (ov:Value) (wr:World):Prop where
 row:wr.ownsRow w1.heap.size 95 3 ov qs.length (flat cellsP qs)
 pls:IsPlaces (madeBy (movsO (ys.take i))) qs
 len:qs.length<=i
 below:Below w1.heap.size w1 wr
theorem movO_is (h:kdO y=109):movO y=some (movX y):=by unfold movO movX stX;rw [if_pos h]
theorem movO_no (h:kdO y≠109):movO y=none:=by unfold movO;rw [if_neg h]
theorem St4.good (_:St4 w1 ys i qs ov wr) (h:∀y∈ys,kdO y=109->FineP (movX y).2):Good (madeBy (movsO (ys.take i))):=
 good_made fun m hm=>by
  obtain ⟨y,hy,he⟩:=vO.1 hm
  by_cases hk:kdO y=109
  ·rw [movO_is hk] at he
   cases he
   exact h y (uf hy) hk
  rw [movO_no hk] at he
  cases he
theorem take_more (hi:i<ys.length):ys.take (i+1)=ys.take i++ [ys[i]!]:=by
 rw [jL,ji hi,getElem!_pos ys i hi]
 rfl
theorem made_next (hi:i<ys.length) (hk:kdO ys[i]! =109):madeBy (movsO (ys.take (i+1)))=step (madeBy (movsO (ys.take i))) (movX ys[i]!):=by
 unfold movsO
 rw [take_more hi,List.filterMap_append]
 have:List.filterMap movO [ys[i]!]= [movX ys[i]!]:=by rw [List.filterMap_cons,movO_is hk];rfl
 rw [this]
 exact made_snoc _ _
theorem made_same (hi:i<ys.length) (hk:kdO ys[i]! ≠109):movsO (ys.take (i+1))=movsO (ys.take i):=by
 unfold movsO
 rw [take_more hi,List.filterMap_append]
 have:List.filterMap movO [ys[i]!]= []:=by rw [List.filterMap_cons,movO_no hk];rfl
 rw [this,vf]
theorem St4.idle (h:St4 w1 ys i qs ov wr) (hi:i<ys.length) (hk:kdO ys[i]! =109) (hb:Below wr.heap.size wr wr') (hd:Idle (madeBy (movsO (ys.take i))) (movX ys[i]!).2):St4 w1 ys (i+1) qs ov wr':=
 ⟨owns_same h.row (fun g hg=>hb.block g (h.row.lt g hg).2),by rw [made_next hi hk,step_idle hd];exact h.pls,by have:=h.len;omega,zh h.below hb⟩
theorem St4.skip (h:St4 w1 ys i qs ov wr) (hi:i<ys.length) (hk:kdO ys[i]! ≠109) (hb:Below wr.heap.size wr wr'):St4 w1 ys (i+1) qs ov wr':=
 ⟨owns_same h.row (fun g hg=>hb.block g (h.row.lt g hg).2),by rw [made_same hi hk];exact h.pls,by have:=h.len;omega,zh h.below hb⟩
theorem St4.later (h:St4 w1 ys i qs ov wr) (hb:Below wr.heap.size wr wr'):St4 w1 ys i qs ov wr':=
 ⟨owns_same h.row (fun g hg=>hb.block g (h.row.lt g hg).2),h.pls,h.len,zh h.below hb⟩
theorem St4.set {w1:World} {ys:List OpX} {i:Nat} {qs:List Plc} {g cg k:Nat} {wr:World} {node other:Int} {name:ByteArray} (h:St4 w1 ys i qs (.slice (some ⟨g,0,none⟩) qs.length cg) wr) (hk:idxP qs node=some k) (hID:madeBy (movsO (ys.take (i+1)))=upd (madeBy (movsO (ys.take i))) node (some (node,other,name))):
  St4 w1 ys (i+1) (qs.set k (node,other,name)) (.slice (some ⟨g,0,none⟩) qs.length cg) (((wr.setCell ⟨g,k*3,none⟩ (.int .i64 node)).setCell ⟨g,k*3+1,none⟩ (.int .i64 other)).setCell ⟨g,k*3+2,none⟩ (.string name)):=by
 obtain ⟨p,hp,_⟩:=idxP_some hk
 have hkl:=(jh.1 hp).1
 have hg:=(h.row.lt g rfl).1
 refine ⟨by rw [vZ];exact rp_set (node,other,name) h.row hkl,by rw [hID];exact places_set (p:=(node,other,name)) h.pls hk,by rw [vZ];have:=h.len;omega,h.below.trans ?_⟩
 exact (three_keeps wr g _ _ _ _ _ _).below h.below.size (fun j e=>by rw [e];exact hg)
theorem St4.lay {v':Value} {w':World} {node other:Int} (h:St4 w1 ys i qs ov wr) (hk:idxP qs node=none) (hID:madeBy (movsO (ys.take (i+1)))=upd (madeBy (movsO (ys.take i))) node (some (node,other,name)))
  (hkl:k<=qs.length) (hl:∀j,j<k->(qs[j]!).1<node) (hge:k<qs.length->¬(qs[k]!).1<node) (hrow:w'.ownsRow w1.heap.size 95 3 v' (k+1+(qs.length - k)) (flat cellsP (qs.take k)++cellsP (node,other,name)++flat cellsP (qs.drop k))) (hb:Below w1.heap.size w1 w'):
  St4 w1 ys (i+1) (qs.take k++(node,other,name)::qs.drop k) v' w':=by
 have hlen:(qs.take k++(node,other,name)::qs.drop k).length=k+1+(qs.length - k):=by
  rw [jA,jK,jz,jT];omega
 have hfl:flat cellsP (qs.take k++(node,other,name)::qs.drop k)=flat cellsP (qs.take k)++cellsP (node,other,name)++flat cellsP (qs.drop k):=by
  rw [flat_append,flat_cons,jR]
 refine ⟨by rw [hlen,hfl];exact hrow,?_,by rw [hlen];have:=h.len;omega,hb⟩
 rw [hID]
 refine places_lay (p:=(node,other,name)) h.pls hk (fun x hx=> ?_) (fun x hx=> ?_)
 ·obtain ⟨j,hj,rfl⟩:=vQ.1 hx
  rw [jz] at hj
  have:=hl j zi
  rw [getElem!_pos qs j zi] at this
  rwa [ud]
 obtain ⟨hkl',hke⟩:=jh.1 hx
 have:=hge hkl'
 rw [getElem!_pos qs k hkl',hke] at this
 exact this
end Go.Proofs.YtpdbnnimdkfajaaGreatDoor
end
section
namespace Go.Proofs.YtpdbnnimdkfajaaGreatDoor
open Go.Proofs.Tryz
open Go.RowKit Go.Lib Go.Sort Go.Maps
open scoped Classical
def MoveOut (ad:Nat->Addr) (w:World) (ok:Prop) (x:OpX) (cyc:Prop) (e:Ending) (w':World):Prop:=Below w.heap.size w w'/\
 ((¬ok/\e= .returned (.tuple #[encO zeroO,eV ad 6]))\/(ok/\errF x≠0/\e= .returned (.tuple #[encO zeroO,eV ad (errF x)]))\/(ok/\errF x=0/\cyc/\e= .returned (.tuple #[encO zeroO,eV ad 10]))\/(ok/\errF x=0/\¬cyc/\e= .returned (.tuple #[encO x,.nilIface])))
theorem rmove_any {B:Nat} {ad:Nat->Addr} (w:World) (c:Nat->Nat) (br:Nat) (T:Int) (i:Nat) (ao:Nat->Option Addr) (cap:Nat->Nat) (bt bx bc bm n:Nat) (f:Sta) (R:Rws) (nd into:Int) (name:ByteArray) (hc:RepCell w br T (i:Int) (kvs ao cap R) bt bx bc) (hrows:RowsAt w c (kvs ao cap R) R) (ht:w.cell? ⟨bt,0,none⟩=some (.map (some bm))) (hmap:MapAt prog 3 w bm n f) (hG:Good f) (hR:RowsK R) (hE:EnvE B ad w) (hcy:Aside (Cyc ad)) (hi:i<4) (hT:0<=T) (hm:T<=1073741824) (hn:(allR R).length<=140) (hs1:name.size<=1000000) (h2: -9223372036854775808<=nd) (h3:nd<=9223372036854775807) (h4: -9223372036854775808<=into) (h5:into<=9223372036854775807):
  Calls prog 65 #[.pointer (some ⟨br,0,none⟩),.int .i64 nd,.int .i64 into,.string name] w (MoveOut ad w (KnownN (allR R) nd/\(into=0\/into=1\/KnownN (allR R) into)) (ownX T i (R i).length 109 nd into name ⟨#[]⟩) (into=nd\/Ins f into nd)):=by
 have hrl:∀i,i<4->(R i).length<=1000:=fun i hi=>yh
 obtain ⟨S,hS⟩:=za w.heap.size
 obtain ⟨U,hU⟩:=za (w.alloc (.cells #[.int .i64 0,.int .i64 0,.int .i64 0,.int .u8 0,.int .i64 0,.int .i64 0,.string ⟨#[]⟩,.string ⟨#[]⟩] 38))
 have hbU:Below w.heap.size w U:=zJ
 have Z0:OpBlk U S zeroO:=yj
 have hcU:RepCell U br T (i:Int) (kvs ao cap R) bt bx bc:=hc.same (hbU.block _ hc.lt)
 obtain ⟨zb,hzb⟩:∃zb:Bool,zb=true↔KnownN (allR R) nd:=⟨@decide _ (Classical.propDecidable _),@decide_eq_true_iff _ (Classical.propDecidable _)⟩
 obtain ⟨zp,hzp⟩:∃zp:Bool,zp=true↔(into=0\/into=1\/KnownN (allR R) into):=⟨@decide _ (Classical.propDecidable _),@decide_eq_true_iff _ (Classical.propDecidable _)⟩
 have hnode:=isNode_any U ao cap R nd zb hzb ((hE.later hbU).op4) ((KnownAt.of_rows hrows).later hbU) hR.toN hrl h2 h3
 unfold kV at hnode
 have k2:U.cell? ⟨br,2,none⟩=some (.slice (ao 0) (R 0).length (cap 0)):=hcU.c2
 have k3:U.cell? ⟨br,3,none⟩=some (.slice (ao 1) (R 1).length (cap 1)):=hcU.c3
 have k4:U.cell? ⟨br,4,none⟩=some (.slice (ao 2) (R 2).length (cap 2)):=hcU.c4
 have k5:U.cell? ⟨br,5,none⟩=some (.slice (ao 3) (R 3).length (cap 3)):=hcU.c5
 have HT:Aside (KnownAt U ao R/\RowsN R/\(∀i,i<4->(R i).length<=1000)/\w.cell? ⟨bt,0,none⟩=some (.map (some bm))/\MapAt prog 3 w bm n f/\Good f):=⟨(KnownAt.of_rows hrows).later hbU,hR.toN,hrl,ht,hmap,hG⟩
 have H0:Aside (RepCell U br T (i:Int) (kvs ao cap R) bt bx bc/\OpBlk U S zeroO/\Below w.heap.size w U/\S=w.heap.size/\EnvE B ad U/\B<=w.heap.size/\(zb=true↔KnownN (allR R) nd)/\(zp=true↔(into=0\/into=1\/KnownN (allR R) into))):=⟨hcU,Z0,hbU,hS,hE.later hbU,hE.size,hzb,hzp⟩
 have HU:Aside (U=w.alloc (.cells #[.int .i64 0,.int .i64 0,.int .i64 0,.int .u8 0,.int .i64 0,.int .i64 0,.string ⟨#[]⟩,.string ⟨#[]⟩] 38)):=hU
 clear hU hcU Z0 hbU hE hc hS hzb hzp hrows hR ht hmap hG hrl
 go_enter func65,ntmps65
 go_upto_region 1 with fail
 rw [<-HU.o,<-H0.o.2.2.2.1]
 go_wp2_with fail
 refine hnode.mono ?_
 clear hnode k2 k3 k4 k5
 rintro e w1 ⟨rfl,hb1⟩
 have Z1:=H0.o.2.1.later hb1
 have H1:Aside (OpBlk w1 S zeroO/\Below w.heap.size w w1/\EnvE B ad w1/\RepCell w1 br T (i:Int) (kvs ao cap R) bt bx bc/\KnownAt w1 ao R):=⟨Z1,zh H0.o.2.2.1 hb1,H0.o.2.2.2.2.1.later hb1,H0.o.1.same (hb1.block _ H0.o.1.lt),HT.o.1.later hb1⟩
 clear hb1 Z1
 cases zb with
 | false=>
  have HNO:=Lib.hid (show ¬(KnownN (allR R) nd/\(into=0\/into=1\/KnownN (allR R) into)) from fun q=>by have:=H0.o.2.2.2.2.2.2.1.2 q.1;cases this)
  obtain ⟨z0,z1,z2,z3,z4,z5,z6,z7,zf⟩:=H1.o.1.cells
  unfold zeroO at z0 z1 z2 z3 z4 z5 z6 z7
  dsimp only at z0 z1 z2 z3 z4 z5 z6 z7
  have eg:=H1.o.2.2.1.c5
  have hlo:=H1.o.2.2.1.low
  have hSw:=H0.o.2.2.2.1
  have hBw:=H0.o.2.2.2.2.2.1
  have n1:0≠S:=zi
  have n2:S≠0:=zi
  clear hlo hSw hBw
  go_wp2_with fail
  go_region
  all_goals
   go_wp2
   (try simp only [Exit.inBlock,Exit.then])
   refine bodyPost_ret (v:=.tuple #[encO zeroO,eV ad 6]) ?_ rfl ⟨?_,.inl ⟨HNO.o,rfl⟩⟩
   ·rw [results_ct rfl]
    unfold encO zeroO eV
    go_simp
   exact (below_cells (b:=S) H1.o.2.1 zF 0 [.int .i64 0,.int .i64 0,.int .i64 0,.int .u8 0,.int .i64 0,.int .i64 0,.string ⟨#[]⟩,.string ⟨#[]⟩]).drew
 | true=>
  have HK1:Aside (KnownN (allR R) nd):=H0.o.2.2.2.2.2.2.1.1 rfl
  have hplace:=isPlace_any w1 ao cap R into zp H0.o.2.2.2.2.2.2.2 H1.o.2.2.1.op4 H1.o.2.2.2.2 HT.o.2.1 HT.o.2.2.1 h4 h5
  unfold kV at hplace
  have k2:w1.cell? ⟨br,2,none⟩=some (.slice (ao 0) (R 0).length (cap 0)):=H1.o.2.2.2.1.c2
  have k3:w1.cell? ⟨br,3,none⟩=some (.slice (ao 1) (R 1).length (cap 1)):=H1.o.2.2.2.1.c3
  have k4:w1.cell? ⟨br,4,none⟩=some (.slice (ao 2) (R 2).length (cap 2)):=H1.o.2.2.2.1.c4
  have k5:w1.cell? ⟨br,5,none⟩=some (.slice (ao 3) (R 3).length (cap 3)):=H1.o.2.2.2.1.c5
  go_wp2_with fail
  refine hplace.mono ?_
  clear hplace k2 k3 k4 k5
  rintro e w2 ⟨rfl,hb2⟩
  have H2:Aside (OpBlk w2 S zeroO/\Below w.heap.size w w2/\EnvE B ad w2/\RepCell w2 br T (i:Int) (kvs ao cap R) bt bx bc):=⟨H1.o.1.later hb2,zh H1.o.2.1 hb2,H1.o.2.2.1.later hb2,H1.o.2.2.2.1.same (hb2.block _ H1.o.2.2.2.1.lt)⟩
  clear hb2
  cases zp with
  | false=>
   have HNO:=Lib.hid (show ¬(KnownN (allR R) nd/\(into=0\/into=1\/KnownN (allR R) into)) from fun q=>by have:=H0.o.2.2.2.2.2.2.2.2 q.2;cases this)
   obtain ⟨z0,z1,z2,z3,z4,z5,z6,z7,zf⟩:=H2.o.1.cells
   unfold zeroO at z0 z1 z2 z3 z4 z5 z6 z7
   dsimp only at z0 z1 z2 z3 z4 z5 z6 z7
   have eg:=H2.o.2.2.1.c5
   have hlo:=H2.o.2.2.1.low
   have hSw:=H0.o.2.2.2.1
   have hBw:=H0.o.2.2.2.2.2.1
   have n1:0≠S:=zi
   have n2:S≠0:=zi
   clear hlo hSw hBw
   go_wp2_with fail
   go_region
   all_goals
    go_wp2
    (try simp only [Exit.inBlock,Exit.then])
    refine bodyPost_ret (v:=.tuple #[encO zeroO,eV ad 6]) ?_ rfl ⟨?_,.inl ⟨HNO.o,rfl⟩⟩
    ·rw [results_ct rfl]
     unfold encO zeroO eV
     go_simp
    exact (below_cells (b:=S) H2.o.2.1 zF 0 [.int .i64 0,.int .i64 0,.int .i64 0,.int .u8 0,.int .i64 0,.int .i64 0,.string ⟨#[]⟩,.string ⟨#[]⟩]).drew
  | true=>
   have HOK:Aside (KnownN (allR R) nd/\(into=0\/into=1\/KnownN (allR R) into)):=⟨HK1.o,H0.o.2.2.2.2.2.2.2.1 rfl⟩
   have hown:=own_any w2 br T i ao cap bt bx bc R 109 nd into name ⟨#[]⟩ H2.o.2.2.2 H2.o.2.2.1 hi hT hm hn hs1 zo
   unfold encO at hown
   dsimp only at hown
   go_wp2_with fail
   refine hown.mono ?_
   clear hown
   rintro e w3 ⟨he,hb3⟩
   obtain ⟨x,hx⟩:=za ((ownX T i (R i).length 109 nd into name ⟨#[]⟩))
   rw [<-hx] at he
   have H3:Aside (OpBlk w3 S zeroO/\Below w.heap.size w w3/\EnvE B ad w3/\RepCell w3 br T (i:Int) (kvs ao cap R) bt bx bc):=⟨H2.o.1.later hb3,zh H2.o.2.1 hb3,H2.o.2.2.1.later hb3,H2.o.2.2.2.same (hb3.block _ H2.o.2.2.2.lt)⟩
   have HXE:Aside (x=(ownX T i (R i).length 109 nd into name ⟨#[]⟩)):=hx
   clear hb3 hx
   by_cases he0:errF x=0
   ·rw [if_pos he0,he0] at he
    subst he
    obtain ⟨t,b,m,kd,nd',o,s,v⟩:=x
    have HX:=Lib.hid he0
    clear he0
    unfold encO eV
    dsimp only
    go_upto_region 4 with fail
    obtain ⟨W,hW⟩:=za (w3.alloc (.cells #[.int .i64 t,.int .i64 b,.int .i64 m,.int .u8 (kd:Int),.int .i64 nd',.int .i64 o,.string s,.string v] 38))
    obtain ⟨V,hV⟩:=za w3.heap.size
    rw [<-hW,<-hV]
    have hbW:Below w3.heap.size w3 W:=by rw [hW];exact zg w3 _
    have hN:OpBlk W V (t,b,m,kd,nd',o,s,v):=by rw [hW,hV];exact OpBlk.new w3 (t,b,m,kd,nd',o,s,v)
    have hBw':=zh H3.o.2.1 hbW
    have H4:Aside (OpBlk W S zeroO/\Below w.heap.size w W/\EnvE B ad W/\RepCell W br T (i:Int) (kvs ao cap R) bt bx bc/\OpBlk W V (t,b,m,kd,nd',o,s,v)/\V=w3.heap.size/\S<V):=⟨H3.o.1.later hbW,hBw',H3.o.2.2.1.later hbW,H3.o.2.2.2.same (hbW.block _ H3.o.2.2.2.lt),hN,hV,by rw [hV];exact H3.o.1.lt⟩
    obtain ⟨z,hz⟩:∃z:Bool,z=true↔Ins f into nd:=⟨@decide _ (Classical.propDecidable _),@decide_eq_true_iff _ (Classical.propDecidable _)⟩
    have hins:=inside_is W bt bm n f into nd z hz (cell_later hBw' HT.o.2.2.2.1) (HT.o.2.2.2.2.1.same (hBw'.block _ HT.o.2.2.2.2.1.lt)) HT.o.2.2.2.2.2 (wf_of zi zi)
    have HZ:Aside (z=true↔Ins f into nd):=hz
    have k6:W.cell? ⟨br,6,none⟩=some (.pointer (some ⟨bt,0,none⟩)):=H4.o.2.2.2.1.c6
    have HX0:Aside (errF (ownX T i (R i).length 109 nd into name ⟨#[]⟩)=0):=by have:=HX.o;rw [HXE.o] at this;exact this
    clear hbW hN hBw' hz hW hV
    by_cases hq:into=nd
    ·have HCY:Aside (into=nd\/Ins f into nd):=.inl hq
     subst hq
     clear hins
     obtain ⟨z0,z1,z2,z3,z4,z5,z6,z7,zf⟩:=H4.o.1.cells
     unfold zeroO at z0 z1 z2 z3 z4 z5 z6 z7
     dsimp only at z0 z1 z2 z3 z4 z5 z6 z7
     have eg:=H4.o.2.2.1.c9 hcy.o
     have hlo:=H4.o.2.2.1.low
     have hSw:=H0.o.2.2.2.1
     have hBw:=H0.o.2.2.2.2.2.1
     have n1:9≠S:=zi
     have n2:S≠9:=zi
     clear hlo hSw hBw
     go_wp2_with fail
     go_region
     all_goals
      go_wp2
      (try simp only [Exit.inBlock,Exit.then])
      refine bodyPost_ret (v:=.tuple #[encO zeroO,eV ad 10]) ?_ rfl ⟨?_,.inr (.inr (.inl ⟨HOK.o,HX0.o,HCY.o,rfl⟩))⟩
      ·rw [results_ct rfl]
       unfold encO zeroO eV
       go_simp
      exact (below_cells (b:=S) H4.o.2.1 zF 0 [.int .i64 0,.int .i64 0,.int .i64 0,.int .u8 0,.int .i64 0,.int .i64 0,.string ⟨#[]⟩,.string ⟨#[]⟩]).drew
    have HNQ:=Lib.hid hq
    have dq:decide (into=nd)=false:=by simp [hq]
    clear hq
    go_wp2_with fail
    refine hins.mono ?_
    clear hins k6
    rintro e w5 ⟨rfl,hb5⟩
    have H5:Aside (OpBlk w5 S zeroO/\Below w.heap.size w w5/\EnvE B ad w5/\OpBlk w5 V (t,b,m,kd,nd',o,s,v)):=⟨H4.o.1.later hb5,zh H4.o.2.1 hb5,H4.o.2.2.1.later hb5,H4.o.2.2.2.2.1.later hb5⟩
    clear hb5
    cases z with
    | true=>
     have HCY:Aside (into=nd\/Ins f into nd):=.inr (HZ.o.1 rfl)
     obtain ⟨z0,z1,z2,z3,z4,z5,z6,z7,zf⟩:=H5.o.1.cells
     unfold zeroO at z0 z1 z2 z3 z4 z5 z6 z7
     dsimp only at z0 z1 z2 z3 z4 z5 z6 z7
     have eg:=H5.o.2.2.1.c9 hcy.o
     have hlo:=H5.o.2.2.1.low
     have hSw:=H0.o.2.2.2.1
     have hBw:=H0.o.2.2.2.2.2.1
     have n1:9≠S:=zi
     have n2:S≠9:=zi
     clear hlo hSw hBw
     go_wp2_with fail
     go_region
     all_goals
      go_wp2
      (try simp only [Exit.inBlock,Exit.then])
      refine bodyPost_ret (v:=.tuple #[encO zeroO,eV ad 10]) ?_ rfl ⟨?_,.inr (.inr (.inl ⟨HOK.o,HX0.o,HCY.o,rfl⟩))⟩
      ·rw [results_ct rfl]
       unfold encO zeroO eV
       go_simp
      exact (below_cells (b:=S) H5.o.2.1 zF 0 [.int .i64 0,.int .i64 0,.int .i64 0,.int .u8 0,.int .i64 0,.int .i64 0,.string ⟨#[]⟩,.string ⟨#[]⟩]).drew
    | false=>
     have HNC:=Lib.hid (show ¬(into=nd\/Ins f into nd) from fun q=>q.elim HNQ.o (fun q=>by have:=HZ.o.2 q;cases this))
     obtain ⟨z0,z1,z2,z3,z4,z5,z6,z7,zf⟩:=H5.o.1.cells
     unfold zeroO at z0 z1 z2 z3 z4 z5 z6 z7
     dsimp only at z0 z1 z2 z3 z4 z5 z6 z7
     obtain ⟨y0,y1,y2,y3,y4,y5,y6,y7,yf⟩:=H5.o.2.2.2.cells
     dsimp only at y0 y1 y2 y3 y4 y5 y6 y7
     go_wp2
     (try simp only [Exit.inBlock,Exit.then])
     refine bodyPost_ret (v:=.tuple #[.agg #[.int .i64 t,.int .i64 b,.int .i64 m,.int .u8 (kd:Int),.int .i64 nd',.int .i64 o,.string s,.string v],.nilIface]) ?_ rfl ⟨?_,.inr (.inr (.inr ⟨HOK.o,HX0.o,HNC.o,by rw [<-HXE.o];rfl⟩))⟩
     ·rw [results_ct rfl]
      go_simp
     exact below_cells (b:=S) H5.o.2.1 zF 0 [.int .i64 t,.int .i64 b,.int .i64 m,.int .u8 (kd:Int),.int .i64 nd',.int .i64 o,.string s,.string v]
   rw [if_neg he0] at he
   subst he
   have HX0:=Lib.hid (show errF (ownX T i (R i).length 109 nd into name ⟨#[]⟩)≠0 by rw [<-HXE.o];exact he0)
   obtain ⟨er,her⟩:=za (errF x - 1)
   have hev:eV ad (errF x)= .iface 399 (.pointer (some (ad er))):=by rw [her];unfold eV;rw [if_neg he0]
   have HEV:Aside (eV ad (errF x)= .iface 399 (.pointer (some (ad er)))):=hev
   rw [hev]
   clear her hev he0
   obtain ⟨z0,z1,z2,z3,z4,z5,z6,z7,zf⟩:=H3.o.1.cells
   unfold zeroO at z0 z1 z2 z3 z4 z5 z6 z7
   dsimp only at z0 z1 z2 z3 z4 z5 z6 z7
   have hlt:=H3.o.1.lt
   have nS:S≠w3.heap.size:=zi
   have nS':w3.heap.size≠S:=zi
   unfold encO zeroO
   dsimp only
   go_wp2
   (try simp only [Exit.inBlock,Exit.then])
   refine bodyPost_ret (v:=.tuple #[encO zeroO,.iface 399 (.pointer (some (ad er)))]) ?_ rfl ⟨?_,.inr (.inl ⟨HOK.o,HX0.o,by rw [<-HXE.o,HEV.o]⟩)⟩
   ·rw [results_ct rfl]
    unfold encO zeroO
    go_simp
   have hbl:=below_cells (b:=S) H3.o.2.1 zF 0 [.int .i64 0,.int .i64 0,.int .i64 0,.int .u8 0,.int .i64 0,.int .i64 0,.string ⟨#[]⟩,.string ⟨#[]⟩]
   exact hbl.alloc hbl.size _
