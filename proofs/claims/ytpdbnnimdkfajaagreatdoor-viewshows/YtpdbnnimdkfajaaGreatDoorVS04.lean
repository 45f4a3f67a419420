import Derived.Test.YtpdbnnimdkfajaaGreatDoorMacA
import Derived.Sort.LotA
import Derived.Test.YtpdbnnimdkfajaaGreatDoorProg
import Derived.WalkSpells
import Derived.LaidEql
import Derived.Shelf.SlLaysF0
import Derived.Shelf.Small.Strs
import Derived.Shelf.Small.Wraps
import Derived.Shelf.LaysM
import Derived.Shelf.Slices.ReverseS
import Derived.Shelf.Strings.Search3
import Derived.Lib.Hide
set_option linter.unusedSimpArgs false
set_option linter.unusedVariables false
set_option maxRecDepth 100000
set_option maxHeartbeats 64000000
section
namespace Go.Proofs.YtpdbnnimdkfajaaGreatDoor
open Go.Sort
variable {B a c i j k m n:Nat}
section
variable {β:Type} (lt:β→β→Bool)
def slt (x y:β×Nat):Bool:=lt x.1 y.1 ||(!lt y.1 x.1 &&decide (x.2<y.2))
def tlt (x y:β×Nat):Bool:=lt x.1 y.1
end
section
variable {β:Type} {lt:β→β→Bool}
theorem slt_false {x y:β×Nat} :slt lt x y=false↔lt x.1 y.1=false/\(lt y.1 x.1=true\/y.2<=x.2):=by
 unfold slt
 cases h1:lt x.1 y.1<;>cases h2:lt y.1 x.1<;>simp
theorem slt_swo (h:SWO lt):SWO (slt lt) where
 irrefl x:=by rw [slt_false];exact ⟨h.irrefl _,.inr ze⟩
 trans x y z h1 h2:=by
  have a1:¬slt lt x y=false:=by rw [h1];simp
  have a2:¬slt lt y z=false:=by rw [h2];simp
  rw [<-Bool.not_eq_false,slt_false]
  rw [slt_false] at a1 a2
  rintro ⟨b1,b2⟩
  cases xy:lt x.1 y.1 with
  | true=>
   cases yz:lt y.1 z.1 with
   | true=>rw [h.trans _ _ _ xy yz] at b1;cases b1
   | false=>
    cases zy:lt z.1 y.1 with
    | true=>exact a2 ⟨yz,.inl zy⟩
    | false=>rw [h.ntrans _ _ _ b1 zy] at xy;cases xy
  | false=>
   cases yx:lt y.1 x.1 with
   | true=>exact a1 ⟨xy,.inl yx⟩
   | false=>
    have n1:¬y.2<=x.2:=fun e=>a1 ⟨xy,.inr e⟩
    cases yz:lt y.1 z.1 with
    | true=>rw [h.ntrans _ _ _ yx b1] at yz;cases yz
    | false=>
     cases zy:lt z.1 y.1 with
     | true=>exact a2 ⟨yz,.inl zy⟩
     | false=>
      have n2:¬z.2<=y.2:=fun e=>a2 ⟨yz,.inr e⟩
      rcases b2 with b2 | b2
      ·rw [h.ntrans _ _ _ zy yx] at b2;cases b2
      omega
 ntrans x y z h1 h2:=by
  rw [slt_false] at*
  obtain ⟨xy,a1⟩:=h1
  obtain ⟨yz,a2⟩:=h2
  refine ⟨h.ntrans _ _ _ xy yz,?_⟩
  cases zx:lt z.1 x.1 with
  | true=>exact .inl rfl
  | false=>
   refine .inr ?_
   rcases a1 with yx | e1
   ·rw [h.ntrans _ _ _ yz zx] at yx;cases yx
   rcases a2 with zy | e2
   ·rw [h.ntrans _ _ _ zx xy] at zy;cases zy
   omega
theorem slt_late {x y:β×Nat} (h:y.2<x.2):slt lt x y=tlt lt x y:=by
 unfold slt tlt
 have:decide (x.2<y.2)=false:=zk
 simp [this]
theorem slt_asymm (h:SWO lt) {x y:β×Nat} (hx:slt lt x y=true):slt lt y x=false:=(slt_swo h).asymmA hx
end
section
variable {β:Type} [Inhabited β] {lt:β→β→Bool}
theorem insInner_same (a:Nat):∀(j:Nat) (d:Array (β×Nat)),j<d.size->(∀p,a<=p->p<j->d[p]!.2<d[j]!.2)->insInner (tlt lt) a j d=insInner (slt lt) a j d
 | 0,d,_,_=>rfl
 | j+1,d,hj,h=>by
  unfold insInner
  by_cases ha:a<j+1
  ·have e:slt lt d[j+1]! d[j]! =tlt lt d[j+1]! d[j]! :=slt_late (h j zi zi)
   rw [e]
   split
   ·refine insInner_same a j _ (by rw [swp_size];omega) ?_
    intro p hp hpj
    rw [swp_get d hj zi,swp_get d hj zi]
    rw [if_neg zi,if_neg zi,if_pos rfl]
    exact h p hp zi
   rfl
  have e:decide (j+1>a)=false:=zk
  simp [e]
theorem insOuter_go {α:Type} [Inhabited α] (lt:α->α->Bool) (a b i:Nat) (d:Array α) (h:i<b):insOuter lt a b i d=insOuter lt a b (i+1) (insInner lt a i d):=by
 rw [insOuter,if_pos h]
theorem insOuter_same (hS:SWO lt) (a b:Nat):∀(n i:Nat) (d:Array (β×Nat)),b - i=n->a<i->i<=b->b<=d.size->SortedIn (slt lt) a i d->(∀p q,a<=p->p<q->i<=q->q<b->d[p]!.2<d[q]!.2)->insOuter (tlt lt) a b i d=insOuter (slt lt) a b i d
 | 0,i,d,hn,_,hib,_,_,_=>by
  obtain rfl:i=b:=zi
  rw [insOuter,if_neg zi,insOuter,if_neg zi]
 | n+1,i,d,hn,hai,hib,hb,hs,ht=>by
  have hlt:i<b:=zi
  rw [insOuter_go _ _ _ _ _ hlt,insOuter_go _ _ _ _ _ hlt,insInner_same a i d zi (fun p hp hpi=>ht p i hp hpi ze hlt)]
  have h1:=insInner_spec (slt_swo hS) swp_permIn permIn_refl permIn_trans a (i+1) i (Nat.lt_succ_self _) i d zi ze zi ⟨fun p q hap hpq hqi _ hq=>hs p q hap hpq zi,fun q h1 h2=>zi⟩
  refine insOuter_same hS a b n (i+1) _ zi zi zi (by rw [h1.1.1];exact hb) h1.2 ?_
  intro p q hap hpq hiq hqb
  rw [h1.1.2.1 q (.inr zi)]
  by_cases hp:p<i+1
  ·exact permIn_all d _ a (i+1) (fun x=>x.2<d[q]!.2) zi h1.1 (fun r h1 h2=>ht r q h1 zi zi hqb) p hap hp
  rw [h1.1.2.1 p (.inr zi)]
  exact ht p q hap hpq zi hqb
theorem ins_stable (hS:SWO lt) (d:Array (β×Nat)) (a b:Nat) (hab:a<=b) (hb:b<=d.size) (ht:∀p q,a<=p->p<q->q<b->d[p]!.2<d[q]!.2):
  PermIn a b d (insertionSort (tlt lt) d a b)/\SortedIn (slt lt) a b (insertionSort (tlt lt) d a b):=by
 have h:=insertionSort_holds (slt_swo hS) d a b hab hb
 have e:insertionSort (tlt lt) d a b=insertionSort (slt lt) d a b:=by
  unfold insertionSort
  by_cases h1:a=b
  ·subst h1
   rw [insOuter,if_neg zi,insOuter,if_neg zi]
  exact insOuter_same hS a b _ (a+1) d rfl zi zi hb (fun i j h1 h2 h3=>zi) (fun p q h1 h2 _ h3=>ht p q h1 h2 h3)
 rw [e];exact h
end
def rotI (s m e k:Nat):Nat:=if s<=k/\k<s+(e - m) then k+(m - s) else if s+(e - m)<=k/\k<e then k - (e - m) else k
section
variable {α:Type} [Inhabited α]
structure Rot (d d':Array α) (s m e:Nat):Prop where
 perm:PermIn s e d d'
 at_:∀k,d'[k]! =d[rotI s m e k]!
structure Exch (d d':Array α) (a b n:Nat):Prop where
 size:d'.size=d.size
 at_:∀k,d'[k]! =d[if a<=k/\k<a+n then k+b - a else if b<=k/\k<b+n then k+a - b else k]!
 perm:∀lo hi,lo<=a->a+n<=hi->lo<=b->b+n<=hi->hi<=d.size->PermIn lo hi d d'
theorem Exch.zero (d:Array α) (a b:Nat):Exch d d a b 0:=
 ⟨rfl,fun k=>by rw [if_neg zi,if_neg zi],fun lo hi _ _ _ _ _=>permIn_refl d lo hi⟩
theorem Exch.next {d d':Array α} {b:Nat} (h:Exch d d' a b n) (hab:a+n<b) (hb:b+n<d.size):Exch d (swp d' (a+n) (b+n)) a b (n+1):=by
 refine ⟨by rw [swp_size,h.size],fun k=> ?_,fun lo hi h1 h2 h3 h4 h5=> ?_⟩
 ·rw [swp_get d' xW xW]
  rw [h.at_,h.at_,h.at_]
  by_cases k1:k=b+n
  ·subst k1
   rw [if_pos rfl]
   congr 1
   repeat' split
   all_goals omega
  rw [if_neg k1]
  by_cases k2:k=a+n
  ·subst k2
   rw [if_pos rfl]
   congr 1
   repeat' split
   all_goals omega
  rw [if_neg k2]
  congr 1
  repeat' split
  all_goals omega
 have p1:=h.perm lo hi h1 zi h3 zi h5
 exact permIn_trans _ _ _ lo hi p1 (swp_permIn d' lo hi (a+n) (b+n) zi zi zi zi xW)
theorem Rot.left {d d1 d2:Array α} (him:i<=m) (hij:j<i) (hsz:m+j<=d.size) (h1:Exch d d1 (m - i) m j) (h2:Rot d1 d2 (m - (i - j)) m (m+j)):Rot d d2 (m - i) m (m+j):=by
 refine ⟨?_,fun k=> ?_⟩
 ·have p1:=h1.perm (m - i) (m+j) zi zi zi zi hsz
  exact permIn_trans _ _ _ _ _ p1 (permIn_mono d1 d2 _ _ _ _ zi ze (by rw [h1.size];exact hsz) h2.perm)
 rw [h2.at_,h1.at_]
 congr 1
 unfold rotI
 repeat' split
 all_goals omega
theorem Rot.right {d d1 d2:Array α} (him:i<=m) (hij:i<j) (hsz:m+j<=d.size) (h1:Exch d d1 (m - i) (m+j - i) i) (h2:Rot d1 d2 (m - i) m (m+(j - i))):Rot d d2 (m - i) m (m+j):=by
 refine ⟨?_,fun k=> ?_⟩
 ·have p1:=h1.perm (m - i) (m+j) zi zi zi zi hsz
  exact permIn_trans _ _ _ _ _ p1 (permIn_mono d1 d2 _ _ _ _ ze zi (by rw [h1.size];exact hsz) h2.perm)
 rw [h2.at_,h1.at_]
 congr 1
 unfold rotI
 repeat' split
 all_goals omega
theorem Rot.both {d d1:Array α} (him:i<=m) (hsz:m+i<=d.size) (h1:Exch d d1 (m - i) m i):Rot d d1 (m - i) m (m+i):=by
 refine ⟨h1.perm (m - i) (m+i) zi zi zi zi hsz,fun k=> ?_⟩
 rw [h1.at_]
 congr 1
 unfold rotI
 repeat' split
 all_goals omega
theorem Rot.none (d:Array α) (s m e:Nat) (hs:s<=m) (he:m<=e) (h:s=m\/m=e):Rot d d s m e:=by
 refine ⟨permIn_refl d s e,fun k=> ?_⟩
 congr 1
 unfold rotI
 repeat' split
 all_goals omega
theorem Rot.up {d d':Array α} (h:Rot d d' a (a+1) (k+1)) (hak:a<=k) (hk:k+1<d.size):Rot d (swp d' k (k+1)) a (a+1) (k+2):=by
 have hs:d'.size=d.size:=h.perm.1
 refine ⟨permIn_trans _ _ _ _ _ (permIn_mono d d' _ _ _ _ ze zi zi h.perm) (swp_permIn d' a (k+2) k (k+1) hak zi zi zi zi),fun x=> ?_⟩
 rw [swp_get d' zi zi,h.at_,h.at_,h.at_]
 by_cases x1:x=k+1
 ·subst x1
  rw [if_pos rfl]
  congr 1
  unfold rotI
  repeat' split
  all_goals omega
 rw [if_neg x1]
 by_cases x2:x=k
 ·subst x2
  rw [if_pos rfl]
  congr 1
  unfold rotI
  repeat' split
  all_goals omega
 rw [if_neg x2]
 congr 1
 unfold rotI
 repeat' split
 all_goals omega
theorem Rot.down {d d':Array α} (h:Rot d d' (k+1) m (m+1)) (hkm:k+1<=m) (hm:m<d.size):Rot d (swp d' (k+1) k) k m (m+1):=by
 have hs:d'.size=d.size:=h.perm.1
 refine ⟨permIn_trans _ _ _ _ _ (permIn_mono d d' _ _ _ _ zi ze zi h.perm) (swp_permIn d' k (m+1) (k+1) k zi zi zi zi zi),fun x=> ?_⟩
 rw [swp_get d' zi zi,h.at_,h.at_,h.at_]
 by_cases x1:x=k
 ·subst x1
  rw [if_pos rfl]
  congr 1
  unfold rotI
  repeat' split
  all_goals omega
 rw [if_neg x1]
 by_cases x2:x=k+1
 ·subst x2
  rw [if_pos rfl]
  congr 1
  unfold rotI
  repeat' split
  all_goals omega
 rw [if_neg x2]
 congr 1
 unfold rotI
 repeat' split
 all_goals omega
end
section
variable {β:Type} [Inhabited β] {lt:β→β→Bool}
structure Runs (lt:β->β->Bool) (a m b:Nat) (d:Array (β×Nat)):Prop where
 one:SortedIn (slt lt) a m d
 two:SortedIn (slt lt) m b d
 tag:∀p q,a<=p->p<m->m<=q->q<b->d[p]!.2<d[q]!.2
theorem Runs.le_one {b:Nat} {d:Array (β×Nat)} (hS:SWO lt) (h:Runs lt a m b d) (hi:a<=i) (hij:i<=j) (hj:j<m):slt lt d[j]! d[i]! =false:=by
 by_cases e:i=j
 ·subst e;exact (slt_swo hS).irrefl _
 exact h.one i j hi zi hj
theorem Runs.le_two {b:Nat} {d:Array (β×Nat)} (hS:SWO lt) (h:Runs lt a m b d) (hi:m<=i) (hij:i<=j) (hj:j<b):slt lt d[j]! d[i]! =false:=by
 by_cases e:i=j
 ·subst e;exact (slt_swo hS).irrefl _
 exact h.two i j hi zi hj
theorem Runs.cut (hS:SWO lt) {s e b:Nat} {d d':Array (β×Nat)} (h:Runs lt a m b d) (h1:a<=s) (h2:s<=m) (h3:m<=e) (h4:e<=b)
  (hlo:a<s->e<b->tlt lt d[e]! d[s - 1]! =false) (hhi:s<m->m<e->tlt lt d[e - 1]! d[s]! =true) (hR:Rot d d' s m e):
  Runs lt a s (s+(e - m)) d'/\Runs lt (s+(e - m)) e b d'/\∀p q,a<=p->p<s+(e - m)->s+(e - m)<=q->q<b->slt lt d'[q]! d'[p]! =false:=by
 have W:=slt_swo hS
 have lo:a<s->e<b->slt lt d[e]! d[s - 1]! =false:=fun x y=>by rw [slt_late (h.tag (s - 1) e zi zi h3 y)];exact hlo x y
 have hi:s<m->m<e->slt lt d[s]! d[e - 1]! =false:=fun x y=>slt_asymm hS (by rw [slt_late (h.tag s (e - 1) h1 x zi zi)];exact hhi x y)
 have g:=hR.at_
 refine ⟨⟨?_,?_,?_⟩,⟨?_,?_,?_⟩,?_⟩
 ·intro i j hi hij hj
  rw [g,g,rotI,if_neg zi,if_neg zi,rotI,if_neg zi,if_neg zi]
  exact h.one i j hi hij zi
 ·intro i j hi hij hj
  rw [g,g,rotI,if_pos zi,rotI,if_pos zi]
  exact h.two _ _ zi zi zi
 ·intro p q hp hps hq hqb
  rw [g,g,rotI,if_neg zi,if_neg zi,rotI,if_pos zi]
  exact h.tag _ _ hp zi zi zi
 ·intro i j hi hij hj
  rw [g,g,rotI,if_neg zi,if_pos zi,rotI,if_neg zi,if_pos zi]
  exact h.one _ _ zi zi zi
 ·intro i j hi hij hj
  rw [g,g,rotI,if_neg zi,if_neg zi,rotI,if_neg zi,if_neg zi]
  exact h.two _ _ zi zi zi
 ·intro p q hp hps hq hqb
  rw [g,g,rotI,if_neg zi,if_pos zi,rotI,if_neg zi,if_neg zi]
  exact h.tag _ _ zi zi zi zi
 intro p q hp hpm hq hqb
 rw [g,g]
 by_cases c1:p<s
 ·rw [show rotI s m e p=p by rw [rotI,if_neg zi,if_neg zi]]
  by_cases c2:q<e
  ·rw [show rotI s m e q=q - (e - m) by rw [rotI,if_neg zi,if_pos zi]]
   exact h.one _ _ hp zi zi
  rw [show rotI s m e q=q by rw [rotI,if_neg zi,if_neg zi]]
  have x1:=h.le_two hS (i:=e) (j:=q) zi zi hqb
  have x2:=lo zi zi
  have x3:=h.le_one hS (i:=p) (j:=s - 1) hp zi zi
  exact W.ntrans _ _ _ x1 (W.ntrans _ _ _ x2 x3)
 rw [show rotI s m e p=p+(m - s) by rw [rotI,if_pos zi]]
 by_cases c2:q<e
 ·rw [show rotI s m e q=q - (e - m) by rw [rotI,if_neg zi,if_pos zi]]
  have x1:=h.le_one hS (i:=s) (j:=q - (e - m)) zi zi zi
  have x2:=hi zi zi
  have x3:=h.le_two hS (i:=p+(m - s)) (j:=e - 1) zi zi zi
  exact W.ntrans _ _ _ x1 (W.ntrans _ _ _ x2 x3)
 rw [show rotI s m e q=q by rw [rotI,if_neg zi,if_neg zi]]
 exact h.two _ _ zi zi hqb
theorem Runs.sorted {b:Nat} {d:Array (β×Nat)} (h:Runs lt a m b d) (he:a=m\/m=b):SortedIn (slt lt) a b d:=by
 rcases he with rfl | rfl
 ·exact h.two
 exact h.one
theorem sorted_parts {b:Nat} {d d1 d2:Array (β×Nat)} (hac:a<=c) (hcb:c<=b) (hb:b<=d.size) (hx:∀p q,a<=p->p<c->c<=q->q<b->slt lt d[q]! d[p]! =false)
  (p1:PermIn a c d d1) (s1:SortedIn (slt lt) a c d1) (p2:PermIn c b d1 d2) (s2:SortedIn (slt lt) c b d2):PermIn a b d d2/\SortedIn (slt lt) a b d2:=by
 refine ⟨permIn_trans _ _ _ _ _ (permIn_mono d d1 _ _ _ _ ze hcb hb p1) (permIn_mono d1 d2 _ _ _ _ hac ze (by rw [p1.1];exact hb) p2),fun i j hi hij hj=> ?_⟩
 by_cases h1:j<c
 ·rw [p2.2.1 i (.inl zi),p2.2.1 j (.inl h1)]
  exact s1 i j hi hij h1
 by_cases h2:c<=i
 ·exact s2 i j h2 hij hj
 rw [p2.2.1 i (.inl zi)]
 have q1:∀q,c<=q->q<b->slt lt d2[q]! d1[i]! =false:=by
  refine permIn_all d1 d2 c b (fun x=>slt lt x d1[i]! =false) (by rw [p1.1];exact hb) p2 ?_
  intro q hq hqb
  rw [p1.2.1 q (.inr hq)]
  exact permIn_all d d1 a c (fun x=>slt lt d[q]! x=false) zi p1 (fun r hr hrc=>hx r q hr hrc hq hqb) i hi zi
 exact q1 j zi hj
theorem Runs.first (hS:SWO lt) {b:Nat} {d d':Array (β×Nat)} (h:Runs lt a (a+1) b d) (h1:a+1<=i) (h2:i<=b)
  (hlo:a+1<i->tlt lt d[i - 1]! d[a]! =true) (hhi:i<b->tlt lt d[i]! d[a]! =false) (hR:Rot d d' a (a+1) i):SortedIn (slt lt) a b d':=by
 have W:=slt_swo hS
 have lo:a+1<i->slt lt d[a]! d[i - 1]! =false:=fun x=>slt_asymm hS (by rw [slt_late (h.tag a (i - 1) zi zi zi zi)];exact hlo x)
 have hi:i<b->slt lt d[i]! d[a]! =false:=fun x=>by rw [slt_late (h.tag a i zi zi h1 x)];exact hhi x
 have g:=hR.at_
 intro p q hp hpq hq
 rw [g,g]
 by_cases c1:q<i - 1
 ·rw [rotI,if_pos zi,rotI,if_pos zi]
  exact h.two _ _ zi zi zi
 by_cases c2:q=i - 1
 ·rw [show rotI a (a+1) i q=a by rw [rotI,if_neg zi,if_pos zi];omega,rotI,if_pos zi]
  have x1:=lo zi
  have x2:=h.le_two hS (i:=p+(a+1 - a)) (j:=i - 1) zi zi zi
  exact W.ntrans _ _ _ x1 x2
 rw [show rotI a (a+1) i q=q by rw [rotI,if_neg zi,if_neg zi]]
 by_cases c3:p<i - 1
 ·rw [rotI,if_pos zi]
  exact h.two _ _ zi zi zi
 by_cases c4:p=i - 1
 ·rw [show rotI a (a+1) i p=a by rw [rotI,if_neg zi,if_pos zi];omega]
  have x1:=h.le_two hS (i:=i) (j:=q) zi zi zi
  exact W.ntrans _ _ _ x1 (hi zi)
 rw [show rotI a (a+1) i p=p by rw [rotI,if_neg zi,if_neg zi]]
 exact h.two _ _ zi zi zi
theorem Runs.last (hS:SWO lt) {d d':Array (β×Nat)} (h:Runs lt a m (m+1) d) (h1:a<=i) (h2:i<=m)
  (hlo:a<i->tlt lt d[m]! d[i - 1]! =false) (hhi:i<m->tlt lt d[m]! d[i]! =true) (hR:Rot d d' i m (m+1)):SortedIn (slt lt) a (m+1) d':=by
 have W:=slt_swo hS
 have lo:a<i->slt lt d[m]! d[i - 1]! =false:=fun x=>by rw [slt_late (h.tag (i - 1) m zi zi zi zi)];exact hlo x
 have hi:i<m->slt lt d[i]! d[m]! =false:=fun x=>slt_asymm hS (by rw [slt_late (h.tag i m h1 x zi zi)];exact hhi x)
 have g:=hR.at_
 intro p q hp hpq hq
 rw [g,g]
 by_cases c1:q<i
 ·rw [rotI,if_neg zi,if_neg zi,rotI,if_neg zi,if_neg zi]
  exact h.one _ _ zi zi zi
 by_cases c2:q=i
 ·rw [show rotI i m (m+1) q=m by rw [rotI,if_pos zi];omega,show rotI i m (m+1) p=p by rw [rotI,if_neg zi,if_neg zi]]
  have x2:=h.le_one hS (i:=p) (j:=i - 1) zi zi zi
  exact W.ntrans _ _ _ (lo zi) x2
 rw [show rotI i m (m+1) q=q - 1 by rw [rotI,if_neg zi,if_pos zi];omega]
 by_cases c3:p<i
 ·rw [show rotI i m (m+1) p=p by rw [rotI,if_neg zi,if_neg zi]]
  exact h.one _ _ zi zi zi
 by_cases c4:p=i
 ·rw [show rotI i m (m+1) p=m by rw [rotI,if_pos zi];omega]
  have x1:=h.le_one hS (i:=i) (j:=q - 1) zi zi zi
  exact W.ntrans _ _ _ x1 (hi zi)
 rw [show rotI i m (m+1) p=p - 1 by rw [rotI,if_neg zi,if_pos zi];omega]
 exact h.one _ _ zi zi zi
end
section
variable {β:Type} [Inhabited β] {lt:β→β→Bool}
def Same (B i j:Nat):Prop:=∀c,c*B<=j->c*B<=i
structure Blocks (lt:β->β->Bool) (B a n:Nat) (d:Array (β×Nat)):Prop where
 tag:∀p,p<n->∀c,c*B<=p↔c*B<=d[p]!.2
 done:∀i j,i<j->j<a->Same B i j->slt lt d[j]! d[i]! =false
structure Half (lt:β->β->Bool) (B a n:Nat) (d:Array (β×Nat)):Prop where
 tag:∀p,p<n->∀c,c*(2*B)<=p↔c*(2*B)<=d[p]!.2
 tag1:∀p,a<=p->p<n->∀c,c*B<=p↔c*B<=d[p]!.2
 done:∀i j,i<j->j<a->Same (2*B) i j->slt lt d[j]! d[i]! =false
 rest:∀i j,a<=i->i<j->j<n->Same B i j->slt lt d[j]! d[i]! =false
theorem Blocks.half {d:Array (β×Nat)} (h:Blocks lt B n n d):Half lt B 0 n d:=by
 refine ⟨fun p hp c=> ?_,fun p _ hp c=>h.tag p hp c,fun i j _ hj=>zi,fun i j _ hij hj hs=>h.done i j hij hj hs⟩
 have e:c*(2*B)=(c*2)*B:=by rw [Nat.mul_assoc]
 rw [e];exact h.tag p hp _
theorem Half.runs {b:Nat} {d:Array (β×Nat)} (h:Half lt B a n d) (ha:a=c*(2*B)) (hm:m=a+B) (hmb:m<=b) (hb:b<=a+2*B) (hbn:b<=n):Runs lt a m b d:=by
 have e1:(2*c)*B=a:=by rw [ha,Nat.mul_comm 2 c,Nat.mul_assoc]
 have e2:(2*c+1)*B=m:=by rw [ur,e1,hm];omega
 have e3:(2*c+2)*B=a+2*B:=by rw [ur,e1]
 have up:∀x y,x<=y->x*B<=y*B:=fun x y hxy=>vm B hxy
 refine ⟨fun i j hi hij hj=>h.rest i j hi hij zi (fun x hx=> ?_),fun i j hi hij hj=>h.rest i j zi hij zi (fun x hx=> ?_),fun p q hp hpm hq hqb=> ?_⟩
 ·by_cases hx1:x<=2*c
  ·have:=up _ _ hx1;omega
  have:=up (2*c+1) x zi;omega
 ·by_cases hx1:x<=2*c+1
  ·have:=up _ _ hx1;omega
  have:=up (2*c+2) x zi;omega
 have h1:¬(2*c+1)*B<=d[p]!.2:=fun hx=>by have:=(h.tag1 p hp zi (2*c+1)).2 hx;omega
 have h2:=(h.tag1 q zi zi (2*c+1)).1 zi
 omega
theorem Half.step {b:Nat} {d d':Array (β×Nat)} (h:Half lt B a n d) (hn:n=d.size) (ha:a=c*(2*B)) (hab:a<=b) (hbn:b<=n) (hb:b=a+2*B\/b=n/\n<=a+2*B) (hp:PermIn a b d d') (hs:SortedIn (slt lt) a b d'):Half lt B b n d':=by
 have e3:(c+1)*(2*B)=a+2*B:=by rw [ur,ha];omega
 have up:∀x y,x<=y->x*(2*B)<=y*(2*B):=fun x y hxy=>vm _ hxy
 refine ⟨fun p hpn x=> ?_,fun p hbp hpn x=> ?_,fun i j hij hj hsm=> ?_,fun i j hi hij hj hsm=> ?_⟩
 ·by_cases h1:a<=p/\p<b
  ·have key:∀q,a<=q->q<b->(x*(2*B)<=d'[q]!.2↔x<=c):=by
    refine permIn_all d d' a b (fun y=>x*(2*B)<=y.2↔x<=c) zi hp ?_
    intro q hq hqb
    rw [<-h.tag q zi x]
    constructor
    ·intro hx
     rcases vh c x with hc | hc
     ·have:=up (c+1) x hc;omega
     exact hc
    intro hx;have:=up _ _ hx;omega
   rw [key p h1.1 h1.2]
   constructor
   ·intro hx
    rcases vh c x with hc | hc
    ·have:=up (c+1) x hc;omega
    exact hc
   intro hx;have:=up _ _ hx;omega
  rw [hp.2.1 p zi];exact h.tag p hpn x
 ·rw [hp.2.1 p (.inr hbp)];exact h.tag1 p zi hpn x
 ·by_cases h1:j<a
  ·rw [hp.2.1 i (.inl zi),hp.2.1 j (.inl h1)];exact h.done i j hij h1 hsm
  have:=hsm c zi
  exact hs i j zi hij hj
 rw [hp.2.1 i (.inr zi),hp.2.1 j (.inr zi)];exact h.rest i j zi hij hj hsm
theorem Half.end_ {d:Array (β×Nat)} (h:Half lt B a n d) (ha:a=c*(2*B)) (hB:n<=a+B):Blocks lt (2*B) n n d:=by
 refine ⟨h.tag,fun i j hij hj hsm=> ?_⟩
 by_cases h1:j<a
 ·exact h.done i j hij h1 hsm
 have:=hsm c zi
 refine h.rest i j zi hij hj (fun x hx=> ?_)
 have e1:(2*c)*B=a:=by rw [ha,Nat.mul_comm 2 c,Nat.mul_assoc]
 have e2:(2*c+1)*B=a+B:=by rw [ur,e1];omega
 by_cases hx1:x<=2*c
 ·have:x*B<=(2*c)*B:=vm B hx1;omega
 have:(2*c+1)*B<=x*B:=vm B zi;omega
theorem Half.end_all {d:Array (β×Nat)} (h:Half lt B n n d):Blocks lt (2*B) n n d:=⟨h.tag,h.done⟩
theorem Blocks.step {b:Nat} {d d':Array (β×Nat)} (h:Blocks lt B a n d) (hn:n=d.size) (ha:a=c*B) (hbn:b<=n) (hb:b=a+B\/b=n/\n<=a+B) (hp:PermIn a b d d') (hs:SortedIn (slt lt) a b d'):Blocks lt B b n d':=by
 have e3:(c+1)*B=a+B:=by rw [ur,ha];omega
 have up:∀x y,x<=y->x*B<=y*B:=fun x y hxy=>vm _ hxy
 refine ⟨fun p hpn x=> ?_,fun i j hij hj hsm=> ?_⟩
 ·by_cases h1:a<=p/\p<b
  ·have key:∀q,a<=q->q<b->(x*B<=d'[q]!.2↔x<=c):=by
    refine permIn_all d d' a b (fun y=>x*B<=y.2↔x<=c) zi hp ?_
    intro q hq hqb
    rw [<-h.tag q zi x]
    constructor
    ·intro hx
     rcases vh c x with hc | hc
     ·have:=up (c+1) x hc;omega
     exact hc
    intro hx;have:=up _ _ hx;omega
   rw [key p h1.1 h1.2]
   constructor
   ·intro hx
    rcases vh c x with hc | hc
    ·have:=up (c+1) x hc;omega
    exact hc
   intro hx;have:=up _ _ hx;omega
  rw [hp.2.1 p zi];exact h.tag p hpn x
 by_cases h1:j<a
 ·rw [hp.2.1 i (.inl zi),hp.2.1 j (.inl h1)];exact h.done i j hij h1 hsm
 have:=hsm c zi
 exact hs i j zi hij hj
theorem Blocks.all {d:Array (β×Nat)} (h:Blocks lt B n n d) (hn:n<=B):SortedIn (slt lt) 0 n d:=fun i j _ hij hj=>h.done i j hij hj fun c hc=>by
 cases c with
 | zero=>simp
 | succ c=>
  have:1*B<=(c+1)*B:=vm B zi
  omega
end
section
variable {β:Type} {lt:β→β→Bool}
theorem pair_ins (hS:SWO lt) (l:List (β×Nat)) (x:β×Nat) (k:Nat) (hk:k<=l.length) (hl:l.Pairwise (fun u v=>slt lt v u=false)) (ht:∀u∈l,u.2<x.2)
  (h1:∀u,l[k - 1]? =some u->0<k->lt x.1 u.1=false) (h2:∀u∈l.drop k,lt x.1 u.1=true):(l.take k++x::l.drop k).Pairwise (fun u v=>slt lt v u=false):=by
 have W:=slt_swo hS
 have hl':=hl
 rw [<-jH k l,jW] at hl'
 obtain ⟨p1,p2,p3⟩:=hl'
 refine jW.2 ⟨p1,jB.2 ⟨fun v hv=> ?_,p2⟩,fun u hu v hv=> ?_⟩
 ·refine slt_asymm hS ?_
  unfold slt
  rw [h2 v hv];rfl
 rcases jn.1 hv with rfl | hv
 ·have hk0:0<k:=by
   rcases ul k with e | e
   ·subst e;simp at hu
   exact e
  have hlt:k - 1<l.length:=zi
  have e1:=h1 l[k - 1] (ji hlt) hk0
  have e2:slt lt v l[k - 1]=false:=by
   rw [slt_late (ht _ (vJ hlt))];exact e1
  obtain ⟨i,hi,rfl⟩:=jU hu
  rw [jz] at hi
  rw [ud]
  by_cases e:i=k - 1
  ·subst e;exact e2
  exact W.ntrans _ _ _ e2 (jF.1 hl i (k - 1) zi hlt zi)
 exact p3 u hu v hv
theorem sorted_list {β:Type} [Inhabited β] {lt:β->β->Bool} (d:Array (β×Nat)) (h:SortedIn (slt lt) 0 d.size d):d.toList.Pairwise (fun u v=>slt lt v u=false):=by
 rw [jF]
 intro i j hi hj hij
 have:=h i j (js _) hij yg
 rw [getElem!_pos d i qL,getElem!_pos d j yg] at this
 simpa using this
end
end Go.Proofs.YtpdbnnimdkfajaaGreatDoor
end
section
namespace Go.Proofs.YtpdbnnimdkfajaaGreatDoor
open Go.RowKit
def eqB (t b n:Int) (k:Nat) (node other:Int) (name value:ByteArray) (t' b' n':Int) (k':Nat) (node' other':Int) (name' value':ByteArray):Bool:=decide (t=t'/\b=b'/\n=n'/\k=k'/\node=node'/\other=other'/\name=name'/\value=value')
theorem eqOp (t b n:Int) (k:Nat) (node other:Int) (name value:ByteArray) (t' b' n':Int) (k':Nat) (node' other':Int) (name' value':ByteArray) (w:World):(Op.equalIn 10000 38 (.agg #[.int .i64 t,.int .i64 b,.int .i64 n,.int .u8 (k:Int),.int .i64 node,.int .i64 other,.string name,.string value]) (.agg #[.int .i64 t',.int .i64 b',.int .i64 n',.int .u8 (k':Int),.int .i64 node',.int .i64 other',.string name',.string value'])).run Tryz.prog w= .ok (eqB t b n k node other name value t' b' n' k' node' other' name' value') w:=by
 have hs:∀x y:ByteArray,x.toList=y.toList↔x=y:=fun x y=>⟨fun h=>by rw [jV,jV] at h;exact WideShapes.bytes_inj h,fun h=>by rw [h]⟩
 unfold eqB
 go_simp
 simp only [Int.natCast_inj]
 by_cases h1:t=t'<;>by_cases h2:b=b'<;>by_cases h3:n=n'<;>by_cases h4:k=k'<;>by_cases h5:node=node'<;>by_cases h6:other=other'<;>by_cases h7:name=name'<;>by_cases h8:value=value'<;>simp [h1,h2,h3,h4,h5,h6,h7,h8]
theorem eqB_self (t b n:Int) (k:Nat) (node other:Int) (name value:ByteArray):eqB t b n k node other name value t b n k node other name value=true:=by simp [eqB]
end Go.Proofs.YtpdbnnimdkfajaaGreatDoor
end
section
namespace Go.Proofs.YtpdbnnimdkfajaaGreatDoor
open Go.Proofs.Tryz
open Go.Shelf
set_option maxRecDepth 100000
def sortLays_ren:Ren:=⟨fun | 6=>157 | 14=>209 | 15=>203 | 20=>262 | 21=>263 | 22=>264 | 23=>265 | 24=>266 | 25=>267 | 26=>268 | 27=>269 | 28=>252 | 29=>253 | 46=>297 | 47=>290 | 48=>291 | 49=>298 | 50=>299 | 57=>314 | n=>n,fun | 0=>0 | 3=>3 | 4=>4 | 5=>5 | 9=>9 | 22=>103 | 24=>106 | 25=>189 | 39=>295 | 45=>344 | 46=>345 | 50=>88 | 53=>351 | 55=>336 | 66=>371 | 70=>375 | 76=>390 | 77=>113 | n=>n,fun n=>n⟩
theorem sortLays:SlLaysF0.n6 prog sortLays_ren where
 mixed:=zj
 f6:=⟨ "slices.SortFunc[[]concordat/tree.Place,concordat/tree.Place]",zj,func157.trans (congrArg some zj)⟩
 f14:=⟨ "slices.pdqsortCmpFunc[concordat/tree.Place]",zj,func209.trans (congrArg some zj)⟩
 f15:=func203.trans (congrArg some zj)
 f20:=⟨ "slices.insertionSortCmpFunc[concordat/tree.Place]",zj,func262.trans (congrArg some zj)⟩
 f21:=⟨ "slices.heapSortCmpFunc[concordat/tree.Place]",zj,func263.trans (congrArg some zj)⟩
 f22:=⟨ "slices.breakPatternsCmpFunc[concordat/tree.Place]",zj,func264.trans (congrArg some zj)⟩
 f23:=⟨ "slices.choosePivotCmpFunc[concordat/tree.Place]",zj,func265.trans (congrArg some zj)⟩
 f24:=⟨ "slices.reverseRangeCmpFunc[concordat/tree.Place]",zj,func266.trans (congrArg some zj)⟩
 f25:=⟨ "slices.partialInsertionSortCmpFunc[concordat/tree.Place]",zj,func267.trans (congrArg some zj)⟩
 f26:=⟨ "slices.partitionEqualCmpFunc[concordat/tree.Place]",zj,func268.trans (congrArg some zj)⟩
 f27:=⟨ "slices.partitionCmpFunc[concordat/tree.Place]",zj,func269.trans (congrArg some zj)⟩
 f28:=func252.trans (congrArg some zj)
 f29:=func253.trans (congrArg some zj)
 f46:=⟨ "slices.siftDownCmpFunc[concordat/tree.Place]",zj,func297.trans (congrArg some zj)⟩
 f47:=func290.trans (congrArg some zj)
 f48:=func291.trans (congrArg some zj)
 f49:=⟨ "slices.medianAdjacentCmpFunc[concordat/tree.Place]",zj,func298.trans (congrArg some zj)⟩
 f50:=⟨ "slices.medianCmpFunc[concordat/tree.Place]",zj,func299.trans (congrArg some zj)⟩
 f57:=⟨ "slices.order2CmpFunc[concordat/tree.Place]",zj,func314.trans (congrArg some zj)⟩
 t0:=underlying0
 a0:=isAgg0
 z0:=sizeOf0
 v0:=zeroValue0
 t3:=underlying3
 a3:=isAgg3
 z3:=sizeOf3
 v3:=zeroValue3
 t4:=underlying4
 a4:=isAgg4
 z4:=sizeOf4
 v4:=zeroValue4
 t5:=underlying5
 a5:=isAgg5
 z5:=sizeOf5
 v5:=zeroValue5
 t9:=underlying9
 a9:=isAgg9
 z9:=sizeOf9
 v9:=zeroValue9
 t22:=underlying103
 a22:=isAgg103
 z22:=sizeOf103
 v22:=zeroValue103
 t25:=underlying189
 a25:=isAgg189
 z25:=sizeOf189
 v25:=zeroValue189
 t39:=underlying295
 a39:=isAgg295
 z39:=sizeOf295
 v39:=zeroValue295
 t45:=underlying344
 a45:=isAgg344
 z45:=sizeOf344
 v45:=zeroValue344
 t46:=underlying345
 a46:=isAgg345
 z46:=sizeOf345
 v46:=zeroValue345
 t50:=underlying88
 a50:=isAgg88
 z50:=sizeOf88
 v50:=zeroValue88
 t53:=underlying351
 a53:=isAgg351
 z53:=sizeOf351
 v53:=zeroValue351
 t55:=underlying336
 a55:=isAgg336
 z55:=sizeOf336
 v55:=zeroValue336
 t66:=underlying371
 a66:=isAgg371
 z66:=sizeOf371
 v66:=zeroValue371
 t70:=underlying375
 a70:=isAgg375
 z70:=sizeOf375
 v70:=zeroValue375
 t76:=underlying390
 a76:=isAgg390
 z76:=sizeOf390
 v76:=zeroValue390
 t77:=underlying113
 a77:=isAgg113
 z77:=sizeOf113
 v77:=zeroValue113
end Go.Proofs.YtpdbnnimdkfajaaGreatDoor
end
section
namespace Go.Proofs.YtpdbnnimdkfajaaGreatDoor
open Go.Proofs.Tryz
open Go.Shelf
set_option maxRecDepth 100000
def sortNums_ren:Ren:=⟨fun | 6=>182 | 14=>224 | 15=>203 | 20=>225 | 21=>274 | 22=>275 | 23=>276 | 24=>277 | 25=>278 | 26=>279 | 27=>280 | 28=>252 | 29=>253 | 46=>304 | 47=>290 | 48=>291 | 49=>305 | 50=>306 | 57=>317 | n=>n,fun | 0=>0 | 3=>3 | 4=>4 | 5=>5 | 9=>9 | 22=>32 | 24=>38 | 25=>210 | 39=>295 | 45=>344 | 46=>345 | 50=>88 | 53=>351 | 55=>336 | 66=>371 | 70=>375 | 76=>390 | 77=>113 | n=>n,fun n=>n⟩
theorem sortNums:SlLaysF0.n6 prog sortNums_ren where
 mixed:=zj
 f6:=⟨ "slices.SortFunc[[]concordat/api.Op,concordat/api.Op]",zj,func182.trans (congrArg some zj)⟩
 f14:=⟨ "slices.pdqsortCmpFunc[concordat/api.Op]",zj,func224.trans (congrArg some zj)⟩
 f15:=func203.trans (congrArg some zj)
 f20:=⟨ "slices.insertionSortCmpFunc[concordat/api.Op]",zj,func225.trans (congrArg some zj)⟩
 f21:=⟨ "slices.heapSortCmpFunc[concordat/api.Op]",zj,func274.trans (congrArg some zj)⟩
 f22:=⟨ "slices.breakPatternsCmpFunc[concordat/api.Op]",zj,func275.trans (congrArg some zj)⟩
 f23:=⟨ "slices.choosePivotCmpFunc[concordat/api.Op]",zj,func276.trans (congrArg some zj)⟩
 f24:=⟨ "slices.reverseRangeCmpFunc[concordat/api.Op]",zj,func277.trans (congrArg some zj)⟩
 f25:=⟨ "slices.partialInsertionSortCmpFunc[concordat/api.Op]",zj,func278.trans (congrArg some zj)⟩
 f26:=⟨ "slices.partitionEqualCmpFunc[concordat/api.Op]",zj,func279.trans (congrArg some zj)⟩
 f27:=⟨ "slices.partitionCmpFunc[concordat/api.Op]",zj,func280.trans (congrArg some zj)⟩
 f28:=func252.trans (congrArg some zj)
 f29:=func253.trans (congrArg some zj)
 f46:=⟨ "slices.siftDownCmpFunc[concordat/api.Op]",zj,func304.trans (congrArg some zj)⟩
 f47:=func290.trans (congrArg some zj)
 f48:=func291.trans (congrArg some zj)
 f49:=⟨ "slices.medianAdjacentCmpFunc[concordat/api.Op]",zj,func305.trans (congrArg some zj)⟩
 f50:=⟨ "slices.medianCmpFunc[concordat/api.Op]",zj,func306.trans (congrArg some zj)⟩
 f57:=⟨ "slices.order2CmpFunc[concordat/api.Op]",zj,func317.trans (congrArg some zj)⟩
 t0:=underlying0
 a0:=isAgg0
 z0:=sizeOf0
 v0:=zeroValue0
 t3:=underlying3
 a3:=isAgg3
 z3:=sizeOf3
 v3:=zeroValue3
 t4:=underlying4
 a4:=isAgg4
 z4:=sizeOf4
 v4:=zeroValue4
 t5:=underlying5
 a5:=isAgg5
 z5:=sizeOf5
 v5:=zeroValue5
 t9:=underlying9
 a9:=isAgg9
 z9:=sizeOf9
 v9:=zeroValue9
 t22:=underlying32
 a22:=isAgg32
 z22:=sizeOf32
 v22:=zeroValue32
 t25:=underlying210
 a25:=isAgg210
 z25:=sizeOf210
 v25:=zeroValue210
 t39:=underlying295
 a39:=isAgg295
 z39:=sizeOf295
 v39:=zeroValue295
 t45:=underlying344
 a45:=isAgg344
 z45:=sizeOf344
 v45:=zeroValue344
 t46:=underlying345
 a46:=isAgg345
 z46:=sizeOf345
 v46:=zeroValue345
 t50:=underlying88
 a50:=isAgg88
 z50:=sizeOf88
 v50:=zeroValue88
 t53:=underlying351
 a53:=isAgg351
 z53:=sizeOf351
 v53:=zeroValue351
 t55:=underlying336
 a55:=isAgg336
 z55:=sizeOf336
 v55:=zeroValue336
 t66:=underlying371
 a66:=isAgg371
 z66:=sizeOf371
 v66:=zeroValue371
 t70:=underlying375
 a70:=isAgg375
 z70:=sizeOf375
 v70:=zeroValue375
 t76:=underlying390
 a76:=isAgg390
 z76:=sizeOf390
 v76:=zeroValue390
 t77:=underlying113
 a77:=isAgg113
 z77:=sizeOf113
 v77:=zeroValue113
end Go.Proofs.YtpdbnnimdkfajaaGreatDoor
end
section
namespace Go.Proofs
open Go.Proofs.Tryz
open Go.Shelf
def Tryz.lays106_ren:Go.Shelf.Ren:=⟨fun | 106=>159 | 213=>210 | 265=>270 | n=>n,fun | 9=>9 | 3=>3 | n=>n,fun | n=>n⟩
theorem Tryz.lays106:Go.Proofs.Lays.n106 prog Tryz.lays106_ren:={
 mixed:=zj
 f106:=func159.trans (congrArg some zj)
 f213:=func210.trans (congrArg some zj)
 f265:=func270.trans (congrArg some zj)
 t3:=underlying3
 a3:=isAgg3
 z3:=sizeOf3
 v3:=zeroValue3
 t9:=underlying9
 a9:=isAgg9
 z9:=sizeOf9
 v9:=zeroValue9}
open Go.RowKit in
theorem Tryz.strings_Compare (a b:ByteArray) (w:World):
  Calls prog 159 #[.string a,.string b] w fun e w'=>e= .returned (.int .i64 (Lib.compareBytes a.data.toList b.data.toList))/\w'=w:=Any.strings_Compare Tryz.lays106 a b w
def Tryz.lays103_ren:Go.Shelf.Ren:=⟨fun | 103=>90 | 210=>160 | 206=>211 | n=>n,fun | 9=>9 | 4=>4 | 24=>97 | 3=>3 | n=>n,fun | n=>n⟩
theorem Tryz.lays103:Go.Proofs.Lays.n103 prog Tryz.lays103_ren:={
 mixed:=zj
 f103:=func90.trans (congrArg some zj)
 f206:=func211.trans (congrArg some zj)
 f210:=func160.trans (congrArg some zj)
 t3:=underlying3
 a3:=isAgg3
 z3:=sizeOf3
 v3:=zeroValue3
 t4:=underlying4
 a4:=isAgg4
 z4:=sizeOf4
 v4:=zeroValue4
 t9:=underlying9
 a9:=isAgg9
 z9:=sizeOf9
 v9:=zeroValue9
 t24:=underlying97
 a24:=isAgg97
 z24:=sizeOf97
 v24:=zeroValue97}
open Go.RowKit in
theorem Tryz.strings_CutPrefix (s p:ByteArray) (w:World):
  Calls prog 90 #[.string s,.string p] w fun e w'=>e= .returned (.tuple #[.string ⟨(Lib.trimPrefix s.data.toList p.data.toList).toArray⟩,.bool (Lib.hasPrefix s.data.toList p.data.toList)])/\w'=w:=Any.strings_CutPrefix Tryz.lays103 s p w
def Tryz.laysNm217_ren:Go.Shelf.Ren:=⟨fun | 17=>99 | n=>n,fun | 24=>141 | 9=>9 | 3=>3 | 4=>4 | 0=>0 | n=>n,fun | n=>n⟩
theorem Tryz.laysNm217:Go.Proofs.Lays2.n17 prog Tryz.laysNm217_ren:={
 mixed:=zj
 f17:=func99.trans (congrArg some zj)
 t0:=underlying0
 a0:=isAgg0
 z0:=sizeOf0
 v0:=zeroValue0
 t3:=underlying3
 a3:=isAgg3
 z3:=sizeOf3
 v3:=zeroValue3
 t4:=underlying4
 a4:=isAgg4
 z4:=sizeOf4
 v4:=zeroValue4
 t9:=underlying9
 a9:=isAgg9
 z9:=sizeOf9
 v9:=zeroValue9
 t24:=underlying141
 a24:=isAgg141
 z24:=sizeOf141
 v24:=zeroValue141}
open Go.RowKit Go.Lib Go.Sort in
theorem Tryz.slices_Reverse_string (blk off cap:Nat) (zs:List (List UInt8)) (w:World) (hH:Holds encStr w blk off zs.toArray) (hsz:zs.length<=9223372036854775807):
  Calls prog 99 #[.slice (some ⟨blk,off,none⟩) zs.length cap] w fun e w'=>e= .returned (.tuple #[])/\∃n,w'=putRow encStr (Sort.ahead w n) blk off zs.reverse.toArray:=Any.slices_Reverse_string Tryz.laysNm217 blk off cap zs w hH hsz
end Go.Proofs
end
section
namespace Go.Proofs
open Go.Proofs.Tryz
open Go.Shelf
def Tryz.lays143_ren:Go.Shelf.Ren:=⟨fun | 143=>214 | 219=>272 | 217=>300 | 225=>301 | 224=>302 | 267=>303 | 266=>315 | 314=>316 | n=>n,fun | 9=>9 | 3=>3 | 4=>4 | 5=>5 | 46=>295 | 146=>394 | 51=>351 | n=>n,fun | 1=>13 | n=>n⟩
theorem Tryz.lays143:Go.Proofs.Lays.n143 prog Tryz.lays143_ren:={
 mixed:=zj
 f143:=func214.trans (congrArg some zj)
 f217:=func300.trans (congrArg some zj)
 f219:=func272.trans (congrArg some zj)
 f224:=func302.trans (congrArg some zj)
 f225:=func301.trans (congrArg some zj)
 f266:=func315.trans (congrArg some zj)
 f267:=func303.trans (congrArg some zj)
 f314:=func316.trans (congrArg some zj)
 t3:=underlying3
 a3:=isAgg3
 z3:=sizeOf3
 v3:=zeroValue3
 t4:=underlying4
 a4:=isAgg4
 z4:=sizeOf4
 v4:=zeroValue4
 t5:=underlying5
 a5:=isAgg5
 z5:=sizeOf5
 v5:=zeroValue5
 t9:=underlying9
 a9:=isAgg9
 z9:=sizeOf9
 v9:=zeroValue9
 t46:=underlying295
 a46:=isAgg295
 z46:=sizeOf295
 v46:=zeroValue295
 t51:=underlying351
 a51:=isAgg351
 z51:=sizeOf351
 v51:=zeroValue351
 t146:=underlying394
 a146:=isAgg394
 z146:=sizeOf394
 v146:=zeroValue394
 g1:=zj}
open Go.RowKit Go.Lib in
theorem Tryz.strings_Index (s sub:ByteArray) (m:Int) (w:World) (hs:s.size<4294967281) (hm:w.cell? ⟨13,0,none⟩=some (.int .i64 m)):
  Calls prog 214 #[.string s,.string sub] w fun e w'=>e= .returned (.int .i64 (Lib.index s.data.toList sub.data.toList))/\w'=w:=Any.strings_Index Tryz.lays143 s sub m w hs hm
end Go.Proofs
end
section
namespace Go.Proofs.YtpdbnnimdkfajaaGreatDoor
open Go.Proofs.Tryz
open Go.RowKit
def digB (u:Nat):UInt8:=UInt8.ofNat u
theorem byte_any (u:Nat) (w:World) (h2:u<=255):
  Calls prog 153 #[.int .i64 (u:Int)] w fun e w'=>e= .returned (.string ⟨#[digB u]⟩)/\Below w.heap.size w w':=by
 have hcv:(convert 221 9 (.slice (some ⟨w.heap.size,0,none⟩) 1 1)).run prog (w.alloc (.cells #[.int .u8 (u:Int)] 5))= .ok (.string ⟨#[digB u]⟩) (w.alloc (.cells #[.int .u8 (u:Int)] 5)):=by
  refine run_convert_bytes_back (P:=prog) _ 221 9 5 ⟨w.heap.size,0,none⟩ 1 [digB u] underlying221 underlying5 underlying9 ?_
  intro j hj
  have hj0:j=0:=yg
  subst hj0
  simp [go_sem,Addr.add,digB]
  omega
 go_enter func153,ntmps153
 go_wp2
 go_ret
 exact ⟨rfl,zg _ _⟩
theorem add_texts (x y:List UInt8) (h:x.length+y.length<=9223372036854775807) (w:World):(Op.stringOp .add ⟨x.toArray⟩ ⟨y.toArray⟩).run prog w= .ok (.string ⟨(x++y).toArray⟩) w:=by
 rw [run_string_add_sum w ⟨x.toArray⟩ ⟨y.toArray⟩ (by simpa [ByteArray.size] using h)]
 congr 2
