import Derived.Test.YtjclejjkganhfaaGreatDoorMacB
import Derived.Sort.LotA
import Derived.WalkSpells
import Derived.LaidEql
import Derived.WideShapes
import Derived.Shelf.SlLaysF0
import Derived.Laws.IdiomStrings
import Derived.Laws.Concat
import Derived.Laws.Strings
import Derived.Lib.Hide
import Derived.Maps.OwnSet
import Derived.Maps.RangeWalk
import Derived.Maps.StringElems
import Derived.Laws.EntriesVeiled
import Derived.Carry
import Derived.LoopTactic
import Derived.Laws.IdiomRangeMap
import Derived.RangeFuncNested
import Derived.RangeFuncBox
import Derived.RangeFuncLeaves
import Derived.RangeFuncCalls
import Derived.Test.YtjclejjkganhfaaGreatDoorRows
import Derived.LaidLaws
import Derived.LaidHandle
import Derived.LaidMore
import Derived.ChangeArms
import Derived.ChangeSame
import Derived.Deep.Slices
import Derived.ProofKit
import Derived.OpenShut
import Derived.Stop.Joined
import Derived.SevenTiedAt
import Derived.Lib.SmallJoins
import Derived.Lib.LaidU8
import Derived.Lib.LaidTab
import Derived.Lib.ItoaNum
import Derived.Laws.IdiomArrays
set_option linter.unusedSimpArgs false
set_option linter.unusedVariables false
set_option maxRecDepth 100000
set_option maxHeartbeats 64000000
namespace Go.Proofs.YtjclejjkganhfaaGreatDoor
open Go.Proofs.Tryz
section
open Go.Sort
section
variable {β:Type} (lt:β→β→Bool)
def slt(x y:β×Nat):Bool:=lt x.1 y.1 ||(!lt y.1 x.1 &&decide (x.2<y.2))
def tlt(x y:β×Nat):Bool:=lt x.1 y.1
end
section
variable {β:Type} {lt:β→β→Bool}
theorem slt_false{x y} :slt lt x y=false↔lt x.1 y.1=false/\(lt y.1 x.1=true\/y.2<=x.2):=by
 grind [slt]
theorem rd(h:SWO lt):SWO (slt lt) where
 irrefl x:=by rw [slt_false];exact ⟨h.irrefl _,.inr zg⟩
 trans x y z h1 h2:=by
  have a1:¬slt lt x y=false:=by rw [h1];simp
  have a2:¬slt lt y z=false:=by rw [h2];simp
  rw [<-Bool.not_eq_false,slt_false];rw [slt_false] at a1 a2;rintro ⟨b1,b2⟩
  cases xy:lt x.1 y.1 with
  | true=>
   cases yz:lt y.1 z.1 with
   | true=>rw [h.trans _ _ _ xy yz] at b1;cases b1
   | false=>
    cases zy:lt z.1 y.1 with
    | true=>simp_all
    | false=>rw [h.ntrans _ _ _ b1 zy] at xy;cases xy
  | false=>
   cases yx:lt y.1 x.1 with
   | true=>simp_all
   | false=>
    have n1:¬y.2<=x.2:=fun e=>a1 ⟨xy,.inr e⟩
    cases yz:lt y.1 z.1 with
    | true=>rw [h.ntrans _ _ _ yx b1] at yz;cases yz
    | false=>
     cases zy:lt z.1 y.1 with
     | true=>simp_all
     | false=>
      have n2:¬z.2<=y.2:=fun e=>a2 ⟨yz,.inr e⟩
      rcases b2 with b2 | b2
      ·rw [h.ntrans _ _ _ zy yx] at b2;cases b2
      omega
 ntrans x y z h1 h2:=by
  rw [slt_false] at*;obtain ⟨xy,a1⟩:=h1;obtain ⟨yz,a2⟩:=h2;refine ⟨h.ntrans _ _ _ xy yz,?_⟩
  cases zx:lt z.1 x.1 with
  | true=>exact .inl rfl
  | false=>
   refine .inr ?_
   rcases a1 with yx | e1
   ·rw [h.ntrans _ _ _ yz zx] at yx;cases yx
   rcases a2 with zy | e2
   ·rw [h.ntrans _ _ _ zx xy] at zy;cases zy
   omega
theorem rP{x y}(h:y.2<x.2):slt lt x y=tlt lt x y:=by
 grind [slt,tlt]
theorem Ba(h:SWO lt){x y}(hx:slt lt x y=true):slt lt y x=false:=(rd h).asymmA hx
end
section
variable {β:Type} [Inhabited β] {lt:β→β→Bool}
theorem wA(a):∀(j:Nat) (d:Array (β×Nat)),j<d.size->(∀p,a<=p->p<j->d[p]!.2<d[j]!.2)->insInner (tlt lt) a j d=insInner (slt lt) a j d
 | 0,d,_,_=>rfl
 | j+1,d,hj,h=>by
  unfold insInner;by_cases ha:a<j+1
  ·have e:slt lt d[j+1]! d[j]! =tlt lt d[j+1]! d[j]! :=rP (h j zj zj);rw [e];split
   ·refine wA a j _ (by rw [swp_size];omega) ?_;intro p hp hpj;rw [swp_get d hj zj,swp_get d hj zj];rw [if_neg zj,if_neg zj,if_pos rfl];exact h p hp zj
   rfl
  grind
theorem CN{α}[Inhabited α](lt)(a b i)(d:Array α)(h:i<b):insOuter lt a b i d=insOuter lt a b (i+1) (insInner lt a i d):=by
 rw [insOuter,if_pos h]
theorem ww(hS:SWO lt)(a b):∀(n i:Nat) (d:Array (β×Nat)),b - i=n->a<i->i<=b->b<=d.size->SortedIn (slt lt) a i d->(∀p q,a<=p->p<q->i<=q->q<b->d[p]!.2<d[q]!.2)->insOuter (tlt lt) a b i d=insOuter (slt lt) a b i d
 | 0,i,d,hn,_,hib,_,_,_=>by
  obtain rfl:i=b:=zj;rw [insOuter,if_neg zj,insOuter,if_neg zj]
 | n+1,i,d,hn,hai,hib,hb,hs,ht=>by
  have hlt:i<b:=zj;rw [CN _ _ _ _ _ hlt,CN _ _ _ _ _ hlt,wA a i d zj (fun p hp hpi=>ht p i hp hpi zg hlt)];have h1:=insInner_spec (rd hS) swp_permIn permIn_refl permIn_trans a (i+1) i (Nat.lt_succ_self _) i d zj zg zj ⟨fun p q jc ki hqi _ hq=>hs p q jc ki zj,fun q h1 h2=>zj⟩;refine ww hS a b n (i+1) _ zj zj zj (by rw [h1.1.1];exact hb) h1.2 ?_;intro p q jc ki hiq gH;rw [h1.1.2.1 q (.inr zj)];by_cases hp:p<i+1
  ·exact permIn_all d _ a (i+1) (fun x=>x.2<d[q]!.2) zj h1.1 (fun r h1 h2=>ht r q h1 zj zj gH) p jc hp
  rw [h1.1.2.1 p (.inr zj)]
  grind
theorem NH(hS:SWO lt)(d)(a b)(hab:a<=b)(hb:b<=d.size)(ht:∀p q,a<=p->p<q->q<b->d[p]!.2<d[q]!.2):
  PermIn a b d (insertionSort (tlt lt) d a b)/\SortedIn (slt lt) a b (insertionSort (tlt lt) d a b):=by
 have h:=insertionSort_holds (rd hS) d a b hab hb
 have e:insertionSort (tlt lt) d a b=insertionSort (slt lt) d a b:=by
  unfold insertionSort;by_cases h1:a=b
  ·subst h1;rw [insOuter,if_neg zj,insOuter,if_neg zj]
  exact ww hS a b _ (a+1) d rfl zj zj hb (fun i j h1 h2 h3=>zj) (fun p q h1 h2 _ h3=>ht p q h1 h2 h3)
 rw [e];exact h
end
def oV(s m e k:Nat):Nat:=if s<=k/\k<s+(e - m) then k+(m - s) else if s+(e - m)<=k/\k<e then k - (e - m) else k
section
variable {α:Type} [Inhabited α]
structure O9 (d d':Array α) (s m e:Nat):Prop where
 G8:PermIn s e d d'
 p8:∀k,d'[k]! =d[oV s m e k]!
structure aar (d d':Array α) (a b n:Nat):Prop where
 size:d'.size=d.size
 p8:∀k,d'[k]! =d[if a<=k/\k<a+n then k+b - a else if b<=k/\k<b+n then k+a - b else k]!
 G8:∀lo hi,lo<=a->a+n<=hi->lo<=b->b+n<=hi->hi<=d.size->PermIn lo hi d d'
theorem aar.zero(d:Array α)(a b):aar d d a b 0:=
 ⟨rfl,fun k=>zN,fun lo hi _ _ _ _ _=>permIn_refl d lo hi⟩
theorem aar.next{d d':Array α}{a b n}(h:aar d d' a b n)(hab:a+n<b)(hb:b+n<d.size):aar d (swp d' (a+n) (b+n)) a b (n+1):=by
 refine ⟨by rw [swp_size,h.size],fun k=> ?_,fun lo hi h1 h2 h3 h4 h5=> ?_⟩
 ·rw [swp_get d' un un];rw [h.p8,h.p8,h.p8]
  grind
 have p1:=h.G8 lo hi h1 zj h3 zj h5;exact permIn_trans _ _ _ lo hi p1 (swp_permIn d' lo hi (a+n) (b+n) zj zj zj zj un)
theorem O9.left{d d1 d2:Array α}{m i j}(him:i<=m)(ay:j<i)(hsz:m+j<=d.size)(h1:aar d d1 (m - i) m j)(h2:O9 d1 d2 (m - (i - j)) m (m+j)):O9 d d2 (m - i) m (m+j):=by
 refine ⟨?_,fun k=> ?_⟩
 ·have p1:=h1.G8 (m - i) (m+j) zj zj zj zj hsz;exact permIn_trans _ _ _ _ _ p1 (permIn_mono d1 d2 _ _ _ _ zj zg (by rw [h1.size];exact hsz) h2.G8)
 rw [h2.p8,h1.p8];congr 1
 grind [oV]
theorem O9.right{d d1 d2:Array α}{m i j}(him:i<=m)(ay:i<j)(hsz:m+j<=d.size)(h1:aar d d1 (m - i) (m+j - i) i)(h2:O9 d1 d2 (m - i) m (m+(j - i))):O9 d d2 (m - i) m (m+j):=by
 refine ⟨?_,fun k=> ?_⟩
 ·have p1:=h1.G8 (m - i) (m+j) zj zj zj zj hsz;exact permIn_trans _ _ _ _ _ p1 (permIn_mono d1 d2 _ _ _ _ zg zj (by rw [h1.size];exact hsz) h2.G8)
 rw [h2.p8,h1.p8];congr 1;unfold oV
 repeat' split
 all_goals omega
theorem O9.adh{d d1:Array α}{m i}(him:i<=m)(hsz:m+i<=d.size)(h1:aar d d1 (m - i) m i):O9 d d1 (m - i) m (m+i):=by
 refine ⟨h1.G8 (m - i) (m+i) zj zj zj zj hsz,fun k=> ?_⟩;rw [h1.p8];congr 1;unfold oV
 grind
theorem O9.none(d:Array α)(s m e)(hs:s<=m)(he:m<=e)(h:s=m\/m=e):O9 d d s m e:=by
 refine ⟨permIn_refl d s e,fun k=> ?_⟩;congr 1;unfold oV
 grind
theorem O9.up{d d':Array α}{a k}(h:O9 d d' a (a+1) (k+1))(hak:a<=k)(hk:k+1<d.size):O9 d (swp d' k (k+1)) a (a+1) (k+2):=by
 have hs:=h.G8.1;refine ⟨permIn_trans _ _ _ _ _ (permIn_mono d d' _ _ _ _ zg zj zj h.G8) (swp_permIn d' a (k+2) k (k+1) hak zj zj zj zj),fun x=> ?_⟩;rw [swp_get d' zj zj,h.p8,h.p8,h.p8];by_cases x1:x=k+1
 ·subst x1;exact kl6
 rw [if_neg x1];by_cases x2:x=k
 ·subst x2;exact kl6
 rw [if_neg x2];congr 1
 grind [oV]
theorem O9.abE{d d':Array α}{k m}(h:O9 d d' (k+1) m (m+1))(hkm:k+1<=m)(hm:m<d.size):O9 d (swp d' (k+1) k) k m (m+1):=by
 have hs:=h.G8.1;refine ⟨permIn_trans _ _ _ _ _ (permIn_mono d d' _ _ _ _ zj zg zj h.G8) (swp_permIn d' k (m+1) (k+1) k zj zj zj zj zj),fun x=> ?_⟩;rw [swp_get d' zj zj,h.p8,h.p8,h.p8];by_cases x1:x=k
 ·subst x1;exact kl6
 rw [if_neg x1];by_cases x2:x=k+1
 ·subst x2;exact kl6
 rw [if_neg x2];congr 1
 grind [oV]
end
section
variable {β:Type} [Inhabited β] {lt:β→β→Bool}
structure F0 (lt:β->β->Bool) (a m b:Nat) (d:Array (β×Nat)):Prop where
 one:SortedIn (slt lt) a m d
 two:SortedIn (slt lt) m b d
 tag:∀p q,a<=p->p<m->m<=q->q<b->d[p]!.2<d[q]!.2
theorem F0.aa4{a m b}{d}(hS:SWO lt)(h:F0 lt a m b d){i j}(hi:a<=i)(ay:i<=j)(hj:j<m):slt lt d[j]! d[i]! =false:=by
 by_cases e:i=j
 ·subst e;exact (rd hS).irrefl _
 exact h.one i j hi zj hj
theorem F0.aa2{a m b}{d}(hS:SWO lt)(h:F0 lt a m b d){i j}(hi:m<=i)(ay:i<=j)(hj:j<b):slt lt d[j]! d[i]! =false:=by
 by_cases e:i=j
 ·subst e;exact (rd hS).irrefl _
 exact h.two i j hi zj hj
theorem F0.cut(hS:SWO lt){a s m e b}{d d'}(h:F0 lt a m b d)(h1:a<=s)(h2:s<=m)(h3:m<=e)(h4:e<=b)
  (bu:a<s->e<b->tlt lt d[e]! d[s - 1]! =false) (iy:s<m->m<e->tlt lt d[e - 1]! d[s]! =true) (hR:O9 d d' s m e):
  F0 lt a s (s+(e - m)) d'/\F0 lt (s+(e - m)) e b d'/\∀p q,a<=p->p<s+(e - m)->s+(e - m)<=q->q<b->slt lt d'[q]! d'[p]! =false:=by
 have W:=rd hS
 have lo:a<s->e<b->slt lt d[e]! d[s - 1]! =false:=fun x y=>by rw [rP (h.tag (s - 1) e zj zj h3 y)];exact bu x y
 have hi:s<m->m<e->slt lt d[s]! d[e - 1]! =false:=fun x y=>Ba hS (by rw [rP (h.tag s (e - 1) h1 x zj zj)];exact iy x y)
 have g:=hR.p8;refine ⟨⟨?_,?_,?_⟩,⟨?_,?_,?_⟩,?_⟩
 ·intro i j hi ay hj;rw [g,g,oV,if_neg zj,if_neg zj,oV,if_neg zj,if_neg zj];exact h.one i j hi ay zj
 ·intro i j hi ay hj;rw [g,g,oV,if_pos zj,oV,if_pos zj];exact ki1
 ·intro p q hp bg hq gH;rw [g,g,oV,if_neg zj,if_neg zj,oV,if_pos zj];exact h.tag _ _ hp zj zj zj
 ·intro i j hi ay hj;rw [g,g,oV,if_neg zj,if_pos zj,oV,if_neg zj,if_pos zj];exact kj9
 ·intro i j hi ay hj;rw [g,g,oV,if_neg zj,if_neg zj,oV,if_neg zj,if_neg zj];exact ki1
 ·intro p q hp bg hq gH;rw [g,g,oV,if_neg zj,if_pos zj,oV,if_neg zj,if_neg zj];exact h.tag _ _ zj zj zj zj
 intro p q hp dB hq gH;rw [g,g];by_cases c1:p<s
 ·rw [show oV s m e p=p by rw [oV,if_neg zj,if_neg zj]];by_cases c2:q<e
  ·rw [show oV s m e q=q - (e - m) by simp_all [oV,if_neg,if_pos]];exact h.one _ _ hp zj zj
  rw [show oV s m e q=q by simp_all [oV,if_neg]];have x1:=h.aa2 hS (i:=e) (j:=q) zj zj gH;have x2:=lo zj zj;have x3:=h.aa4 hS (i:=p) (j:=s - 1) hp zj zj;exact W.ntrans _ _ _ x1 (W.ntrans _ _ _ x2 x3)
 rw [show oV s m e p=p+(m - s) by rw [oV,if_pos zj]];by_cases c2:q<e
 ·rw [show oV s m e q=q - (e - m) by simp_all [oV,if_neg,if_pos]];have x1:=h.aa4 hS (i:=s) (j:=q - (e - m)) zj zj zj;have x2:=hi zj zj;have x3:=h.aa2 hS (i:=p+(m - s)) (j:=e - 1) zj zj zj;exact W.ntrans _ _ _ x1 (W.ntrans _ _ _ x2 x3)
 rw [show oV s m e q=q by simp_all [oV,if_neg]];exact h.two _ _ zj zj gH
theorem F0.O{a m b}{d}(h:F0 lt a m b d)(he:a=m\/m=b):SortedIn (slt lt) a b d:=by
 rcases he with rfl | rfl
 ·exact h.two
 exact h.one
theorem pE{a c b}{d d1 d2}(hac:a<=c)(hcb:c<=b)(hb:b<=d.size)(hx:∀p q,a<=p->p<c->c<=q->q<b->slt lt d[q]! d[p]! =false)
  (p1:PermIn a c d d1) (s1:SortedIn (slt lt) a c d1) (p2:PermIn c b d1 d2) (s2:SortedIn (slt lt) c b d2):PermIn a b d d2/\SortedIn (slt lt) a b d2:=by
 refine ⟨permIn_trans _ _ _ _ _ (permIn_mono d d1 _ _ _ _ zg hcb hb p1) (permIn_mono d1 d2 _ _ _ _ hac zg (by rw [p1.1];exact hb) p2),fun i j hi ay hj=> ?_⟩;by_cases h1:j<c
 ·rw [p2.2.1 i (.inl zj),p2.2.1 j (.inl h1)];exact s1 i j hi ay h1
 by_cases h2:c<=i
 ·exact s2 i j h2 ay hj
 rw [p2.2.1 i (.inl zj)]
 have q1:∀q,c<=q->q<b->slt lt d2[q]! d1[i]! =false:=by
  refine permIn_all d1 d2 c b (fun x=>slt lt x d1[i]! =false) (by rw [p1.1];exact hb) p2 ?_;intro q hq gH;rw [p1.2.1 q (.inr hq)];exact permIn_all d d1 a c (fun x=>slt lt d[q]! x=false) zj p1 (fun r hr hrc=>hx r q hr hrc hq gH) i hi zj
 simp_all
theorem F0.first(hS:SWO lt){a i b}{d d'}(h:F0 lt a (a+1) b d)(h1:a+1<=i)(h2:i<=b)
  (bu:a+1<i->tlt lt d[i - 1]! d[a]! =true) (iy:i<b->tlt lt d[i]! d[a]! =false) (hR:O9 d d' a (a+1) i):SortedIn (slt lt) a b d':=by
 have W:=rd hS
 have lo:a+1<i->slt lt d[a]! d[i - 1]! =false:=fun x=>Ba hS (by rw [rP (h.tag a (i - 1) zj zj zj zj)];exact bu x)
 have hi:i<b->slt lt d[i]! d[a]! =false:=fun x=>by rw [rP (h.tag a i zj zj h1 x)];exact iy x
 have g:=hR.p8;intro p q hp ki hq;rw [g,g];by_cases c1:q<i - 1
 ·rw [oV,if_pos zj,oV,if_pos zj];exact ki1
 by_cases c2:q=i - 1
 ·rw [show oV a (a+1) i q=a by rw [oV,if_neg zj,if_pos zj];omega,oV,if_pos zj];have x1:=lo zj;have x2:=h.aa2 hS (i:=p+(a+1 - a)) (j:=i - 1) zj zj zj;exact W.ntrans _ _ _ x1 x2
 rw [show oV a (a+1) i q=q by rw [oV,if_neg zj,if_neg zj]];by_cases c3:p<i - 1
 ·rw [oV,if_pos zj];exact ki1
 by_cases c4:p=i - 1
 ·rw [show oV a (a+1) i p=a by rw [oV,if_neg zj,if_pos zj];omega];have x1:=h.aa2 hS (i:=i) (j:=q) zj zj zj;exact W.ntrans _ _ _ x1 (hi zj)
 rw [show oV a (a+1) i p=p by rw [oV,if_neg zj,if_neg zj]];exact ki1
theorem F0.ac6(hS:SWO lt){a i m}{d d'}(h:F0 lt a m (m+1) d)(h1:a<=i)(h2:i<=m)
  (bu:a<i->tlt lt d[m]! d[i - 1]! =false) (iy:i<m->tlt lt d[m]! d[i]! =true) (hR:O9 d d' i m (m+1)):SortedIn (slt lt) a (m+1) d':=by
 have W:=rd hS
 have lo:a<i->slt lt d[m]! d[i - 1]! =false:=fun x=>by rw [rP (h.tag (i - 1) m zj zj zj zj)];exact bu x
 have hi:i<m->slt lt d[i]! d[m]! =false:=fun x=>Ba hS (by rw [rP (h.tag i m h1 x zj zj)];exact iy x)
 have g:=hR.p8;intro p q hp ki hq;rw [g,g];by_cases c1:q<i
 ·rw [oV,if_neg zj,if_neg zj,oV,if_neg zj,if_neg zj];exact kj9
 by_cases c2:q=i
 ·rw [show oV i m (m+1) q=m by rw [oV,if_pos zj];omega,show oV i m (m+1) p=p by rw [oV,if_neg zj,if_neg zj]];have x2:=h.aa4 hS (i:=p) (j:=i - 1) zj zj zj;exact W.ntrans _ _ _ (lo zj) x2
 rw [show oV i m (m+1) q=q - 1 by rw [oV,if_neg zj,if_pos zj];omega];by_cases c3:p<i
 ·rw [show oV i m (m+1) p=p by rw [oV,if_neg zj,if_neg zj]];exact kj9
 by_cases c4:p=i
 ·rw [show oV i m (m+1) p=m by rw [oV,if_pos zj];omega];have x1:=h.aa4 hS (i:=i) (j:=q - 1) zj zj zj;exact W.ntrans _ _ _ x1 (hi zj)
 rw [show oV i m (m+1) p=p - 1 by rw [oV,if_neg zj,if_pos zj];omega];exact kj9
end
section
variable {β:Type} [Inhabited β] {lt:β→β→Bool}
def zee(B i j:Nat):Prop:=∀c,c*B<=j->c*B<=i
structure L6 (lt:β->β->Bool) (B a n:Nat) (d:Array (β×Nat)):Prop where
 tag:∀p,p<n->∀c,c*B<=p↔c*B<=d[p]!.2
 done:∀i j,i<j->j<a->zee B i j->slt lt d[j]! d[i]! =false
structure Y7 (lt:β->β->Bool) (B a n:Nat) (d:Array (β×Nat)):Prop where
 tag:∀p,p<n->∀c,c*(2*B)<=p↔c*(2*B)<=d[p]!.2
 ab3:∀p,a<=p->p<n->∀c,c*B<=p↔c*B<=d[p]!.2
 done:∀i j,i<j->j<a->zee (2*B) i j->slt lt d[j]! d[i]! =false
 rest:∀i j,a<=i->i<j->j<n->zee B i j->slt lt d[j]! d[i]! =false
theorem L6.ac8{B n}{d}(h:L6 lt B n n d):Y7 lt B 0 n d:=by
 refine ⟨fun p hp c=> ?_,fun p _ hp c=>h.tag p hp c,fun i j _ hj=>zj,fun i j _ ay hj hs=>h.done i j ay hj hs⟩
 have e:c*(2*B)=(c*2)*B:=by rw [Nat.mul_assoc]
 rw [e];exact h.tag p hp _
theorem Y7.acP{B a n m b c}{d}(h:Y7 lt B a n d)(ha:a=c*(2*B))(hm:m=a+B)(jt:m<=b)(hb:b<=a+2*B)(i8:b<=n):F0 lt a m b d:=by
 have e1:(2*c)*B=a:=by rw [ha,Nat.mul_comm 2 c,Nat.mul_assoc]
 have e2:(2*c+1)*B=m:=by rw [YG,e1,hm];omega
 have e3:(2*c+2)*B=a+2*B:=by rw [YG,e1]
 have up:∀x y,x<=y->x*B<=y*B:=fun x y hxy=>ZK B hxy
 refine ⟨fun i j hi ay hj=>h.rest i j hi ay zj (fun x hx=> ?_),fun i j hi ay hj=>h.rest i j zj ay zj (fun x hx=> ?_),fun p q hp dB hq gH=> ?_⟩
 ·by_cases gi:x<=2*c
  ·have:=up _ _ gi;omega
  grind
 ·by_cases gi:x<=2*c+1
  ·have:=up _ _ gi;omega
  grind
 have h1:¬(2*c+1)*B<=d[p]!.2:=fun hx=>by have:=(h.ab3 p hp zj (2*c+1)).2 hx;omega
 have h2:=(h.ab3 q zj zj (2*c+1)).1 zj;omega
theorem Y7.K8{B a n b c}{d d'}(h:Y7 lt B a n d)(hn:n=d.size)(ha:a=c*(2*B))(hab:a<=b)(i8:b<=n)(hb:b=a+2*B\/b=n/\n<=a+2*B)(hp:PermIn a b d d')(hs:SortedIn (slt lt) a b d'):Y7 lt B b n d':=by
 have e3:(c+1)*(2*B)=a+2*B:=by rw [YG,ha];omega
 have up:∀x y,x<=y->x*(2*B)<=y*(2*B):=fun x y hxy=>ZK _ hxy
 refine ⟨fun p gI x=> ?_,fun p hbp gI x=> ?_,fun i j ay hj fe=> ?_,fun i j hi ay hj fe=> ?_⟩
 ·by_cases h1:a<=p/\p<b
  ·have T9:∀q,a<=q->q<b->(x*(2*B)<=d'[q]!.2↔x<=c):=by
    refine permIn_all d d' a b (fun y=>x*(2*B)<=y.2↔x<=c) zj hp ?_;intro q hq gH;rw [<-h.tag q zj x];constructor
    ·intro hx
     rcases Yv c x with hc | hc
     ·have:=up (c+1) x hc;omega
     exact hc
    intro hx;have:=up _ _ hx;omega
   rw [T9 p h1.1 h1.2]
   grind
  rw [hp.2.1 p zj];exact h.tag p gI x
 ·rw [hp.2.1 p (.inr hbp)];exact h.ab3 p zj gI x
 ·by_cases h1:j<a
  ·exact ko6
  have:=fe c zj;exact hs i j zj ay hj
 rw [hp.2.1 i (.inr zj),hp.2.1 j (.inr zj)];exact h.rest i j zj ay hj fe
theorem Y7.ac9{B a n c}{d}(h:Y7 lt B a n d)(ha:a=c*(2*B))(hB:n<=a+B):L6 lt (2*B) n n d:=by
 refine ⟨h.tag,fun i j ay hj fe=> ?_⟩;by_cases h1:j<a
 ·exact h.done i j ay h1 fe
 have:=fe c zj;refine h.rest i j zj ay hj (fun x hx=> ?_)
 have e1:(2*c)*B=a:=by rw [ha,Nat.mul_comm 2 c,Nat.mul_assoc]
 have e2:(2*c+1)*B=a+B:=by rw [YG,e1];omega
 by_cases gi:x<=2*c
 ·have:=ZK B gi;omega
 have:(2*c+1)*B<=x*B:=ZK B zj;omega
theorem Y7.ab8{B n}{d}(h:Y7 lt B n n d):L6 lt (2*B) n n d:=⟨h.tag,h.done⟩
theorem L6.K8{B a b n c}{d d'}(h:L6 lt B a n d)(hn:n=d.size)(ha:a=c*B)(i8:b<=n)(hb:b=a+B\/b=n/\n<=a+B)(hp:PermIn a b d d')(hs:SortedIn (slt lt) a b d'):L6 lt B b n d':=by
 have e3:(c+1)*B=a+B:=by rw [YG,ha];omega
 have up:∀x y,x<=y->x*B<=y*B:=fun x y hxy=>ZK _ hxy
 refine ⟨fun p gI x=> ?_,fun i j ay hj fe=> ?_⟩
 ·by_cases h1:a<=p/\p<b
  ·have T9:∀q,a<=q->q<b->(x*B<=d'[q]!.2↔x<=c):=by
    refine permIn_all d d' a b (fun y=>x*B<=y.2↔x<=c) zj hp ?_;intro q hq gH;rw [<-h.tag q zj x];constructor
    ·intro hx
     rcases Yv c x with hc | hc
     ·have:=up (c+1) x hc;omega
     exact hc
    intro hx;have:=up _ _ hx;omega
   rw [T9 p h1.1 h1.2]
   grind
  rw [hp.2.1 p zj];exact h.tag p gI x
 by_cases h1:j<a
 ·exact ko6
 have:=fe c zj;exact hs i j zj ay hj
theorem L6.all{B n}{d}(h:L6 lt B n n d)(hn:n<=B):SortedIn (slt lt) 0 n d:=fun i j _ ay hj=>h.done i j ay hj fun c hc=>by
 cases c with
 | zero=>simp
 | succ c=>
  grind
end
section
variable {β:Type} {lt:β→β→Bool}
theorem JB{β}[Inhabited β]{lt}(d:Array (β×Nat))(h:SortedIn (slt lt) 0 d.size d):d.toList.Pairwise (fun u v=>slt lt v u=false):=by
 rw [ZJ];intro i j hi hj ay;have:=h i j (uW _) ay yD
 grind
end
end
section
open RowKit
def eqB(t b n:Int)(k:Nat)(l8 other:Int)(name value:qY)(t' b' n':Int)(k':Nat)(node' other':Int)(name' value':qY):Bool:=decide (t=t'/\b=b'/\n=n'/\k=k'/\l8=node'/\other=other'/\name=name'/\value=value')
theorem zem(t b n)(k:Nat)(l8 other)(name value)(t' b' n')(k':Nat)(node' other')(name' value')(w):(Op.equalIn 10000 88 (.agg (qOa t b n k l8 other name value)) (.agg (qOa t' b' n' k' node' other' name' value'))).run prog w= .ok (eqB t b n k l8 other name value t' b' n' k' node' other' name' value') w:=by
 have hs:∀x y:ByteArray,x.toList=y.toList↔x=y:=fun x y=>⟨fun h=>by rw [ZB,ZB] at h;exact WideShapes.bytes_inj h,fun h=>by rw [h]⟩
 unfold eqB;go_simp
 grind [ZW]
theorem Kf(t b n)(k)(l8 other)(name value):eqB t b n k l8 other name value t b n k l8 other name value=true:=by simp [eqB]
end
section
open Shelf
set_option maxRecDepth 100000
def Gl:Ren:=⟨fun | 6=>191 | 14=>249 | 15=>245 | 20=>311 | 21=>312 | 22=>313 | 23=>314 | 24=>315 | 25=>316 | 26=>317 | 27=>318 | 28=>302 | 29=>235 | 46=>353 | 47=>346 | 48=>347 | 49=>354 | 50=>355 | 57=>375 | n=>n,fun | 0=>0 | 3=>3 | 4=>4 | 5=>5 | 9=>9 | 22=>209 | 24=>212 | 25=>269 | 39=>325 | 45=>367 | 46=>368 | 50=>165 | 53=>323 | 55=>259 | 66=>407 | 70=>411 | 76=>428 | 77=>50 | n=>n,fun n=>n⟩
theorem FX:SlLaysF0.n6 prog Gl:=⟨zk,⟨f191.name,zk,func191.trans qk⟩,⟨f249.name,zk,func249.trans qk⟩,func245.trans qk,⟨f311.name,zk,func311.trans qk⟩,⟨f312.name,zk,func312.trans qk⟩,⟨f313.name,zk,func313.trans qk⟩,⟨f314.name,zk,func314.trans qk⟩,⟨f315.name,zk,func315.trans qk⟩,⟨f316.name,zk,func316.trans qk⟩,⟨f317.name,zk,func317.trans qk⟩,⟨f318.name,zk,func318.trans qk⟩,func302.trans qk,func235.trans qk,⟨f353.name,zk,func353.trans qk⟩,func346.trans qk,func347.trans qk,⟨f354.name,zk,func354.trans qk⟩,⟨f355.name,zk,func355.trans qk⟩,⟨f375.name,zk,func375.trans qk⟩,zk,isAgg0,sizeOf0,zeroValue0,zk,isAgg3,sizeOf3,zeroValue3,zk,isAgg4,sizeOf4,zeroValue4,zk,isAgg5,sizeOf5,zeroValue5,zk,isAgg9,sizeOf9,zeroValue9,zk,isAgg209,sizeOf209,zeroValue209,zk,isAgg269,sizeOf269,zeroValue269,zk,isAgg325,sizeOf325,zeroValue325,zk,isAgg367,sizeOf367,zeroValue367,zk,isAgg368,sizeOf368,zeroValue368,zk,isAgg165,sizeOf165,zeroValue165,zk,isAgg323,sizeOf323,zeroValue323,zk,isAgg259,sizeOf259,zeroValue259,zk,isAgg407,sizeOf407,zeroValue407,zk,isAgg411,sizeOf411,zeroValue411,zk,isAgg428,sizeOf428,zeroValue428,zk,isAgg50,sizeOf50,zeroValue50⟩
end
section
open Shelf
set_option maxRecDepth 100000
def FR:Ren:=⟨fun | 6=>184 | 14=>246 | 15=>245 | 20=>303 | 21=>304 | 22=>305 | 23=>306 | 24=>307 | 25=>308 | 26=>309 | 27=>310 | 28=>302 | 29=>235 | 46=>350 | 47=>346 | 48=>347 | 49=>351 | 50=>352 | 57=>374 | n=>n,fun | 0=>0 | 3=>3 | 4=>4 | 5=>5 | 9=>9 | 22=>218 | 24=>221 | 25=>279 | 39=>325 | 45=>367 | 46=>368 | 50=>165 | 53=>323 | 55=>259 | 66=>407 | 70=>411 | 76=>428 | 77=>50 | n=>n,fun n=>n⟩
theorem Gm:SlLaysF0.n6 prog FR:=⟨zk,⟨f184.name,zk,func184.trans qk⟩,⟨f246.name,zk,func246.trans qk⟩,func245.trans qk,⟨f303.name,zk,func303.trans qk⟩,⟨f304.name,zk,func304.trans qk⟩,⟨f305.name,zk,func305.trans qk⟩,⟨f306.name,zk,func306.trans qk⟩,⟨f307.name,zk,func307.trans qk⟩,⟨f308.name,zk,func308.trans qk⟩,⟨f309.name,zk,func309.trans qk⟩,⟨f310.name,zk,func310.trans qk⟩,func302.trans qk,func235.trans qk,⟨f350.name,zk,func350.trans qk⟩,func346.trans qk,func347.trans qk,⟨f351.name,zk,func351.trans qk⟩,⟨f352.name,zk,func352.trans qk⟩,⟨f374.name,zk,func374.trans qk⟩,zk,isAgg0,sizeOf0,zeroValue0,zk,isAgg3,sizeOf3,zeroValue3,zk,isAgg4,sizeOf4,zeroValue4,zk,isAgg5,sizeOf5,zeroValue5,zk,isAgg9,sizeOf9,zeroValue9,zk,isAgg218,sizeOf218,zeroValue218,zk,isAgg279,sizeOf279,zeroValue279,zk,isAgg325,sizeOf325,zeroValue325,zk,isAgg367,sizeOf367,zeroValue367,zk,isAgg368,sizeOf368,zeroValue368,zk,isAgg165,sizeOf165,zeroValue165,zk,isAgg323,sizeOf323,zeroValue323,zk,isAgg259,sizeOf259,zeroValue259,zk,isAgg407,sizeOf407,zeroValue407,zk,isAgg411,sizeOf411,zeroValue411,zk,isAgg428,sizeOf428,zeroValue428,zk,isAgg50,sizeOf50,zeroValue50⟩
end
section
open Shelf
set_option maxRecDepth 100000
def Hh:Ren:=⟨fun | 6=>269 | 14=>328 | 15=>245 | 20=>329 | 21=>359 | 22=>360 | 23=>361 | 24=>362 | 25=>363 | 26=>364 | 27=>365 | 28=>302 | 29=>235 | 46=>376 | 47=>346 | 48=>347 | 49=>377 | 50=>378 | 57=>383 | n=>n,fun | 0=>0 | 3=>3 | 4=>4 | 5=>5 | 9=>9 | 22=>136 | 24=>88 | 25=>307 | 39=>325 | 45=>367 | 46=>368 | 50=>165 | 53=>323 | 55=>259 | 66=>407 | 70=>411 | 76=>428 | 77=>50 | n=>n,fun n=>n⟩
theorem KQ:SlLaysF0.n6 prog Hh:=⟨zk,⟨f269.name,zk,func269.trans qk⟩,⟨f328.name,zk,func328.trans qk⟩,func245.trans qk,⟨f329.name,zk,func329.trans qk⟩,⟨f359.name,zk,func359.trans qk⟩,⟨f360.name,zk,func360.trans qk⟩,⟨f361.name,zk,func361.trans qk⟩,⟨f362.name,zk,func362.trans qk⟩,⟨f363.name,zk,func363.trans qk⟩,⟨f364.name,zk,func364.trans qk⟩,⟨f365.name,zk,func365.trans qk⟩,func302.trans qk,func235.trans qk,⟨f376.name,zk,func376.trans qk⟩,func346.trans qk,func347.trans qk,⟨f377.name,zk,func377.trans qk⟩,⟨f378.name,zk,func378.trans qk⟩,⟨f383.name,zk,func383.trans qk⟩,zk,isAgg0,sizeOf0,zeroValue0,zk,isAgg3,sizeOf3,zeroValue3,zk,isAgg4,sizeOf4,zeroValue4,zk,isAgg5,sizeOf5,zeroValue5,zk,isAgg9,sizeOf9,zeroValue9,zk,isAgg136,sizeOf136,zeroValue136,zk,isAgg307,sizeOf307,zeroValue307,zk,isAgg325,sizeOf325,zeroValue325,zk,isAgg367,sizeOf367,zeroValue367,zk,isAgg368,sizeOf368,zeroValue368,zk,isAgg165,sizeOf165,zeroValue165,zk,isAgg323,sizeOf323,zeroValue323,zk,isAgg259,sizeOf259,zeroValue259,zk,isAgg407,sizeOf407,zeroValue407,zk,isAgg411,sizeOf411,zeroValue411,zk,isAgg428,sizeOf428,zeroValue428,zk,isAgg50,sizeOf50,zeroValue50⟩
end
section
open RowKit
theorem PA(s)(c:Nat)(h:c<=s.size):∃F:ByteArray,F.data.toList=s.data.toList.drop c/\∀w,(Instr.slice 9 (.string s) (some (qN c)) none none).run prog w= .ok (.string F) w:=by
 refine ⟨s.extract c s.size,by simp;rw [Zl zq],fun w=> ?_⟩;have h1:(c:Int)<=(s.size:Int):=zj;have h0:(0:Int)<=(c:Int):=zj;go_simp
theorem Et(x y)(h:x.size+y.size<=9223372036854775807):∃F:ByteArray,F.data.toList=x.data.toList++y.data.toList/\F.size=x.size+y.size/\∀w,(Op.stringOp .add x y).run prog w= .ok (.string F) w:=by
 simp_all [run_string_add_sum]
theorem Ox{x y:qY}(h:x.data.toList=y.data.toList):x=y:=by
 cases x;simp_all
theorem Qs(s:qY)(k:Nat)(h:k<s.size):s.data.toList.take k++ [s[k]]=s.data.toList.take (k+1):=by
 have hl:k<s.data.toList.length:=xo;rw [List.take_succ_eq_append_getElem hl];congr 1
end
section
open Maps
abbrev Cmd:=ByteArray×Option (Nat×List Nat)
def ptB(b:Nat):Value:=qP b
def tq(c:Cmd):Value:=match c.2 with
 | none=>.agg #[.string c.1,.nilFunc]
 | some q=>.agg #[.string c.1,.func (.func q.1) #[] (q.2.map ptB).toArray]
def zcq(b:Nat):DataW Unit:=.lit (.int .i64 (b:Int))
theorem WR{a b}(h:zcq a=zcq b):a=b:=by simp [zcq] at h;omega
def NO(c:Cmd):DataW Unit:=.agg (.lit (.string c.1.data.toList)::match c.2 with
 | none=>[]
 | some q=>zcq q.1::q.2.map zcq)
theorem FY{p q}(h:NO p=NO q):p=q:=by
 obtain ⟨⟨⟨s⟩⟩,o⟩:=p;obtain ⟨⟨⟨t⟩⟩,u⟩:=q
 grind [NO,WR,List.map_inj_right]
def MG:List Value->Option (List Nat)
 | []=>some []
 | .pointer (some ⟨b,0,none⟩)::l=>(MG l).map (b:: ·)
 | _=>none
def zd7(l:List Value):Option Cmd:=match l with
 | [.string s,.nilFunc]=>some (s,none)
 | [.string s,.func (.func f) ⟨[]⟩ cs]=>(MG cs.toList).map (fun bs=>(s,some (f,bs)))
 | _=>none
def Ou(v:Value):Option (DataW Unit×List MemPlace):=match v with
 | .agg cs=>(zd7 cs.toList).map (fun c=>(NO c,[]))
 | _=>none
theorem KU:∀bs:List Nat,MG (bs.map ptB)=some bs
 | []=>rfl
 | b::bs=>by simp [MG,ptB,KU bs]
theorem Sa:∀ {l:List Value} {bs:List Nat},MG l=some bs->l=bs.map ptB:=by
 intro l
 induction l with
 | nil=>intro bs h;cases h;rfl
 | cons v l ih=>
  intro bs h;unfold MG at h;split at h
  ·rename_i e;cases e
  ·rename_i b l' e
   cases e
   obtain ⟨m,hm,rfl⟩:=YP.1 h;rw [ih hm];rfl
  cases h
theorem Fv(c):Ou (tq c)=some (NO c,[]):=by
 grind [tq,Ou,zd7,KU]
theorem El{v}{z}(h:Ou v=some z):∃c,v=tq c/\z=(NO c,[]):=by
 unfold Ou at h;split at h
 ·rename_i cs;obtain ⟨c,hc,rfl⟩:=YP.1 h;refine ⟨c,?_,rfl⟩;unfold zd7 at hc;split at hc
  ·rename_i s e
   cases hc
   simp only [tq];rw [<-e]
  ·rename_i s f cs' e;obtain ⟨bs,hb,rfl⟩:=YP.1 hc;simp only [tq];rw [<-Sa hb,Array.toArray_toList];congr 1;rw [<-Qb,e]
  cases hc
 cases h
theorem Tw{c d}(h:tq c=tq d):c=d:=by
 have h1:=Fv c;rw [h,Fv d] at h1;exact FY (congrArg Prod.fst (Option.some.inj h1)).symm
abbrev XR:=qU->Option Cmd
def noM:XR:=fun _=>none
def Nv(s:qU):Prop:=s.length<=maxLen
def M7(D:DataW Unit)(f:XR):Prop:=∀s,Nv s->match f s with
 | none=>has D (.string s)=false
 | some c=>∀z,D.atKey (.string s) z=NO c
theorem M7.Y3{D}{f}(h:M7 D f){k}(hk:Nv k)(hf:f k=none):has D (.string k)=false:=by
 exact kk3
theorem M7.held{D}{f}(h:M7 D f){k}(hk:Nv k){c}(hf:f k=some c)(z):D.atKey (.string k) z=NO c:=by
 exact kk3
theorem M7.has{D}{f}(h:M7 D f){k}(hk:Nv k):Maps.has D (.string k)=(f k).isSome:=by
 cases hf:f k with
 | none=>rw [h.Y3 hk hf];rfl
 | some c=>rw [has_true_of_atKey (h.held hk hf)];rfl
def LB:Cmd:=(⟨#[]⟩,none)
theorem M7.at{D}{f}(h:M7 D f){k}(hk:Nv k):D.atKey (.string k) (NO LB)=NO ((f k).getD LB):=by
 cases hf:f k with
 | none=>rw [atKey_of_not_has (h.Y3 hk hf)];rfl
 | some c=>rw [h.held hk hf];rfl
theorem PR{a b}(h:a≠b):(Lit.string a)≠ .string b:=fun e=>h vh
theorem Lj{D}{f}(h:M7 D f)(hD:IsMap D)(k)(c):M7 (D.put (.string k) (NO c)) (fun x=>if x=k then some c else f x):=by
 intro x hx;dsimp only;by_cases e:x=k
 ·subst e;rw [if_pos rfl]
  exact fun z=>atKey_put_same hD (show WideAt.IsKeyLit (.string x) from trivial) _ _
 rw [if_neg e]
 cases hf:f x with
 | none=>rw [has_put_other (PR e)];exact h.Y3 hx hf
 | some q=>intro z;rw [atKey_put_other (PR e)];exact h.held hx hf z
def za0(f:XR):Prop:=∀k c,f k=some c->Nv k
structure F7 (w:qW) (b n:Nat) (f:XR):Prop where
 reads:∃D,w.ownsMap prog 9 Ou b n D/\M7 D f
 aaa:za0 f
theorem F7.lt{w}{b n}{f}(h:F7 w b n f):b<w.heap.size:=by
 obtain ⟨D,h,_⟩:=h.reads;exact h.lt
theorem F7.same{w w'}{b n}{f}(h:F7 w b n f)(e:w'.heap[b]? =w.heap[b]?):F7 w' b n f:=by
 exact kh7
theorem F7.mono{w}{b n n'}{f}(h:F7 w b n f)(hn:n<=n'):F7 w b n' f:=by
 obtain ⟨⟨D,h,r⟩,g⟩:=h;exact ⟨⟨D,h.mono hn,r⟩,g⟩
theorem Ia(w:qW):F7 (w.alloc (.map #[] 0)) w.heap.size 0 noM:=
 ⟨⟨_,YY w prog 9 Ou,fun _ _=>rfl⟩,fun k p h=>qd⟩
theorem zdx:Keyed prog 9:=string_keyed underlying9
theorem Nd(s)(h:s.size<=maxLen):keyOf prog 9 (.string s)=some (.string s.data.toList):=by
 unfold keyOf mapKey
 simp_all
theorem KS{v}{l}(h:keyOf prog 9 v=some l):∃s:ByteArray,v= .string s/\l= .string s.data.toList/\s.size<=maxLen:=by
 unfold keyOf mapKey at h
 grind [underlying9]
theorem zbI(w):(zeroValue 63).run prog w= .ok (tq LB) w:=zeroValue63 w
theorem F7.A{w}{b n}{f}(h:F7 w b n f)(s)(hs:s.size<=maxLen):
  (Instr.lookup 47 (.map (some b)) (.string s) true).run prog w= .ok (.tuple #[tq ((f s.data.toList).getD LB),.bool (f s.data.toList).isSome]) w:=by
 obtain ⟨⟨D,h,r⟩,_⟩:=h
 have hk:Nv s.data.toList:=by unfold Nv;simpa using hs
 obtain ⟨v,ps,ae,hv⟩:=h.look_ok zdx underlying47 (zbI w) (Fv LB) (Nd s hs);obtain ⟨p,rfl,hp⟩:=El hv;rw [r.at hk,Prod.mk.injEq] at hp;rw [ae,r.has hk,<-FY hp.1]
theorem F7.store{w}{b n}{f}(h:F7 w b n f)(hn:n<1000)(s)(hs:s.size<=maxLen)(c):
  ∃w',(Instr.mapUpdate 47 (.map (some b)) (.string s) (tq c)).run prog w= .ok () w'/\F7 w' b (n+1) (fun x=>if x=s.data.toList then some c else f x)/\w.mapTurned w' b:=by
 obtain ⟨⟨D,h,r⟩,g⟩:=h;obtain ⟨w',ae,h',ht⟩:=h.store zdx underlying47 yu (Nd s hs) (Fv c);refine ⟨w',ae,⟨⟨_,h',Lj r h.isMap _ c⟩,fun x q hx=> ?_⟩,ht⟩;split at hx
 ·simp_all [Nv]
 exact g x q hx
end
section
open RowKit
def clV(f:Nat)(bs:List Nat):Value:=.func (.func f) #[] (bs.map ptB).toArray
abbrev o9(w:qW)(b:Nat)(t:TypeId)(cs:List Value):Prop:=w.heap[b]? =some (.cells cs.toArray t (0,0))
theorem o9.later{w w'}{B b}{t}{cs}(h:o9 w b t cs)(hb:Below B w w')(hB:b<B):o9 w' b t cs:=(hb.block b hB).trans h
theorem o9.lt{w}{b}{t}{cs}(h:o9 w b t cs):b<w.heap.size:=(uN.1 h).1
theorem o9.cell{w}{b}{t}{cs}(h:o9 w b t cs)(i):w.cell? (qA b i)=cs[i]? :=by simp [World.cell?,h]
theorem mq(w:qW)(cs)(t):o9 (w.alloc (.cells cs.toArray t)) w.heap.size t cs:=heap_alloc_new w _
theorem rl{w}{b}{t}{cs}(h:o9 w b t cs)(o):o9 (w.alloc o) b t cs:=h.later ((uO _ w).alloc zg o) h.lt
theorem Wt(w)(cs)(t)(o):o9 ((w.alloc (.cells cs.toArray t)).alloc o) w.heap.size t cs/\qL w ((w.alloc (.cells cs.toArray t)).alloc o):=
 ⟨rl (mq w cs t) _,(zh w _).alloc zq _⟩
theorem Wb(w)(cs ds)(t u)(o):o9 (((w.alloc (.cells cs.toArray t)).alloc (.cells ds.toArray u)).alloc o) w.heap.size t cs/\o9 (((w.alloc (.cells cs.toArray t)).alloc (.cells ds.toArray u)).alloc o) (w.heap.size+1) u ds/\qL w (((w.alloc (.cells cs.toArray t)).alloc (.cells ds.toArray u)).alloc o):=by
 refine ⟨rl (rl (mq w cs t) _) _,?_,((zh w _).alloc zq _).alloc zl _⟩;have:=rl (mq (w.alloc (.cells cs.toArray t)) ds u) o;exact ko1
theorem pd(w)(p g)(form):
  qC 30 #[ptB p,.string form,clV g []] w fun e w'=>e= .returned (tq (form,some (80,[w.heap.size,w.heap.size+1])))/\o9 w' w.heap.size 44 [ptB p]/\o9 w' (w.heap.size+1) 89 [clV g []]/\qL w w':=by
 unfold ptB clV;go_enter func30,ntmps30;go_wp2;exact bodyPost_ret (v:=tq (form,some (80,[w.heap.size,w.heap.size+1]))) (by simp [results,results30,go_sem,tq,ptB]) rfl ⟨rfl,Wb w [ptB p] [clV g []] _ _ _⟩
theorem wM(w)(p g)(form):
  qC 56 #[ptB p,.string form,clV g []] w fun e w'=>e= .returned (tq (form,some (98,[w.heap.size,w.heap.size+1])))/\o9 w' w.heap.size 44 [ptB p]/\o9 w' (w.heap.size+1) 99 [clV g []]/\qL w w':=by
 unfold ptB clV;go_enter func56,ntmps56;go_wp2;exact bodyPost_ret (v:=tq (form,some (98,[w.heap.size,w.heap.size+1]))) (by simp [results,results56,go_sem,tq,ptB]) rfl ⟨rfl,Wb w [ptB p] [clV g []] _ _ _⟩
theorem oQ(w)(g s)(form):
  qC 37 #[.string form,clV g [s]] w fun e w'=>e= .returned (tq (form,some (84,[w.heap.size])))/\o9 w' w.heap.size 93 [clV g [s]]/\qL w w':=by
 unfold clV;go_enter func37,ntmps37;go_wp2;exact bodyPost_ret (v:=tq (form,some (84,[w.heap.size]))) (by simp [results,results37,go_sem,tq,ptB]) rfl ⟨rfl,Wt w [clV g [s]] _ _⟩
theorem FG(w)(f)(bs)(form):
  qC 32 #[tq (form,some (f,bs))] w fun e w'=>e= .returned (tq (form,some (83,[w.heap.size])))/\o9 w' w.heap.size 63 [.string form,clV f bs]/\qL w w':=by
 unfold tq;go_enter func32,ntmps32;go_wp2;exact bodyPost_ret (v:=tq (form,some (83,[w.heap.size]))) (by simp [results,results32,go_sem,tq,ptB]) rfl ⟨rfl,Wt w [.string form,clV f bs] _ _⟩
def zdy:Nat->qU
 | 1=>[116,101,120,116]
 | 2=>[98,111,117,110,100]
 | 3=>[115,104,97,112,101]
 | 4=>[110,97,109,101]
 | 5=>[107,105,110,100]
 | 6=>[110,111,110,101]
 | 7=>[101,120,105,115,116]
 | 8=>[102,117,108,108]
 | 9=>[103,97,112]
 | 10=>[99,121,99,108,101]
 | 11=>[111,102,102]
 | _=>[115,117,109]
def sg(cd:Nat):qU:=[99,111,110,99,111,114,100,97,116,58,32]++zdy cd
theorem Oq(w)(a)(s)(h:w.cell? a=some (.string s)):
  qC 419 #[.pointer (some a)] w fun e w'=>e= .returned (.string s)/\w'=w:=by
 obtain ⟨b,o,c⟩:=a;go_enter func419,ntmps419;exact ka7
theorem Pb(w)(b)(C9)(Q:ByteArray->World->Prop)
  (h:qC 24 #[.map (some b),.string C9] w fun e w'=>(∃told,e=qT #[.string told,.nilIface]/\Aside (Q told w'))\/∃a s,e= .returned (.tuple #[.string ⟨#[]⟩,.iface 437 (.pointer (some a))])/\w'.cell? a=some (.string s)/\Aside (Q s w')):
  qC 15 #[.map (some b),.string C9] w fun e w'=>∃s,e= .returned (.string s)/\Aside (Q s w'):=by
 go_enter func15,ntmps15;go_wp2_with fail;refine h.mono ?_;rintro e w1 (⟨told,rfl,HQ⟩ | ⟨a,s,rfl,hs,HQ⟩)
 ·go_wp2;go_ret;exact ⟨_,rfl,HQ.o⟩
 have he:=Oq w1 a s hs;go_wp2_with fail;refine he.mono ?_;rintro e w2 ⟨rfl,rfl⟩;go_wp2;go_ret;exact ⟨_,rfl,HQ.o⟩
end
section
open RowKit Maps
abbrev Spec:=Nat×ByteArray×Nat
def Kl(lo:Nat)(w:qW)(b:Nat)(t:TypeId)(cs:List Value):Prop:=lo<=b/\o9 w b t cs
def Q8(lo:Nat)(w:qW)(p:Nat)(x:Spec)(c:Cmd):Prop:=match x.1 with
 | 0=>∃a b,c=(x.2.1,some (80,[a,b]))/\Kl lo w a 44 [ptB p]/\Kl lo w b 89 [clV x.2.2 []]
 | 1=>∃s a b,c=(x.2.1,some (83,[s]))/\Kl lo w s 63 [.string x.2.1,clV 80 [a,b]]/\Kl lo w a 44 [ptB p]/\Kl lo w b 89 [clV x.2.2 []]
 | 2=>∃s q,c=(x.2.1,some (84,[q]))/\Kl lo w q 93 [clV x.2.2 [s]]/\Kl lo w s 44 [ptB p]
 | 3=>∃s,c=(x.2.1,some (x.2.2,[s]))/\Kl lo w s 44 [ptB p]
 | _=>∃a b,c=(x.2.1,some (98,[a,b]))/\Kl lo w a 44 [ptB p]/\Kl lo w b 99 [clV x.2.2 []]
theorem Q8.same{lo}{w w'}{p}{x}{c}(h:Q8 lo w p x c)(hk:∀b t cs,lo<=b->o9 w b t cs->o9 w' b t cs):Q8 lo w' p x c:=by
 have hl:∀ {b t cs},Kl lo w b t cs->Kl lo w' b t cs:=fun q=>⟨q.1,hk _ _ _ q.1 q.2⟩
 obtain ⟨k,f,g⟩:=x
 unfold Q8 at h |-
 match k with
 | 0=>grind
 | 1=>grind
 | 2=>grind
 | 3=>grind
 | n+4=>grind
abbrev Tbl:=List (qU×Spec)
structure J3 (lo:Nat) (w:qW) (p b n:Nat) (l:Tbl):Prop where
 map:∃f,F7 w b n f/\∀s,match l.lookup s with
  | none=>f s=none
  | some x=>∃c,f s=some c/\Q8 lo w p x c
theorem J3.lt{lo}{w}{p b n}{l}(h:J3 lo w p b n l):b<w.heap.size:=by obtain ⟨f,h,_⟩:=h.map;exact h.lt
theorem J3.GC{lo}{w w'}{p b n}{l}(h:J3 lo w p b n l)(e:w'.heap[b]? =w.heap[b]?)(hk:∀b t cs,lo<=b->o9 w b t cs->o9 w' b t cs):J3 lo w' p b n l:=by
 obtain ⟨f,hm,hs⟩:=h.map;refine ⟨f,hm.same e,fun s=> ?_⟩;have:=hs s;split<;>rename_i q<;>rw [q] at this
 ·exact this
 obtain ⟨c,h1,h2⟩:=this;exact ⟨c,h1,h2.same hk⟩
theorem J3.later{lo}{w w'}{p b n}{l}(h:J3 lo w p b n l)(hb:qL w w'):J3 lo w' p b n l:=h.GC (hb.block _ h.lt) (fun _ _ _ _ q=>q.later hb q.lt)
theorem AF{lo}(w:qW)(p):J3 lo (w.alloc (.map #[] 0)) p w.heap.size 0 []:=⟨noM,Ia w,fun _=>rfl⟩
theorem MP{w w'}{b m}{t}{cs}(h:o9 w b t cs)(ht:w.mapTurned w' m)(hm:∃f n,F7 w m n f):o9 w' b t cs:=by
 have hne:b≠m:=fun e=>by
  obtain ⟨f,n,⟨D,⟨es,aM,hb,_⟩,_⟩,_⟩:=hm
  simp_all
 exact (ht.grown.block b h.lt (fun e=>hne vh)).trans h
theorem J3.store{lo}{w}{p b n}{l}(h:J3 lo w p b n l)(hn:n<1000)(s)(hs:s.size<=1000)(x)(c)(hc:Q8 lo w p x c):
  ∃w',(Instr.mapUpdate 47 (.map (some b)) (.string s) (tq c)).run prog w= .ok () w'/\J3 lo w' p b (n+1) ((s.data.toList,x)::l)/\w.mapTurned w' b:=by
 obtain ⟨f,hm,hf⟩:=h.map;obtain ⟨w',ae,h',ht⟩:=hm.store hn s yu c
 have hk:∀b t cs,lo<=b->o9 w b t cs->o9 w' b t cs:=fun _ _ _ _ q=>MP q ht ⟨f,n,hm⟩
 refine ⟨w',ae,⟨_,h',fun y=> ?_⟩,ht⟩;rw [List.lookup_cons];by_cases e:y=s.data.toList
 ·subst e;simp only [beq_self_eq_true,if_true];exact ⟨c,rfl,hc.same hk⟩
 rw [show (y==s.data.toList)=false by simpa using e,if_neg e];have:=hf y;dsimp only;split<;>rename_i q<;>rw [q] at this
 ·exact this
 obtain ⟨c',h1,h2⟩:=this;exact ⟨c',h1,h2.same hk⟩
structure aad (lo:Nat) (w0 w:qW) (S p n:Nat) (l:Tbl):Prop where
 tbl:J3 lo w p S n l
 m8:Below S w0 w
theorem aad.later{lo}{w0 w w'}{S p n}{l}(h:aad lo w0 w S p n l)(hb:qL w w'):aad lo w0 w' S p n l:=
 ⟨h.tbl.later hb,h.m8.trans (hb.mono (Yz h.tbl.lt))⟩
theorem aad.put{lo}{w0 w w1}{S p n}{l}(h:aad lo w0 w S p n l)(hb:qL w w1)(hn:n<1000)(s)(hs:s.size<=1000)(x)(c)(hc:Q8 lo w1 p x c):
  ∃w',(Instr.mapUpdate 47 (.map (some S)) (.string s) (tq c)).run prog w1= .ok () w'/\Aside (aad lo w0 w' S p (n+1) ((s.data.toList,x)::l)):=by
 have h:=h.later hb;obtain ⟨w',hr,hT,ht⟩:=h.tbl.store hn s hs x c hc;exact ⟨w',hr,hT,h.m8.trans ((uO _ w1).grown ht.grown (Yz h.tbl.lt) zM)⟩
theorem Wr{lo}{w0 w w1}{S s p n}{l}{t}{cs}{wx}(b)(h0:s<=w0.heap.size/\o9 w0 b t cs/\Below s wx w0)(h:aad lo w0 w S p n l)(hS:w0.heap.size=S)(hb:qL w w1):o9 w1 b t cs:=
 have q:o9 w b t cs:=h0.2.1.later h.m8 zN
 q.later hb q.lt
def rR:Tbl:=[([109,97,114,107],(0,⟨#[68,78,87,87]⟩,36)),([101,114,97,115,101],(0,⟨#[68,78,78]⟩,35)),([119,114,105,116,101],(0,⟨#[68,78,78,76]⟩,34)),([109,111,118,101],(1,⟨#[68,78,78,87]⟩,33)),([109,97,107,101],(0,⟨#[68,78,87]⟩,31))]
def pM:Tbl:=[([102,108,121],(3,⟨#[]⟩,53)),([99,97,108,109],(3,⟨#[]⟩,50)),([98,111,111,116],(2,⟨#[68]⟩,48)),([99,117,116],(2,⟨#[68,78]⟩,46)),([116,119,105,99,101],(2,⟨#[78]⟩,44)),([100,114,111,112],(2,⟨#[78]⟩,42)),([103,111],(2,⟨#[78]⟩,40)),([97,115,107],(2,⟨#[68,68]⟩,38))]
def th:Tbl:=[([118,101,99,116,111,114],(4,⟨#[68]⟩,65)),([112,97,116,104],(4,⟨#[68,78]⟩,63)),([102,105,110,100],(4,⟨#[68,80]⟩,61)),([108,105,115,116],(4,⟨#[68,78]⟩,59)),([115,116,97,116,101],(4,⟨#[68]⟩,57))]
theorem Jb(w)(lo p)(bu:lo<=w.heap.size):Calls prog 20 #[ptB p] w fun e w'=>∃S,w.heap.size<=S/\e= .returned (.map (some S))/\Aside (J3 lo w' p S 5 rR/\Below w.heap.size w w'):=by
 have ff:= @run_makeMap prog;unfold ptB;go_enter func20,ntmps20;go_wp2_with fail
 have T0:Aside (aad lo w (w.alloc (.map #[] 0)) w.heap.size p 0 []):=⟨AF w p,zh w _⟩
 obtain ⟨S,hS⟩:∃S,Aside (w.heap.size=S):=⟨_,rfl⟩
 rw [hS.o] at T0 |-
 generalize w.alloc (.map #[] 0)=W0 at T0 |-
 refine (pd _ p _ _).mono ?_;rintro e V0 ⟨rfl,k0,k1,hb⟩;obtain ⟨W1,hr,T1⟩:=T0.o.put hb zj ⟨#[109,97,107,101]⟩ zo (0,⟨#[68,78,87]⟩,31) _ ⟨_,_,rfl,⟨ql,k0⟩,⟨ql,k1⟩⟩;go_wp2_with fail;refine (pd _ p _ _).mono ?_;rintro e V1 ⟨rfl,k0,k1,hb⟩;go_wp2_with fail;refine (FG _ _ _ _).mono ?_;rintro e X1 ⟨rfl,k2,hb2⟩;obtain ⟨W2,hr,T2⟩:=T1.o.put (zi hb hb2) zj ⟨#[109,111,118,101]⟩ zo (1,⟨#[68,78,78,87]⟩,33) _ ⟨_,_,_,rfl,⟨by have:=T1.o.m8.size;have:=hb.size;omega,k2⟩,⟨qq,k0.later hb2 k0.lt⟩,⟨qq,k1.later hb2 k1.lt⟩⟩;go_wp2_with fail;refine (pd _ p _ _).mono ?_;rintro e V2 ⟨rfl,k0,k1,hb⟩;obtain ⟨W3,hr,T3⟩:=T2.o.put hb zj ⟨#[119,114,105,116,101]⟩ zo (0,⟨#[68,78,78,76]⟩,34) _ ⟨_,_,rfl,⟨qm,k0⟩,⟨qm,k1⟩⟩;go_wp2_with fail;refine (pd _ p _ _).mono ?_;rintro e V3 ⟨rfl,k0,k1,hb⟩;obtain ⟨W4,hr,T4⟩:=T3.o.put hb zj ⟨#[101,114,97,115,101]⟩ zo (0,⟨#[68,78,78]⟩,35) _ ⟨_,_,rfl,⟨qp,k0⟩,⟨qp,k1⟩⟩;go_wp2_with fail;refine (pd _ p _ _).mono ?_;rintro e V4 ⟨rfl,k0,k1,hb⟩;obtain ⟨W5,hr,T5⟩:=T4.o.put hb zj ⟨#[109,97,114,107]⟩ zo (0,⟨#[68,78,87,87]⟩,36) _ ⟨_,_,rfl,⟨qi,k0⟩,⟨qi,k1⟩⟩;exact kk5
theorem GS(w)(lo p)(bu:lo<=w.heap.size):Calls prog 22 #[ptB p] w fun e w'=>∃S,w.heap.size<=S/\e= .returned (.map (some S))/\Aside (J3 lo w' p S 8 pM/\Below w.heap.size w w'):=by
 have ff:= @run_makeMap prog
 have U:Aside (o9 (w.alloc (.cells [ptB p].toArray 44)) w.heap.size 44 [ptB p]/\Below w.heap.size w (w.alloc (.cells [ptB p].toArray 44))/\(w.alloc (.cells [ptB p].toArray 44)).heap.size=w.heap.size+1):=⟨mq w _ _,zh w _,zq⟩
 unfold ptB at*;go_enter func22,ntmps22;go_wp2_with fail
 obtain ⟨s,hs⟩:∃s,Aside (w.heap.size=s):=⟨_,rfl⟩
 generalize (w.alloc (.cells #[.pointer (some ⟨p,0,none⟩)] 44))=w0 at U |-
 rw [hs.o] at U |-
 have B0:Aside (s<=w0.heap.size/\o9 w0 s 44 [ptB p]/\Below s w w0):=⟨Yz U.o.1.lt,U.o.1,U.o.2.1⟩
 have hS:Aside (w0.heap.size=s+1):=U.o.2.2
 have T0:Aside (aad lo w0 (w0.alloc (.map #[] 0)) w0.heap.size p 0 []):=⟨AF w0 p,zh w0 _⟩
 rw [hS.o] at T0
 generalize w0.alloc (.map #[] 0)=W0 at T0 |-
 refine (oQ _ _ s _).mono ?_;rintro e V0 ⟨rfl,k0,hb⟩;obtain ⟨W1,hr,T1⟩:=T0.o.put hb zj ⟨#[97,115,107]⟩ zo (2,⟨#[68,68]⟩,38) _ ⟨s,_,rfl,⟨by have:=T0.o.m8.size;have:=hs.o;have:=hS.o;omega,k0⟩,⟨yB,Wr _ B0.o T0.o hS.o hb⟩⟩;go_wp2_with fail;refine (oQ _ _ s _).mono ?_;rintro e V1 ⟨rfl,k0,hb⟩;obtain ⟨W2,hr,T2⟩:=T1.o.put hb zj ⟨#[103,111]⟩ zo (2,⟨#[78]⟩,40) _ ⟨s,_,rfl,⟨by have:=T1.o.m8.size;have:=hs.o;have:=hS.o;omega,k0⟩,⟨yB,Wr _ B0.o T1.o hS.o hb⟩⟩;go_wp2_with fail;refine (oQ _ _ s _).mono ?_;rintro e V2 ⟨rfl,k0,hb⟩;obtain ⟨W3,hr,T3⟩:=T2.o.put hb zj ⟨#[100,114,111,112]⟩ zo (2,⟨#[78]⟩,42) _ ⟨s,_,rfl,⟨by have:=T2.o.m8.size;have:=hs.o;have:=hS.o;omega,k0⟩,⟨yB,Wr _ B0.o T2.o hS.o hb⟩⟩;go_wp2_with fail;refine (oQ _ _ s _).mono ?_;rintro e V3 ⟨rfl,k0,hb⟩;obtain ⟨W4,hr,T4⟩:=T3.o.put hb zj ⟨#[116,119,105,99,101]⟩ zo (2,⟨#[78]⟩,44) _ ⟨s,_,rfl,⟨by have:=T3.o.m8.size;have:=hs.o;have:=hS.o;omega,k0⟩,⟨yB,Wr _ B0.o T3.o hS.o hb⟩⟩;go_wp2_with fail;refine (oQ _ _ s _).mono ?_;rintro e V4 ⟨rfl,k0,hb⟩;obtain ⟨W5,hr,T5⟩:=T4.o.put hb zj ⟨#[99,117,116]⟩ zo (2,⟨#[68,78]⟩,46) _ ⟨s,_,rfl,⟨by have:=T4.o.m8.size;have:=hs.o;have:=hS.o;omega,k0⟩,⟨yB,Wr _ B0.o T4.o hS.o hb⟩⟩;go_wp2_with fail;refine (oQ _ _ s _).mono ?_;rintro e V5 ⟨rfl,k0,hb⟩;obtain ⟨W6,hr,T6⟩:=T5.o.put hb zj ⟨#[98,111,111,116]⟩ zo (2,⟨#[68]⟩,48) _ ⟨s,_,rfl,⟨by have:=T5.o.m8.size;have:=hs.o;have:=hS.o;omega,k0⟩,⟨yB,Wr _ B0.o T5.o hS.o hb⟩⟩;go_wp2_with fail;obtain ⟨W7,hr,T7⟩:=T6.o.put (uO _ _) zj ⟨#[99,97,108,109]⟩ zo (3,⟨#[]⟩,50) _ ⟨s,rfl,⟨yB,Wr _ B0.o T6.o hS.o (uO _ _)⟩⟩;replace hr:(Instr.mapUpdate 47 (.map (some (s+1))) (.string ⟨#[99,97,108,109]⟩) (.agg #[.string ⟨#[]⟩,.func (.func 50) #[] #[.pointer (some ⟨s,0,none⟩)]])).run prog W6= .ok () W7:=hr;go_wp2_with fail;obtain ⟨W8,hr,T8⟩:=T7.o.put (uO _ _) zj ⟨#[102,108,121]⟩ zo (3,⟨#[]⟩,53) _ ⟨s,rfl,⟨yB,Wr _ B0.o T7.o hS.o (uO _ _)⟩⟩
 replace hr:(Instr.mapUpdate 47 (.map (some (s+1))) (.string ⟨#[102,108,121]⟩) (.agg #[.string ⟨#[]⟩,.func (.func 53) #[] #[.pointer (some ⟨s,0,none⟩)]])).run prog W7= .ok () W8:=hr;go_wp2_with fail;go_wp2;go_ret;exact ⟨s+1,yB,rfl,T8.o.tbl,by rw [hs.o];exact B0.o.2.2.trans (T8.o.m8.mono (Nat.le_succ s))⟩
theorem QS(w)(lo p)(bu:lo<=w.heap.size):Calls prog 23 #[ptB p] w fun e w'=>∃S,w.heap.size<=S/\e= .returned (.map (some S))/\Aside (J3 lo w' p S 5 th/\Below w.heap.size w w'):=by
 have ff:= @run_makeMap prog;unfold ptB;go_enter func23,ntmps23;go_wp2_with fail
 have T0:Aside (aad lo w (w.alloc (.map #[] 0)) w.heap.size p 0 []):=⟨AF w p,zh w _⟩
 obtain ⟨S,hS⟩:∃S,Aside (w.heap.size=S):=⟨_,rfl⟩
 rw [hS.o] at T0 |-
 generalize w.alloc (.map #[] 0)=W0 at T0 |-
 refine (wM _ p _ _).mono ?_;rintro e V0 ⟨rfl,k0,k1,hb⟩;obtain ⟨W1,hr,T1⟩:=T0.o.put hb zj ⟨#[115,116,97,116,101]⟩ zo (4,⟨#[68]⟩,57) _ ⟨_,_,rfl,⟨ql,k0⟩,⟨ql,k1⟩⟩;go_wp2_with fail;refine (wM _ p _ _).mono ?_;rintro e V1 ⟨rfl,k0,k1,hb⟩;obtain ⟨W2,hr,T2⟩:=T1.o.put hb zj ⟨#[108,105,115,116]⟩ zo (4,⟨#[68,78]⟩,59) _ ⟨_,_,rfl,⟨qq,k0⟩,⟨qq,k1⟩⟩;go_wp2_with fail;refine (wM _ p _ _).mono ?_;rintro e V2 ⟨rfl,k0,k1,hb⟩;obtain ⟨W3,hr,T3⟩:=T2.o.put hb zj ⟨#[102,105,110,100]⟩ zo (4,⟨#[68,80]⟩,61) _ ⟨_,_,rfl,⟨qm,k0⟩,⟨qm,k1⟩⟩;go_wp2_with fail;refine (wM _ p _ _).mono ?_;rintro e V3 ⟨rfl,k0,k1,hb⟩;obtain ⟨W4,hr,T4⟩:=T3.o.put hb zj ⟨#[112,97,116,104]⟩ zo (4,⟨#[68,78]⟩,63) _ ⟨_,_,rfl,⟨qp,k0⟩,⟨qp,k1⟩⟩;go_wp2_with fail;refine (wM _ p _ _).mono ?_;rintro e V4 ⟨rfl,k0,k1,hb⟩;obtain ⟨W5,hr,T5⟩:=T4.o.put hb zj ⟨#[118,101,99,116,111,114]⟩ zo (4,⟨#[68]⟩,65) _ ⟨_,_,rfl,⟨qi,k0⟩,⟨qi,k1⟩⟩;exact kk5
def orM(f g:XR):XR:=fun s=>(f s).or (g s)
def Cw(f g:XR)(left:Lit->Bool):XR:=fun s=>if left (.string s) then g s else (f s).or (g s)
theorem JU{D}{f}(g)(hr:M7 D f)(hg:za0 f):Cw f g (has D)=g:=by
 funext s;unfold Cw;split
 ·rfl
 rename_i h
 cases hf:f s with
 | none=>rfl
 | some c=>exact absurd (by rw [hr.has (hg s c hf),hf];rfl) h
theorem Rt{f g}{left}(h:∀k,left k=false):Cw f g left=orM f g:=by
 funext s;unfold Cw;rw [if_neg (by rw [h];simp)];rfl
theorem MY{f g}{left}{k}{c}(hf:f k=some c):(fun x=>if x=k then some c else Cw f g left x)=Cw f g (fun z=>left z && !z.sameKey (.string k)):=by
 funext x;by_cases e:x=k
 ·subst e;rw [if_pos rfl];unfold Cw;simp [WideAt.sameKey_self (show WideAt.IsKeyLit (.string x) from trivial),hf]
 simp_all [if_neg,Cw,sameKey_ne,PR]
theorem M7.got{D}{f}(h:M7 D f){k}(hk:Nv k){c}(aI:∀z,D.atKey (.string k) z=NO c):f k=some c:=by
 have h1:=h.has hk;rw [has_true_of_atKey aI] at h1
 cases hf:f k with
 | none=>rw [hf] at h1;cases h1
 | some d=>rw [FY ((h.held hk hf (.agg [])).symm.trans (aI (.agg [])))]
theorem UE(w)(b1 b2 n1 n2)(f1 f2)(h1:F7 w b1 n1 f1)(h2:F7 w b2 n2 f2)(hne:b1≠b2)(hn:n1+n2<1000)(hq:∀s c,f2 s=some c->∃q,c.2=some q):
  qC 21 #[.map (some b1),.map (some b2)] w fun e w'=>e=qT #[]/\F7 w' b1 (n1+n2) (orM f2 f1)/\w.grownBy w' (some b1):=by
 obtain ⟨⟨D,hown,hr⟩,hg⟩:=h2;have bO:=hown.size_le;have l1:=h1.lt;have l2:=hown.lt;have H:Aside (F7 w b1 n1 f1):=h1;go_enter func21,ntmps21
 go_wp2_with (first
  | (at_range;refine wpList_range_own _ rfl _ 47 rfl 9 63 zdx underlying47 _ b2 n2 D rfl hown ?_;intro w0 dX hg0 fP)
  | go_in)
 go_frame;obtain ⟨r,jo⟩:=ze w.heap.size
 rw [<-jo.o] at dX |-
 have H0:Aside (w0.ranges prog 9 Ou b2 r n2 D (has D) (size D)/\F7 w0 b1 n1 f1/\w.grownBy w0 none/\M7 D f2/\za0 f2/\b1<r/\b2<r/\size D<=n2):=by
  refine ⟨dX,H.o.same (hg0.block b1 l1 zq),hg0,hr,hg,xT,xT,bO⟩
 go_loopw [8] (fun _ wr=>∃(left:Lit->Bool) (eW m:Nat),Aside (wr.ranges prog 9 Ou b2 r n2 D left eW/\F7 wr b1 m (Cw f2 f1 left)/\m+eW<=n1+n2/\w.grownBy wr (some b1)))
  (fun _ wr=>wr.rangeLeft b2 r)
 case atStart=>
  refine ⟨_,_,n1,H0.o.1,?_,?_,H0.o.2.2.1.but _⟩
  ·rw [JU _ H0.o.2.2.2.1 H0.o.2.2.2.2.1];exact H0.o.2.1
  have:=H0.o.2.2.2.2.2.2.2;omega
 case round=>
  obtain ⟨left,eW,m,A2⟩:=hrel;obtain ⟨u2,hu2⟩:=za wr;subst hu2;have fT:=A2.o.1
  go_wp2_with (first
   | (at_next;refine wpList_next_ranges _ rfl _ rfl 9 zdx Ou (fun s:ByteArray=>.string s) tq (fun T9 kl hk=>by obtain ⟨x,hx,_⟩:=KS hk;exact ⟨x,hx⟩) (fun v y hv=>by obtain ⟨c,rfl,_⟩:=El hv;exact ⟨c,rfl⟩) b2 r n2 _ _ _ rfl fT ?_ ?_)
   | go_in)
  ·intro fB cU
   have hE:Aside (F7 u2 b1 (n1+n2) (orM f2 f1)/\w.grownBy u2 (some b1)):=by
    have h:=A2.o.2.1;rw [Rt cU] at h;exact ⟨h.mono vd,A2.o.2.2.2⟩
   go_wp2;go_end0;exact ⟨rfl,hE.o⟩
  intro s form o kl yd yp w2 bd eL cq hv aI dW io hg2 aN iC;obtain ⟨s',es,rfl,hsz⟩:=KS eL
  obtain rfl:s=s':=by cases es;rfl
  obtain ⟨c',ec,ez⟩:=El hv;obtain rfl:(form,o)=c':=Tw ec;obtain rfl:yd=NO (form,o):=(Prod.mk.inj ez).1
  have bE:Nv s.data.toList:=by unfold Nv;simpa using hsz
  have hf:=H0.o.2.2.2.1.got bE aI;obtain ⟨⟨fn,bs⟩,rfl⟩:∃q,o=some q:=hq _ _ hf
  unfold tq at iC |-
  dsimp only at iC |-
  generalize hcs:(bs.map ptB).toArray=cs at iC |-
  have HC:Aside _:=hcs;go_upto_region 3 with fail
  obtain ⟨S,hS⟩:∃S,Aside (w2.heap.size=S):=⟨_,rfl⟩
  rw [<-aN,hS.o]
  have K3:Aside (o9 (w2.alloc (.cells #[.string form,.func (.func fn) #[] cs] 63)) S 63 [.string form,.func (.func fn) #[] cs]):=by rw [<-hS.o];exact mq w2 _ _
  have hg3:=hg2.andThen (YK w2 (.cells #[.string form,.func (.func fn) #[] cs] 63) none) zq
  have M3:Aside (F7 (w2.alloc (.cells #[.string form,.func (.func fn) #[] cs] 63)) b1 m (Cw f2 f1 left)/\(w2.alloc (.cells #[.string form,.func (.func fn) #[] cs] 63)).ranges prog 9 Ou b2 r n2 D (fun z=>left z && !z.sameKey (.string s.data.toList)) bd/\w.grownBy (w2.alloc (.cells #[.string form,.func (.func fn) #[] cs] 63)) (some b1)):=by
   refine ⟨A2.o.2.1.same (hg3.block b1 A2.o.2.1.lt (by have:=H0.o.2.2.2.2.2.1;simp;omega)),dW.alloc _,A2.o.2.2.2.andThen hg3 ?_⟩;intro j hj
   cases hj
   exact .inl xT
  generalize w2.alloc (.cells #[.string form,.func (.func fn) #[] cs] 63)=W3 at K3 M3 |-
  have g0:=K3.o.cell 0;have g1:=K3.o.cell 1;simp only [Zb,Zf] at g0 g1;obtain ⟨w4,ae,M4,ht⟩:=M3.o.1.store vd s hsz (form,some (fn,bs));rw [MY hf] at M4
  have hm:w4.rangeLeft b2 r<u2.rangeLeft b2 r:=by
   rw [(M3.o.2.1.kept ht.grown zl uC).left_eq,fT.left_eq];exact io
  have J4:Aside (w4.ranges prog 9 Ou b2 r n2 D (fun z=>left z && !z.sameKey (.string s.data.toList)) bd/\F7 w4 b1 (m+1) (Cw f2 f1 (fun z=>left z && !z.sameKey (.string s.data.toList)))/\m+1+bd<=n1+n2/\w.grownBy w4 (some b1)):=
   ⟨M3.o.2.1.kept ht.grown zl uC,M4,vd,M3.o.2.2.andThen ht.grown (by intro j hj;exact .inr hj)⟩
  unfold tq at ae;dsimp only at ae;rw [HC.o] at ae;go_wp2;exact ⟨⟨_,_,_,J4⟩,hm⟩
theorem DC(s)(l1):∀l2:Tbl,(l2++l1).lookup s=(l2.lookup s).or (l1.lookup s)
 | []=>rfl
 | (k,x)::l2=>by
  grind
theorem Q8.has{lo}{w}{p}{x}{c}(h:Q8 lo w p x c):∃q,c.2=some q:=by
 grind [Q8]
theorem o9.kept{w w'}{m b}{t}{cs}(h:o9 w b t cs)(hg:w.grownBy w' (some m))(hm:∃f n,F7 w m n f):o9 w' b t cs:=by
 have hne:b≠m:=fun e=>by
  obtain ⟨f,n,⟨D,⟨es,aM,hb,_⟩,_⟩,_⟩:=hm
  simp_all
 exact (hg.block b h.lt (fun e=>hne vh)).trans h
theorem Cf{lo}(w)(p b1 b2 n1 n2)(l1 l2)(h1:J3 lo w p b1 n1 l1)(h2:J3 lo w p b2 n2 l2)(hne:b1≠b2)(hn:n1+n2<1000):
  qC 21 #[.map (some b1),.map (some b2)] w fun e w'=>e=qT #[]/\Aside (J3 lo w' p b1 (n1+n2) (l2++l1)/\Below b1 w w'):=by
 obtain ⟨f1,m1,t1⟩:=h1.map;obtain ⟨f2,m2,t2⟩:=h2.map;refine (UE w b1 b2 n1 n2 f1 f2 m1 m2 hne hn (fun s c hc=> ?_)).mono ?_
 ·have:=t2 s;split at this
  ·rw [this] at hc;cases hc
  obtain ⟨c',e,hI⟩:=this;rw [hc] at e
  cases e
  exact hI.has
 rintro e w' ⟨rfl,hM,hg⟩;refine ⟨rfl,⟨_,hM,fun s=> ?_⟩,(uO _ w).grown hg (Yz m1.lt) (by intro k hk;cases hk;exact uM _)⟩
 have hk:∀b t cs,lo<=b->o9 w b t cs->o9 w' b t cs:=fun _ _ _ _ q=>q.kept hg ⟨f1,n1,m1⟩
 rw [DC];have q1:=t1 s;have q2:=t2 s;unfold orM
 cases e2:l2.lookup s with
 | some x=>
  rw [e2] at q2;obtain ⟨c,h,hI⟩:=q2;rw [h];exact ⟨c,rfl,hI.same hk⟩
 | none=>
  rw [e2] at q2;dsimp only at q2;rw [q2,Option.none_or,Option.none_or]
  cases e1:l1.lookup s with
  | none=>rw [e1] at q1;exact q1
  | some x=>
   rw [e1] at q1;obtain ⟨c,h,hI⟩:=q1;exact ⟨c,h,hI.same hk⟩
def tblAll:Tbl:=th++(pM++rR)
theorem GY(w)(p):qC 14 #[ptB p] w fun e w'=>∃S,w.heap.size<=S/\e= .returned (.map (some S))/\Aside (J3 w.heap.size w' p S 18 tblAll/\qL w w'):=by
 unfold ptB;go_enter func14,ntmps14;go_wp2_with fail;refine (Jb w w.heap.size p zg).mono ?_;rintro e w1 ⟨S,hS,rfl,H1⟩;have HS:Aside (w.heap.size<=S):=hS;go_wp2_with fail;refine (GS w1 w.heap.size p H1.o.2.size).mono ?_;rintro e w2 ⟨S2,hS2,rfl,H2⟩;have T2:=H1.o.1.later H2.o.2
 have hne:S≠S2:=by have:=H1.o.1.lt;omega
 have hC:=Cf w2 p S S2 5 8 rR pM T2 H2.o.1 hne zj;have B2:Aside (qL w w2):=zi H1.o.2 H2.o.2;go_wp2_with fail;refine hC.mono ?_;rintro e w3 ⟨rfl,H3⟩;have B3:Aside (qL w w3):=B2.o.trans (H3.o.2.mono HS.o);go_wp2_with fail;refine (QS w3 w.heap.size p B3.o.size).mono ?_;rintro e w4 ⟨S4,hS4,rfl,H4⟩;have T4:=H3.o.1.later H4.o.2
 have hne:S≠S4:=by have:=H3.o.1.lt;omega
 have hC:=Cf w4 p S S4 13 5 _ th T4 H4.o.1 hne zj;have B4:Aside (qL w w4):=zi B3.o H4.o.2;go_wp2_with fail;refine hC.mono ?_;rintro e w5 ⟨rfl,H5⟩;have B5:Aside (qL w w5):=B4.o.trans (H5.o.2.mono HS.o);go_wp2;go_ret;exact ⟨S,HS.o,rfl,H5.o.1,B5.o⟩
end
section
open RowKit
def Jr(s:qY)(w:qW)(e:Ending)(w':qW):Prop:=∃(f:qY) (is:Bool),e=qT #[.string f,.bool is]/\Aside (f.size<=4/\(is=false↔tblAll.lookup s.data.toList=none)/\w'=w)
theorem US:∀ {l:Tbl} {k:qU},l.lookup k=none->∀x∈l,k≠x.1
 | [],_,_,x,hx=>ya
 | (a,b)::l,k,h,x,hx=>by
  grind
theorem QZ{k}{sp} :∀ {l:Tbl},l.lookup k=some sp->k∈l.map (·.1)
 | [],h=>qd
 | (a,b)::l,h=>by
  rw [List.lookup_cons] at h;split at h
  ·simp_all
  exact Za _ (QZ h)
theorem zaR{s:qY}{l}(h:s.data.toList=l):s=⟨l.toArray⟩:=by
 rw [<-h]
theorem nM{s:qY}(h:tblAll.lookup s.data.toList=none)(l)(hl:l∈tblAll.map (·.1)):(s.toList==l)=false:=by
 grind [US,ZB]
theorem Qk(s)(w)(h:tblAll.lookup s.data.toList=none):qC 9 #[.string s] w (Jr s w):=by
 have h1:=nM h [109,97,107,101] zo;have h2:=nM h [109,111,118,101] zo;have h3:=nM h [119,114,105,116,101] zo;have h4:=nM h [101,114,97,115,101] zo;have h5:=nM h [109,97,114,107] zo;have h6:=nM h [97,115,107] zo;have h7:=nM h [103,111] zo;have h8:=nM h [100,114,111,112] zo;have h9:=nM h [116,119,105,99,101] zo;have kU:=nM h [99,117,116] zo;have h11:=nM h [108,105,115,116] zo;have h12:=nM h [112,97,116,104] zo;have h13:=nM h [98,111,111,116] zo;have h14:=nM h [115,116,97,116,101] zo;have h15:=nM h [118,101,99,116,111,114] zo;have h16:=nM h [102,105,110,100] zo;have h17:=nM h [99,97,108,109] zo;have h18:=nM h [102,108,121] zo;have H:Aside (tblAll.lookup s.data.toList=none):=h;go_enter func9,ntmps9;go_wp2;go_ret2;exact ⟨_,_,rfl,zo,⟨fun _=>H.o,fun _=>rfl⟩,rfl⟩
theorem Oe(l)(hl:l∈tblAll.map (·.1))(w):qC 9 #[.string ⟨l.toArray⟩] w (Jr ⟨l.toArray⟩ w):=by
 have hm:l= [118,101,99,116,111,114]\/l= [112,97,116,104]\/l= [102,105,110,100]\/l= [108,105,115,116]\/l= [115,116,97,116,101]\/l= [102,108,121]\/l= [99,97,108,109]\/l= [98,111,111,116]\/l= [99,117,116]\/l= [116,119,105,99,101]\/l= [100,114,111,112]\/l= [103,111]\/l= [97,115,107]\/l= [109,97,114,107]\/l= [101,114,97,115,101]\/l= [119,114,105,116,101]\/l= [109,111,118,101]\/l= [109,97,107,101]:=by
  simpa [tblAll,th,pM,rR] using hl
 rcases hm with rfl | rfl | rfl | rfl | rfl | rfl | rfl | rfl | rfl | rfl | rfl | rfl | rfl | rfl | rfl | rfl | rfl | rfl
 all_goals
  go_enter func9,ntmps9;go_wp2;go_ret2;exact ⟨_,_,rfl,zo,⟨fun q=>xQ,fun q=>xQ⟩,rfl⟩
theorem Me(s)(w):qC 9 #[.string s] w (Jr s w):=by
 cases h:tblAll.lookup s.data.toList with
 | none=>exact Qk s w h
 | some sp=>
  have:=Oe _ (QZ h) w;rwa [<-zaR rfl] at this
def VX{σ:Type}(M:Nat->Prop)(J:σ->World->Prop):Prop:=∀s W W' row,J s W->W.grownBy W' row->(∀r,row=some r->M r)->J s W'
def zek{α:Type}(n:Nat)(P:Program)(gf:Nat)(lb:Array Value)(M:Nat->Prop)(enc:α->Value)(Kp:World->World->Prop)(All Sp:List α->Prop)(N:Nat)(w:qW):Prop:=
 ∀(l:Nat) (J Jx:List α->World->Prop) (W:qW),qL w W->VX M J->VX M Jx->
  (∀pre x W1,J pre W1->pre.length<N->YieldAt Fence.wide (n - 1) P l #[enc x] W1 fun e W'=>(e= .returned (.bool true)/\J (pre++ [x]) W'/\Kp W1 W')\/(e= .returned (.bool false)/\Jx (pre++ [x]) W'))->
  J [] W->CallsIn Fence.wide n P gf (#[.func (.yield l) #[] #[]]++lb) W fun e W'=>(∃v,e= .returned v)/\((∃xs,All xs/\J xs W')\/∃pre,Sp pre/\Jx pre W')
structure Y4 (l D:Nat) (r:Loop) (W:qW):Prop where
 loop:W.heap[l]? =some (.loop r)
 put:W.heap[D]? =some (.deferred (some []))
theorem Y4.lt{l D}{r}{W}(h:Y4 l D r W):l<W.heap.size:=(uN.1 h.loop).1
theorem Y4.acS{l D}{r}{W W'}{row}{M:Nat->Prop}(h:Y4 l D r W)(hg:W.grownBy W' row)(hr:∀q,row=some q->M q)(hl:¬M l)(hD:¬M D):Y4 l D r W':=
 ⟨(hg.block l h.lt (fun e=>hl (hr l e.symm))).trans h.loop,(hg.block D (uN.1 h.put).1 (fun e=>hD (hr D e.symm))).trans h.put⟩
theorem Y4.kept{B l D}{r}{W W'}(h:Y4 l D r W)(hk:KeepsFrom B W W')(hl:B<=l)(hD:B<=D):Y4 l D r W':=⟨hk.same l _ hl h.loop rfl,hk.same D _ hD h.put rfl⟩
theorem Y4.abV{l D}{r}{W}(h:Y4 l D r W)(hne:l≠D)(r'):Y4 l D r' (W.putObj l (.loop r')):=
 ⟨World.putObj_heap_same h.lt,(Yd (fun e=>hne e.symm)).trans h.put⟩
def abf{σ:Type}(B:Nat)(M:Nat->Prop)(I:σ->World->Prop):Prop:=∀s W W' row,I s W->W.grownBy W' row->(∀r,row=some r->M r\/(B<=r/\∃o:Obj,W.heap[r]? =some o/\o.isCells=false))->I s W'
theorem abf.put{σ}{B}{M}{I}(h:abf B M I){s:σ}{W}(hs:I s W){l}{r}(hB:B<=l)(hl:W.heap[l]? =some (.loop r))(o):I s (W.putObj l o):=
 h s W _ (some l) hs (grownBy_putObj' W l o) (fun q e=>by cases e;exact .inr ⟨hB,_,hl,rfl⟩)
section
variable {P:Program} {α:Type} {g:Operand} {ps:Array Tmp} {assign body:Code} {Q:Exit→Act→World→Prop} {a:Act} {w:qW} {n gf:Nat} {lb:Array Value} {M:Nat→Prop} {enc:α→Value} {Kp:World→World→Prop} {All Sp:List α→Prop} {N:Nat}
theorem zaj(hn:1<=n)(hg:a.eval g= .func (.func gf) #[] lb)(eg:∀args w,(callFunc gf args).run P w= .ok (.enter gf args) w)
  (hM:∀r,M r->r<w.heap.size) (hseq:zek (n - 1) P gf lb M enc Kp All Sp N w) (hKt:∀ {A B C:qW},Kp A B->Kp B C->Kp A C)
  (hKb:∀(W:qW) (l:Nat) (r:Loop) (o:Obj),w.heap.size<=l->W.heap[l]? =some (.loop r)->Kp W (W.putObj l o)) (bg:ps.size=1)
  (I:List α->World->Prop) (Ix:Code->List α->World->Prop) (hI:abf w.heap.size M I) (hIx:∀c,abf w.heap.size M (Ix c)) (h0:I [] w)
  (Ax:α->Act->World->Prop) (hAx:∀x a',abf w.heap.size M (fun (_:Unit) W=>Ax x a' W))
  (jH:∀(l:Nat) (pre:List α) (x:α) (W:qW) (K:Act->World->Prop),I pre W->(∀a' W',KeepsFrom w.heap.size W W'->Kp W W'->I pre W'->Ax x a' W'->K a' W')->
   assign.wpIn (Fence.wide.inRound l) (n - 1 - 1) P (Exit.then K (fun _ _ _=>False)) {tmps:=(ps.zip #[enc x]).foldl (fun t (p,v)=>t.setIfInBounds p v) a.tmps,defers:=[]} W)
  (hbody:∀(l:Nat) (pre:List α) (x:α) (a':Act) (W:qW),w.heap.size<=l->I pre W->Ax x a' W->pre.length<N->body.wpIn (Fence.wide.inRound l) (n - 1 - 1) P (ownPostG w.heap.size Kp I Ix (pre++ [x]) W) a' W)
  (hdone:∀(D:Nat) (xs:List α) (W:qW),w.heap.size<=D->All xs->I xs W->W.heap[D]? =some (.deferred (some []))->Q .normal {a with defers:={target:=.collected D,args:= #[]} ::a.defers} W)
  (hstop:∀(D:Nat) (c:Code) (pre:List α) (W:qW),w.heap.size<=D->Sp pre->Ix c pre W->W.heap[D]? =some (.deferred (some []))->c.wpIn Fence.wide n P Q {a with defers:={target:=.collected D,args:= #[]} ::a.defers} W):
  (Code.rangeFunc g ps assign body).wpIn Fence.wide n P Q a w:=by
 refine wpIn_rangeFunc fun fn hfn=> ?_
 obtain ⟨D,hD⟩:=za w.heap.size
 obtain ⟨mk,km⟩:∃mk:LoopState->Option Code->Loop,mk=fun st pe=>{state:=st,pending:=pe,fn:=fn,tmps:=a.tmps,params:=ps,assign:=assign,body:=body,defers:=D} :=⟨_,rfl⟩
 obtain ⟨V,hV⟩:=za ((w.alloc (.deferred (some []))).alloc (.loop (mk .ready none)))
 have bV:Y4 (D+1) D (mk .ready none) V:=by
  constructor
  ·grind [heap_alloc_new,Zv]
  grind [uT,heap_alloc_new]
 have ai:qL w V:=uy;have iV:=hI [] w V none h0 ⟨ai.os,ai.tape,ai.output,ai.size,fun i hi _=>ai.block i hi⟩ (fun r e=>yN)
 have nM1:¬M (D+1):=fun q=>by have:=hM _ q;omega
 have nM0:¬M D:=fun q=>by have:=hM _ q;omega
 refine ⟨D+1,[{target:=.collected D,args:= #[]}],V,{target:=.fn (.func gf) lb,args:= #[.func (.yield (D+1)) #[] #[]]},V,gf,#[.func (.yield (D+1)) #[] #[]]++lb,V,?_,?_,?_,?_,fun _=>hn,?_⟩
 ·rw [hV,km,hD];exact run_enterLoop_outer fn a.tmps ps assign body
 ·simp only [resolve,hg];simp [go_sem]
 ·intro f' hf';trivial
 ·simp [invoke,go_sem,eg]
 refine (hseq (D+1) (fun pre W=>I pre W/\Y4 (D+1) D (mk .ready none) W) (fun pre W=>∃c,Ix c pre W/\Y4 (D+1) D (mk .done (some c)) W) V ai
  (fun s A B row hs fh hr=>⟨hI s A B row hs.1 fh (fun r e=>.inl (hr r e)),hs.2.acS fh hr nM1 nM0⟩)
  (fun s A B row hs fh hr=>by obtain ⟨c,h1,h2⟩:=hs;exact ⟨c,hIx c s A B row h1 fh (fun r e=>.inl (hr r e)),h2.acS fh hr nM1 nM0⟩) ?_ ⟨iV,bV⟩).mono ?_
 ·rintro pre x W ⟨hi,hb⟩ hlen;have hy:=run_yield (P:=P) (args:= #[enc x]) hb.loop zM;rw [km] at hy;refine ⟨fn,_,assign,body,hy,roundIn_of_wpIn hfn (jH (D+1) pre x W _ hi fun a' W1 gv bR gw gi=> ?_)⟩;have b1:=hb.kept gv zj zj
  obtain ⟨bz,hbz⟩:∃bz,bz= {mk .ready none with state:=.busy} :=⟨_,rfl⟩
  have e1:=run_beginRound (P:=P) b1.loop (by rw [km]);rw [<-hbz] at e1;have b2:=b1.abV zj bz;have k2:Kp W1 (W1.putObj (D+1) (.loop bz)):=hKb W1 (D+1) _ _ zj b1.loop;refine ⟨_,e1,wpIn_mono (hbody (D+1) pre x a' _ zj (hI.put gw zj b1.loop _) ((hAx x a').put (s:=()) gi zj b1.loop _) hlen) ?_⟩
  have fJ:∀(j:Option Code) (W3:qW),KeepsFrom w.heap.size (W1.putObj (D+1) (.loop bz)) W3->∃r',r'=mk (if j.isNone then .ready else .done) j/\(Instr.endRound (D+1) j).run P W3= .ok (.bool j.isNone) (W3.putObj (D+1) (.loop r'))/\Y4 (D+1) D bz W3/\Y4 (D+1) D r' (W3.putObj (D+1) (.loop r')):=fun j W3 k3=>by
   have b3:=b2.kept k3 zj zj;have e:=run_endRound (P:=P) j b3.loop;refine ⟨_,rfl,?_,b3,b3.abV zj _⟩
   simp_all
  intro e a3 W3 hp
  cases e with
  | normal=>
   obtain ⟨k3,p3,i3⟩:=hp;obtain ⟨r',hr',e3,b3,b4⟩:=fJ none W3 k3;rw [show mk (if (none:Option Code).isNone then .ready else .done) none=mk .ready none from rfl] at hr';exact ⟨_,_,e3,.inl ⟨rfl,⟨hI.put i3 zj b3.loop _,hr'▸b4⟩,hKt bR (hKt k2 (hKt p3 (hKb W3 (D+1) _ _ zj b3.loop)))⟩⟩
  | ret=>
   obtain ⟨k3,i3⟩:=hp;obtain ⟨r',hr',e3,b3,b4⟩:=fJ (some .ret) W3 k3;exact ⟨_,_,e3,.inr ⟨rfl,.ret,(hIx _).put i3 zj b3.loop _,hr'▸b4⟩⟩
  | exit id=>
   obtain ⟨k3,i3⟩:=hp;obtain ⟨r',hr',e3,b3,b4⟩:=fJ (some (.exit id)) W3 k3;exact ⟨_,_,e3,.inr ⟨rfl,.exit id,(hIx _).put i3 zj b3.loop _,hr'▸b4⟩⟩
  | goto t=>
   obtain ⟨k3,i3⟩:=hp;obtain ⟨r',hr',e3,b3,b4⟩:=fJ (some (.goto t)) W3 k3;exact ⟨_,_,e3,.inr ⟨rfl,.goto t,(hIx _).put i3 zj b3.loop _,hr'▸b4⟩⟩
  | panic ch=>exact hp.elim
  | outgrown=>exact hp.elim
 rintro e W2 ⟨⟨v,rfl⟩,(⟨xs,hall,hi,hb⟩ | ⟨pre,hsp,c,hi,hb⟩)⟩
 ·have e2:=run_endLoop (P:=P) hb.loop (by rw [km];simp);have b2:=hb.abV zj {mk .ready none with state:=.exhausted};refine ⟨none,_,?_,hdone D xs _ zj hall (hI.put hi zj hb.loop _) b2.put⟩
  simp_all
 have e2:=run_endLoop (P:=P) hb.loop (by rw [km];simp);have b2:=hb.abV zj {mk .done (some c) with state:=.exhausted};refine ⟨some c,_,?_,hstop D c pre _ zj hsp ((hIx c).put hi zj hb.loop _) b2.put⟩
 simp_all
end
def Xr(u:Nat):UInt8:=UInt8.ofNat u
theorem Kb(u:Nat)(w)(h2:u<=255):
  qC 76 #[qN u] w (qR (.string ⟨#[Xr u]⟩) w):=by
 have i7:(convert 141 9 (qG w.heap.size 1 1)).run prog (w.alloc (.cells #[.int .u8 (u:Int)] 5))= .ok (.string ⟨#[Xr u]⟩) (w.alloc (.cells #[.int .u8 (u:Int)] 5)):=by
  refine run_convert_bytes_back (P:=prog) _ 141 9 5 (qB w.heap.size) 1 [Xr u] underlying141 underlying5 underlying9 ?_;intro j hj;have hj0:j=0:=yD;subst hj0;simp [go_sem,Addr.add,Xr];omega
 go_enter func76,ntmps76;go_wp2;go_ret;exact ⟨rfl,zh _ _⟩
theorem Hk(x y:qU)(h:x.length+y.length<=9223372036854775807)(w):(Op.stringOp .add ⟨x.toArray⟩ ⟨y.toArray⟩).run prog w= .ok (.string ⟨(x++y).toArray⟩) w:=by
 rw [run_string_add_sum w ⟨x.toArray⟩ ⟨y.toArray⟩ (by simpa [ByteArray.size] using h)];congr 2
end
section
theorem Gh{P}{W}{ti tp te ts}{ms}{nm}{f}
  (hi:P.underlying ti=some (.interface ms)) (hrow:∀u,P.typeName? 3 u=some nm->u=tp) (hp:P.underlying tp=some (.pointer te)) (he:P.underlying te=some (.struct #[f])) (hft:f.type=ts) (hfo:f.offset=0) (hs:P.underlying ts=some .string) (hc:P.cellsOf te=1) (hcs:P.cellsOf ts=1):
  ∀(l:List (String×Nat×qU)) (ps:List MemPlace),
   (∀x∈l,P.globalNamed x.1=some x.2.1/\(P.globals[x.2.1]?).map (·.type)=some ti)->
   DataW.LaidVars P W (l.map fun x=>(x.1,.iface nm (.ptr (.agg [.lit (.string x.2.2)])))) ps->ps.Nodup->
   (∀b off,MemPlace.cell b off∈ps->(∃c t,W.heap[b]? =some (.cells c t (0,0)))/\∀u v,W.cell? (qA b off)=some (.iface u v)->Value.okWide P W .any 0 u v)->
   ∃az:List Addr,az.length=l.length/\(∀(i:Nat) (x:String×Nat×qU) (a:Addr),l[i]? =some x->az[i]? =some a->W.cell? (qB x.2.1)=some (.iface tp (.pointer (some a))))/\
    (∀a∈az,(∃c t,W.heap[a.block]? =some (.cells c t (0,0)))/\MemPlace.cell a.block a.off∈ps)/\az.Nodup
 | [],ps,_,_,_,_=>⟨[],rfl,zq,zq,YZ⟩
 | x::l,ps,hx,hv,bU,hr=>by
  obtain ⟨g,t,cs,fuel,p,q,hg,ht,dU,hd,hq,e⟩:=hv;subst e;obtain ⟨hg',gX⟩:=hx x (Zq);obtain rfl:=Option.some.inj (hg'.symm.trans hg);obtain rfl:=Option.some.inj (gX.symm.trans ht);obtain ⟨l0⟩:=cs
  have ok0:∀u v,l0= [.iface u v]->Value.okWide P W .any 0 u v:=fun u v e=>by
   subst e;exact (hr x.2.1 0 vW).2 u v (by simpa using YV hg dU 0)
  obtain ⟨a0,s0,rfl,fB,fP,aD,rfl⟩:=errorString_of_trod hi hrow hp he hft hfo hs hc hcs hd ok0;have hnd2:=ZM.1 bU;obtain ⟨az,hl,h1,h2,h3⟩:=Gh hi hrow hp he hft hfo hs hc hcs l q (fun y hy=>hx y (Za _ hy)) hq hnd2.2.1 (fun b off hm=>hr b off (ZD _ hm));have hm0:MemPlace.cell a0.block a0.off∈MemPlace.row (qB x.2.1) (#[Value.iface tp (.pointer (some a0))]:Array Value).size++MemPlace.row a0 1:=ZD _ vW;refine ⟨a0::az,by simp [hl],?_,?_,?_⟩
  ·intro i y a hy ha
   cases i with
   | zero=>
    simp only [Zb,Option.some.injEq] at hy ha;subst hy ha;simpa using YV hg dU 0
   | succ i=>
    simp only [Zf] at hy ha;exact h1 i y a hy ha
  ·intro a ha
   rcases uZ.1 ha with rfl | ha
   ·exact ⟨(hr _ _ (Zo _ hm0)).1,Zo _ hm0⟩
   exact ⟨(h2 a ha).1,ZD _ (h2 a ha).2⟩
  grind
theorem Tryz.acs: "*" ++ "errors.errorString" = "*errors.errorString" :=zo
theorem Tryz.acM(u)(h:prog.typeName? 3 u=some "*errors.errorString"):u=437:=
 typeName_ptr_named (nm:= "errors.errorString") (by rw [Tryz.acs];kernel_rfl) zk zo u (by rw [Tryz.acs];exact h)
theorem Tryz.abB:prog.cellsOf 455=1:=zk
theorem Tryz.U:prog.cellsOf 9=1:=zk
theorem zay{W}(l:List (String×Nat×qU))(hn:∀x∈l,prog.globalNamed x.1=some x.2.1/\(prog.globals[x.2.1]?).map (·.type)=some 25)
  (h1:laidMet prog (l.map fun x=>(x.1,.iface "*errors.errorString" (.ptr (.agg [.lit (.string x.2.2)])))) W):
  ∃az:List Addr,∀(i:Nat) x,l[i]? =some x->W.cell? (qB x.2.1)=some (.iface 437 (.pointer (some (az.getD i (qB 0))))):=by
 obtain ⟨ps,hv,bU,hr⟩:=h1;obtain ⟨az,hl,hcell,-,-⟩:=Gh underlying25 Tryz.acM underlying437 underlying455 rfl rfl underlying9 Tryz.abB Tryz.U l ps hn hv bU hr;refine ⟨az,fun i x hx=>hcell i x _ hx ?_⟩
 grind
end
section
open ChangeShapes WideShapes RowKit Deep
theorem Sn:prog.cellsOf 3=1:=zk
end
section
open ChangeShapes WideShapes ChangeAt RowKit Joins
theorem gPow:prog.globalNamed "internal/strconv.uint64pow10" =some 13:=zk
theorem tPow:(prog.globals[13]?).map (·.type)=some 322:=zk
theorem Us:prog.cellsOf 322=20:=zk
theorem WU:prog.cellsOf 259=1:=zk
theorem zci{W}(h:Lib.VarReads prog W "internal/strconv.uint64pow10" (Lib.tabData .u64 Lib.pow10Tab)):Lib.TabIs prog W "internal/strconv.uint64pow10" .u64 Lib.pow10Tab:=by
 obtain ⟨g,t,cs,fuel,p,hg,ht,dU,hd⟩:=h;obtain rfl:=Option.some.inj (gPow.symm.trans hg);obtain rfl:=Option.some.inj (tPow.symm.trans ht);unfold Lib.TabIs;rw [dU,<-Lib.cells_of_tab underlying322 underlying259 WU Us hd]

end