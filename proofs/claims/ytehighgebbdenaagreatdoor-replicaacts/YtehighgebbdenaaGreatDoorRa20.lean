import Derived.Test.YtehighgebbdenaaGreatDoorRa12
import Derived.Test.YtehighgebbdenaaGreatDoorRa19
set_option linter.unusedVariables false
set_option maxRecDepth 100000
set_option maxHeartbeats 64000000
namespace Go.Proofs.YtehighgebbdenaaGreatDoor
open Go.Proofs.Tryz
variable {B a b i j k m n:Nat} {w:World}
section
open Go.RowKit Go.Shelf Go.Maps
theorem iF {P:Program} (w:World) (base:Nat) (t ty e:TypeId) (i:TypeInfo) (z:Value) (size bytes:Nat) (ht:P.underlying t=some (.slice e)) (hi:P.info? e=some i) (hz:i.zero=some z)
  (hsize:i.size=size) (hby:i.bytes=bytes) (hzs:z.cells.size=size) (hsz:0<size)
  (v:Value) (n:Nat) (xs:List Value) (hown:w.ownsRow base e size v n xs)
  (a:Addr) (m c:Nat) (hm0:0<m) (news:List Value) (hl:news.length=m*size) (hnews:∀j u,news[j]? =some u->w.cell? (a.add j)=some u) (h1:∀u∈news,u.oneCell'=true)
  (h63:n+m<=maxLen) (hbytes:(n+m)*bytes<=140737488355328) (hbase:base<=w.heap.size):
  ∃v' w',(Builtin.append_ #[t,t] ty #[v,.slice (some a) m c]).run P w= .ok v' w'/\w'.ownsRow base e size v' (n+m) (xs++news)/\w.grownBy w' v.ownBlock/\
   ((∃g cap,v= .slice (some ⟨g,0,none⟩) n cap/\v'= .slice (some ⟨g,0,none⟩) (n+m) cap)\/(v'.ownBlock=some w.heap.size/\w.grownBy w' none)):=by
 obtain ⟨v',w',hrun,h',hg',-⟩:=run_append_own (P:=P) w base t ty e i z size bytes ht hi hz hsize hby hzs hsz v n xs hown a m c news hl hnews h1 h63 hbytes hbase;refine ⟨v',w',hrun,h',hg',?_⟩;subst hsize;subst hby
 have hsmall:n+m<=9223372036854775807:=by simp only [maxLen] at h63;omega
 rcases hown.2 with ⟨rfl,rfl⟩ | ⟨g,cap,cur,rfl,hbg,hg,hnc,hcm,hcs,htake⟩
 ·have hr:=run_append_nil (P:=P) w t ty e i z ht hi hz a m c news hl hnews zo zo xO;exact kk0
 by_cases hroom:n+m<=cap
 ·have hfit:n*i.size+news.length<=cur.size:=by rw [hl,hcs,<-ZL];exact uO _ hroom
  have hr:=run_append_room (P:=P) w t ty e i ht hi g n cap cur hg a m c news hl hnews h1 hroom hfit;rw [hr] at hrun;simp only [Result.ok.injEq] at hrun;exact .inl ⟨g,cap,rfl,hrun.1.symm⟩
 have holds:∀j u,xs[j]? =some u->w.cell? ((⟨g,0,none⟩:Addr).add j)=some u:=hown.cells (g:=g) rfl;have hr:=run_append_grow (P:=P) w t ty e i z ht hi hz ⟨g,0,none⟩ n cap xs hown.1 holds a m c news hl hnews zo zo (growslice_fits zo hbytes);exact kk0
theorem sP {base g cap:Nat} {xs ys:List OpX} (h:w.ownsRow base 38 8 (.slice (some ⟨g,0,none⟩) m cap) m (cellsOf (xs++ys))) (hn:n=xs.length) (hm:m=n+ys.length):w.ownsRow base 38 8 (.slice (some ⟨g,0,none⟩) n cap) n (cellsOf xs):=by
 refine ⟨by rw [aH,hn],.inr ?_⟩
 rcases h.2 with ⟨h1,_⟩ | ⟨g',cap',cur,e,h1,h2,h3,h4,h5,h6⟩
 ·cases h1
 cases e
 refine ⟨g,cap,cur,rfl,h1,h2,zo,h4,h5,?_⟩;have:=congrArg (List.take (n*8)) h6;rw [List.take_take,Nat.min_eq_left zo,cM,uZ jr] at this;rw [this,uc jr]
theorem oy (w:World) (Bs g off cap:Nat) (ao:Option Addr) (L:List OpX) (hlen:L.length<=1000) (hao:L= []\/ao=some ⟨g,off,none⟩) (hBs:Bs<w.heap.size) (hg:g<w.heap.size) (hc:w.cell? ⟨Bs,0,none⟩=some (.slice ao L.length cap)) (hI:OpsRow w g off L):
  Calls prog 112 #[.func (.func 183) #[] #[.pointer (some ⟨Bs,0,none⟩)],.func (.func 114) #[] #[]] w fun e w'=>∃fa fc qs,e= .returned (.slice fa L.length fc)/\qs.Perm L/\qs.Pairwise (fun a b=>ar a<=ar b)/\OpsIn w' fa qs/\(∀a,fa=some a->w.heap.size<=a.block)/\Below w.heap.size w w':=by
 have hcl:=mr w Bs g off cap ao L hlen hao hBs hg hc hI;go_enter func112,ntmps112;go_wp2_with fail;refine hcl.mono ?_;clear hcl;rintro e w1 ⟨v,rfl,hown,hb⟩
 rcases hown.2 with ⟨rfl,h0⟩ | ⟨g',cap',cur,rfl,hbg,-⟩
 ·have hps:L= []:=uh.1 h0
  have HB:Aside (Below w.heap.size w w1/\L= []):=⟨hb,hps⟩
  clear hown hb hps h0;go_wp2_with (go_at_call 182;refine (tW none 0 _ _).mono ?_;rintro e w' ⟨rfl,rfl⟩);go_ret;exact ⟨none,0,[],by rw [HB.o.2];rfl,by rw [HB.o.2],List.Pairwise.nil,.inl rfl,fun a e=>absurd e zv,HB.o.1⟩
 have hs:=Kk w1 w.heap.size g' cap' L hown zo;have hgl:=(hown.lt g' rfl).2
 have HH:Aside (Below w.heap.size w w1/\w.heap.size<=g'/\g'<w1.heap.size):=⟨hb,hbg,hgl⟩
 clear hown hb hbg hgl;go_wp2_with fail;refine hs.mono ?_;clear hs;rintro e w2 ⟨rfl,qs,hp,hpw,hcells,hk⟩
 have H2:Aside (qs.Perm L/\qs.Pairwise (fun a b=>ar a<=ar b)/\OpsIn w2 (some ⟨g',0,none⟩) qs/\Below w.heap.size w w2):=⟨hp,hpw,.inr ⟨g',0,rfl,fun j u hj=>by rw [vY];exact hcells j u hj⟩,HH.o.1.trans (hk.below HH.o.1.size (fun k e=>by have:=HH.o.2.1;omega))⟩
 clear hp hpw hcells hk;go_wp2;go_ret;exact ⟨_,_,qs,rfl,H2.o.1,H2.o.2.1,H2.o.2.2.1,fun a e=>by cases e;exact HH.o.2.1,H2.o.2.2.2⟩
theorem FreshK.perm {S F G:List OpX} (h:FreshK S F) (e:G.Perm F):FreshK S G:=
 ⟨fun x hx=>h.ok x (e.mem_iff.1 hx),fun x hx=>h.off x (e.mem_iff.1 hx),(e.pairwise_iff (fun {a b} h q=>h ⟨q.1.symm,q.2.symm⟩)).2 h.one⟩
end
section
open Go.Sort
section
variable {β:Type} (lt:β→β→Bool)
def slt (x y:β×Nat):Bool:=lt x.1 y.1 ||(!lt y.1 x.1 &&decide (x.2<y.2))
def tlt (x y:β×Nat):Bool:=lt x.1 y.1
end
section
variable {β:Type} {lt:β→β→Bool}
theorem slt_false {x y:β×Nat} :slt lt x y=false↔lt x.1 y.1=false/\(lt y.1 x.1=true\/y.2<=x.2):=by
 unfold slt
 cases h1:lt x.1 y.1<;>cases h2:lt y.1 x.1<;>simp
theorem fN (h:SWO lt):SWO (slt lt) where
 irrefl x:=by rw [slt_false];exact ⟨h.irrefl _,.inr zg⟩
 trans x y z h1 h2:=by
  have a1:¬slt lt x y=false:=by rw [h1];simp
  have a2:¬slt lt y z=false:=by rw [h2];simp
  rw [<-Bool.not_eq_false,slt_false];rw [slt_false] at a1 a2;rintro ⟨b1,b2⟩
  cases xy:lt x.1 y.1 with
  | true=>
   cases yz:lt y.1 z.1 with
   | true=>rw [h.trans _ _ _ xy yz] at b1;cases b1
   | false=>
    cases zy:lt z.1 y.1 with
    | true=>exact a2 ⟨yz,.inl zy⟩
    | false=>rw [h.ntrans _ _ _ b1 zy] at xy;cases xy
  | false=>
   cases yx:lt y.1 x.1 with
   | true=>exact a1 ⟨xy,.inl yx⟩
   | false=>
    have n1:¬y.2<=x.2:=fun e=>a1 ⟨xy,.inr e⟩
    cases yz:lt y.1 z.1 with
    | true=>rw [h.ntrans _ _ _ yx b1] at yz;cases yz
    | false=>
     cases zy:lt z.1 y.1 with
     | true=>exact a2 ⟨yz,.inl zy⟩
     | false=>
      have n2:¬z.2<=y.2:=fun e=>a2 ⟨yz,.inr e⟩
      rcases b2 with b2 | b2
      ·rw [h.ntrans _ _ _ zy yx] at b2;cases b2
      omega
 ntrans x y z h1 h2:=by
  rw [slt_false] at*;obtain ⟨xy,a1⟩:=h1;obtain ⟨yz,a2⟩:=h2;refine ⟨h.ntrans _ _ _ xy yz,?_⟩
  cases zx:lt z.1 x.1 with
  | true=>exact .inl rfl
  | false=>
   refine .inr ?_
   rcases a1 with yx | e1
   ·rw [h.ntrans _ _ _ yz zx] at yx;cases yx
   rcases a2 with zy | e2
   ·rw [h.ntrans _ _ _ zx xy] at zy;cases zy
   omega
theorem eO {x y:β×Nat} (h:y.2<x.2):slt lt x y=tlt lt x y:=by
 unfold slt tlt;have:decide (x.2<y.2)=false:=zr;simp [this]
theorem iQ (h:SWO lt) {x y:β×Nat} (hx:slt lt x y=true):slt lt y x=false:=(fN h).asymmA hx
end
section
variable {β:Type} [Inhabited β] {lt:β→β→Bool}
theorem iy (a:Nat):∀(j:Nat) (d:Array (β×Nat)),j<d.size->(∀p,a<=p->p<j->d[p]!.2<d[j]!.2)->insInner (tlt lt) a j d=insInner (slt lt) a j d
 | 0,d,_,_=>rfl
 | j+1,d,hj,h=>by
  unfold insInner;by_cases ha:a<j+1
  ·have e:slt lt d[j+1]! d[j]! =tlt lt d[j+1]! d[j]! :=eO (h j zo zo);rw [e];split
   ·refine iy a j _ (by rw [swp_size];omega) ?_;intro p hp hpj;rw [swp_get d hj zo,swp_get d hj zo];rw [if_neg zo,if_neg zo,if_pos rfl];exact h p hp zo
   rfl
  have e:decide (j+1>a)=false:=zr;simp [e]
theorem ll {α:Type} [Inhabited α] (lt:α->α->Bool) (a b i:Nat) (d:Array α) (h:i<b):insOuter lt a b i d=insOuter lt a b (i+1) (insInner lt a i d):=by
 rw [insOuter,if_pos h]
theorem iC (hS:SWO lt) (a b:Nat):∀(n i:Nat) (d:Array (β×Nat)),b - i=n->a<i->i<=b->b<=d.size->SortedIn (slt lt) a i d->(∀p q,a<=p->p<q->i<=q->q<b->d[p]!.2<d[q]!.2)->insOuter (tlt lt) a b i d=insOuter (slt lt) a b i d
 | 0,i,d,hn,_,hib,_,_,_=>by
  obtain rfl:i=b:=zo;rw [insOuter,if_neg zo,insOuter,if_neg zo]
 | n+1,i,d,hn,hai,hib,hb,hs,ht=>by
  have hlt:i<b:=zo;rw [ll _ _ _ _ _ hlt,ll _ _ _ _ _ hlt,iy a i d zo (fun p hp hpi=>ht p i hp hpi zg hlt)];have h1:=insInner_spec (fN hS) swp_permIn permIn_refl permIn_trans a (i+1) i (Nat.lt_succ_self _) i d zo zg zo ⟨fun p q hap hpq hqi _ hq=>hs p q hap hpq zo,fun q h1 h2=>zo⟩;refine iC hS a b n (i+1) _ zo zo zo (by rw [h1.1.1];exact hb) h1.2 ?_;intro p q hap hpq hiq hqb;rw [h1.1.2.1 q (.inr zo)];by_cases hp:p<i+1
  ·exact permIn_all d _ a (i+1) (fun x=>x.2<d[q]!.2) zo h1.1 (fun r h1 h2=>ht r q h1 zo zo hqb) p hap hp
  rw [h1.1.2.1 p (.inr zo)];exact ht p q hap hpq zo hqb
theorem Ap (hS:SWO lt) (d:Array (β×Nat)) (a b:Nat) (hab:a<=b) (hb:b<=d.size) (ht:∀p q,a<=p->p<q->q<b->d[p]!.2<d[q]!.2):
  PermIn a b d (insertionSort (tlt lt) d a b)/\SortedIn (slt lt) a b (insertionSort (tlt lt) d a b):=by
 have h:=insertionSort_holds (fN hS) d a b hab hb
 have e:insertionSort (tlt lt) d a b=insertionSort (slt lt) d a b:=by
  unfold insertionSort;by_cases h1:a=b
  ·subst h1;rw [insOuter,if_neg zo,insOuter,if_neg zo]
  exact iC hS a b _ (a+1) d rfl zo zo hb (fun i j h1 h2 h3=>zo) (fun p q h1 h2 _ h3=>ht p q h1 h2 h3)
 rw [e];exact h
end
def cB (s m e k:Nat):Nat:=if s<=k/\k<s+(e - m) then k+(m - s) else if s+(e - m)<=k/\k<e then k - (e - m) else k
section
variable {α:Type} [Inhabited α]
structure Rot (d d':Array α) (s m e:Nat):Prop where
 perm:PermIn s e d d'
 at_:∀k,d'[k]! =d[cB s m e k]!
structure Exch (d d':Array α) (a b n:Nat):Prop where
 size:d'.size=d.size
 at_:∀k,d'[k]! =d[if a<=k/\k<a+n then k+b - a else if b<=k/\k<b+n then k+a - b else k]!
 perm:∀lo hi,lo<=a->a+n<=hi->lo<=b->b+n<=hi->hi<=d.size->PermIn lo hi d d'
theorem Exch.zero (d:Array α) (a b:Nat):Exch d d a b 0:=
 ⟨rfl,fun k=>by rw [if_neg zo,if_neg zo],fun lo hi _ _ _ _ _=>permIn_refl d lo hi⟩
theorem Exch.next {d d':Array α} (h:Exch d d' a b n) (hab:a+n<b) (hb:b+n<d.size):Exch d (swp d' (a+n) (b+n)) a b (n+1):=by
 refine ⟨by rw [swp_size,h.size],fun k=> ?_,fun lo hi h1 h2 h3 h4 h5=> ?_⟩
 ·rw [swp_get d' jV jV];rw [h.at_,h.at_,h.at_];by_cases k1:k=b+n
  ·subst k1;rw [if_pos rfl];congr 1
   repeat' split
   all_goals omega
  rw [if_neg k1];by_cases k2:k=a+n
  ·subst k2;rw [if_pos rfl];congr 1
   repeat' split
   all_goals omega
  rw [if_neg k2];congr 1
  repeat' split
  all_goals omega
 have p1:=h.perm lo hi h1 zo h3 zo h5;exact permIn_trans _ _ _ lo hi p1 (swp_permIn d' lo hi (a+n) (b+n) zo zo zo zo jV)
theorem Rot.left {d d1 d2:Array α} (him:i<=m) (hij:j<i) (hsz:m+j<=d.size) (h1:Exch d d1 (m - i) m j) (h2:Rot d1 d2 (m - (i - j)) m (m+j)):Rot d d2 (m - i) m (m+j):=by
 refine ⟨?_,fun k=> ?_⟩
 ·have p1:=h1.perm (m - i) (m+j) zo zo zo zo hsz;exact permIn_trans _ _ _ _ _ p1 (permIn_mono d1 d2 _ _ _ _ zo zg (by rw [h1.size];exact hsz) h2.perm)
 rw [h2.at_,h1.at_];congr 1;unfold cB
 repeat' split
 all_goals omega
theorem Rot.right {d d1 d2:Array α} (him:i<=m) (hij:i<j) (hsz:m+j<=d.size) (h1:Exch d d1 (m - i) (m+j - i) i) (h2:Rot d1 d2 (m - i) m (m+(j - i))):Rot d d2 (m - i) m (m+j):=by
 refine ⟨?_,fun k=> ?_⟩
 ·have p1:=h1.perm (m - i) (m+j) zo zo zo zo hsz;exact permIn_trans _ _ _ _ _ p1 (permIn_mono d1 d2 _ _ _ _ zg zo (by rw [h1.size];exact hsz) h2.perm)
 rw [h2.at_,h1.at_];congr 1;unfold cB
 repeat' split
 all_goals omega
theorem Rot.both {d d1:Array α} (him:i<=m) (hsz:m+i<=d.size) (h1:Exch d d1 (m - i) m i):Rot d d1 (m - i) m (m+i):=by
 refine ⟨h1.perm (m - i) (m+i) zo zo zo zo hsz,fun k=> ?_⟩;rw [h1.at_];congr 1;unfold cB
 repeat' split
 all_goals omega
theorem Rot.none (d:Array α) (s m e:Nat) (hs:s<=m) (he:m<=e) (h:s=m\/m=e):Rot d d s m e:=by
 refine ⟨permIn_refl d s e,fun k=> ?_⟩;congr 1;unfold cB
 repeat' split
 all_goals omega
theorem Rot.up {d d':Array α} (h:Rot d d' a (a+1) (k+1)) (hak:a<=k) (hk:k+1<d.size):Rot d (swp d' k (k+1)) a (a+1) (k+2):=by
 have hs:d'.size=d.size:=h.perm.1;refine ⟨permIn_trans _ _ _ _ _ (permIn_mono d d' _ _ _ _ zg zo zo h.perm) (swp_permIn d' a (k+2) k (k+1) hak zo zo zo zo),fun x=> ?_⟩;rw [swp_get d' zo zo,h.at_,h.at_,h.at_];by_cases x1:x=k+1
 ·subst x1;rw [if_pos rfl];congr 1;unfold cB
  repeat' split
  all_goals omega
 rw [if_neg x1];by_cases x2:x=k
 ·subst x2;rw [if_pos rfl];congr 1;unfold cB
  repeat' split
  all_goals omega
 rw [if_neg x2];congr 1;unfold cB
 repeat' split
 all_goals omega
theorem Rot.down {d d':Array α} (h:Rot d d' (k+1) m (m+1)) (hkm:k+1<=m) (hm:m<d.size):Rot d (swp d' (k+1) k) k m (m+1):=by
 have hs:d'.size=d.size:=h.perm.1;refine ⟨permIn_trans _ _ _ _ _ (permIn_mono d d' _ _ _ _ zo zg zo h.perm) (swp_permIn d' k (m+1) (k+1) k zo zo zo zo zo),fun x=> ?_⟩;rw [swp_get d' zo zo,h.at_,h.at_,h.at_];by_cases x1:x=k
 ·subst x1;rw [if_pos rfl];congr 1;unfold cB
  repeat' split
  all_goals omega
 rw [if_neg x1];by_cases x2:x=k+1
 ·subst x2;rw [if_pos rfl];congr 1;unfold cB
  repeat' split
  all_goals omega
 rw [if_neg x2];congr 1;unfold cB
 repeat' split
 all_goals omega
end
section
variable {β:Type} [Inhabited β] {lt:β→β→Bool}
structure Runs (lt:β->β->Bool) (a m b:Nat) (d:Array (β×Nat)):Prop where
 one:SortedIn (slt lt) a m d
 two:SortedIn (slt lt) m b d
 tag:∀p q,a<=p->p<m->m<=q->q<b->d[p]!.2<d[q]!.2
theorem Runs.le_one {d:Array (β×Nat)} (hS:SWO lt) (h:Runs lt a m b d) (hi:a<=i) (hij:i<=j) (hj:j<m):slt lt d[j]! d[i]! =false:=by
 by_cases e:i=j
 ·subst e;exact (fN hS).irrefl _
 exact h.one i j hi zo hj
theorem Runs.le_two {d:Array (β×Nat)} (hS:SWO lt) (h:Runs lt a m b d) (hi:m<=i) (hij:i<=j) (hj:j<b):slt lt d[j]! d[i]! =false:=by
 by_cases e:i=j
 ·subst e;exact (fN hS).irrefl _
 exact h.two i j hi zo hj
theorem Runs.cut (hS:SWO lt) {s e:Nat} {d d':Array (β×Nat)} (h:Runs lt a m b d) (h1:a<=s) (h2:s<=m) (h3:m<=e) (h4:e<=b)
  (hlo:a<s->e<b->tlt lt d[e]! d[s - 1]! =false) (hhi:s<m->m<e->tlt lt d[e - 1]! d[s]! =true) (hR:Rot d d' s m e):
  Runs lt a s (s+(e - m)) d'/\Runs lt (s+(e - m)) e b d'/\∀p q,a<=p->p<s+(e - m)->s+(e - m)<=q->q<b->slt lt d'[q]! d'[p]! =false:=by
 have W:=fN hS
 have lo:a<s->e<b->slt lt d[e]! d[s - 1]! =false:=fun x y=>by rw [eO (h.tag (s - 1) e zo zo h3 y)];exact hlo x y
 have hi:s<m->m<e->slt lt d[s]! d[e - 1]! =false:=fun x y=>iQ hS (by rw [eO (h.tag s (e - 1) h1 x zo zo)];exact hhi x y)
 have g:=hR.at_;refine ⟨⟨?_,?_,?_⟩,⟨?_,?_,?_⟩,?_⟩
 ·intro i j hi hij hj;rw [g,g,cB,if_neg zo,if_neg zo,cB,if_neg zo,if_neg zo];exact h.one i j hi hij zo
 ·intro i j hi hij hj;rw [g,g,cB,if_pos zo,cB,if_pos zo];exact kk3
 ·intro p q hp hps hq hqb;rw [g,g,cB,if_neg zo,if_neg zo,cB,if_pos zo];exact h.tag _ _ hp zo zo zo
 ·intro i j hi hij hj;rw [g,g,cB,if_neg zo,if_pos zo,cB,if_neg zo,if_pos zo];exact km2
 ·intro i j hi hij hj;rw [g,g,cB,if_neg zo,if_neg zo,cB,if_neg zo,if_neg zo];exact kk3
 ·intro p q hp hps hq hqb;rw [g,g,cB,if_neg zo,if_pos zo,cB,if_neg zo,if_neg zo];exact h.tag _ _ zo zo zo zo
 intro p q hp hpm hq hqb;rw [g,g];by_cases c1:p<s
 ·rw [show cB s m e p=p by rw [cB,if_neg zo,if_neg zo]];by_cases c2:q<e
  ·rw [show cB s m e q=q - (e - m) by rw [cB,if_neg zo,if_pos zo]];exact h.one _ _ hp zo zo
  rw [show cB s m e q=q by rw [cB,if_neg zo,if_neg zo]];have x1:=h.le_two hS (i:=e) (j:=q) zo zo hqb;have x2:=lo zo zo;have x3:=h.le_one hS (i:=p) (j:=s - 1) hp zo zo;exact W.ntrans _ _ _ x1 (W.ntrans _ _ _ x2 x3)
 rw [show cB s m e p=p+(m - s) by rw [cB,if_pos zo]];by_cases c2:q<e
 ·rw [show cB s m e q=q - (e - m) by rw [cB,if_neg zo,if_pos zo]];have x1:=h.le_one hS (i:=s) (j:=q - (e - m)) zo zo zo;have x2:=hi zo zo;have x3:=h.le_two hS (i:=p+(m - s)) (j:=e - 1) zo zo zo;exact W.ntrans _ _ _ x1 (W.ntrans _ _ _ x2 x3)
 rw [show cB s m e q=q by rw [cB,if_neg zo,if_neg zo]];exact h.two _ _ zo zo hqb
theorem Runs.sorted {d:Array (β×Nat)} (h:Runs lt a m b d) (he:a=m\/m=b):SortedIn (slt lt) a b d:=by
 rcases he with rfl | rfl
 ·exact h.two
 exact h.one
theorem eP {c:Nat} {d d1 d2:Array (β×Nat)} (hac:a<=c) (hcb:c<=b) (hb:b<=d.size) (hx:∀p q,a<=p->p<c->c<=q->q<b->slt lt d[q]! d[p]! =false)
  (p1:PermIn a c d d1) (s1:SortedIn (slt lt) a c d1) (p2:PermIn c b d1 d2) (s2:SortedIn (slt lt) c b d2):PermIn a b d d2/\SortedIn (slt lt) a b d2:=by
 refine ⟨permIn_trans _ _ _ _ _ (permIn_mono d d1 _ _ _ _ zg hcb hb p1) (permIn_mono d1 d2 _ _ _ _ hac zg (by rw [p1.1];exact hb) p2),fun i j hi hij hj=> ?_⟩;by_cases h1:j<c
 ·rw [p2.2.1 i (.inl zo),p2.2.1 j (.inl h1)];exact s1 i j hi hij h1
 by_cases h2:c<=i
 ·exact s2 i j h2 hij hj
 rw [p2.2.1 i (.inl zo)]
 have q1:∀q,c<=q->q<b->slt lt d2[q]! d1[i]! =false:=by
  refine permIn_all d1 d2 c b (fun x=>slt lt x d1[i]! =false) (by rw [p1.1];exact hb) p2 ?_;intro q hq hqb;rw [p1.2.1 q (.inr hq)];exact permIn_all d d1 a c (fun x=>slt lt d[q]! x=false) zo p1 (fun r hr hrc=>hx r q hr hrc hq hqb) i hi zo
 exact q1 j zo hj
theorem Runs.first (hS:SWO lt) {d d':Array (β×Nat)} (h:Runs lt a (a+1) b d) (h1:a+1<=i) (h2:i<=b)
  (hlo:a+1<i->tlt lt d[i - 1]! d[a]! =true) (hhi:i<b->tlt lt d[i]! d[a]! =false) (hR:Rot d d' a (a+1) i):SortedIn (slt lt) a b d':=by
 have W:=fN hS
 have lo:a+1<i->slt lt d[a]! d[i - 1]! =false:=fun x=>iQ hS (by rw [eO (h.tag a (i - 1) zo zo zo zo)];exact hlo x)
 have hi:i<b->slt lt d[i]! d[a]! =false:=fun x=>by rw [eO (h.tag a i zo zo h1 x)];exact hhi x
 have g:=hR.at_;intro p q hp hpq hq;rw [g,g];by_cases c1:q<i - 1
 ·rw [cB,if_pos zo,cB,if_pos zo];exact kk3
 by_cases c2:q=i - 1
 ·rw [show cB a (a+1) i q=a by rw [cB,if_neg zo,if_pos zo];omega,cB,if_pos zo];have x1:=lo zo;have x2:=h.le_two hS (i:=p+(a+1 - a)) (j:=i - 1) zo zo zo;exact W.ntrans _ _ _ x1 x2
 rw [show cB a (a+1) i q=q by rw [cB,if_neg zo,if_neg zo]];by_cases c3:p<i - 1
 ·rw [cB,if_pos zo];exact kk3
 by_cases c4:p=i - 1
 ·rw [show cB a (a+1) i p=a by rw [cB,if_neg zo,if_pos zo];omega];have x1:=h.le_two hS (i:=i) (j:=q) zo zo zo;exact W.ntrans _ _ _ x1 (hi zo)
 rw [show cB a (a+1) i p=p by rw [cB,if_neg zo,if_neg zo]];exact kk3
theorem Runs.last (hS:SWO lt) {d d':Array (β×Nat)} (h:Runs lt a m (m+1) d) (h1:a<=i) (h2:i<=m)
  (hlo:a<i->tlt lt d[m]! d[i - 1]! =false) (hhi:i<m->tlt lt d[m]! d[i]! =true) (hR:Rot d d' i m (m+1)):SortedIn (slt lt) a (m+1) d':=by
 have W:=fN hS
 have lo:a<i->slt lt d[m]! d[i - 1]! =false:=fun x=>by rw [eO (h.tag (i - 1) m zo zo zo zo)];exact hlo x
 have hi:i<m->slt lt d[i]! d[m]! =false:=fun x=>iQ hS (by rw [eO (h.tag i m h1 x zo zo)];exact hhi x)
 have g:=hR.at_;intro p q hp hpq hq;rw [g,g];by_cases c1:q<i
 ·rw [cB,if_neg zo,if_neg zo,cB,if_neg zo,if_neg zo];exact km2
 by_cases c2:q=i
 ·rw [show cB i m (m+1) q=m by rw [cB,if_pos zo];omega,show cB i m (m+1) p=p by rw [cB,if_neg zo,if_neg zo]];have x2:=h.le_one hS (i:=p) (j:=i - 1) zo zo zo;exact W.ntrans _ _ _ (lo zo) x2
 rw [show cB i m (m+1) q=q - 1 by rw [cB,if_neg zo,if_pos zo];omega];by_cases c3:p<i
 ·rw [show cB i m (m+1) p=p by rw [cB,if_neg zo,if_neg zo]];exact km2
 by_cases c4:p=i
 ·rw [show cB i m (m+1) p=m by rw [cB,if_pos zo];omega];have x1:=h.le_one hS (i:=i) (j:=q - 1) zo zo zo;exact W.ntrans _ _ _ x1 (hi zo)
 rw [show cB i m (m+1) p=p - 1 by rw [cB,if_neg zo,if_pos zo];omega];exact km2
end
section
variable {β:Type} [Inhabited β] {lt:β→β→Bool}
def Ln (B i j:Nat):Prop:=∀c,c*B<=j->c*B<=i
structure Blocks (lt:β->β->Bool) (B a n:Nat) (d:Array (β×Nat)):Prop where
 tag:∀p,p<n->∀c,c*B<=p↔c*B<=d[p]!.2
 done:∀i j,i<j->j<a->Ln B i j->slt lt d[j]! d[i]! =false
structure Half (lt:β->β->Bool) (B a n:Nat) (d:Array (β×Nat)):Prop where
 tag:∀p,p<n->∀c,c*(2*B)<=p↔c*(2*B)<=d[p]!.2
 tag1:∀p,a<=p->p<n->∀c,c*B<=p↔c*B<=d[p]!.2
 done:∀i j,i<j->j<a->Ln (2*B) i j->slt lt d[j]! d[i]! =false
 rest:∀i j,a<=i->i<j->j<n->Ln B i j->slt lt d[j]! d[i]! =false
theorem Blocks.half {d:Array (β×Nat)} (h:Blocks lt B n n d):Half lt B 0 n d:=by
 refine ⟨fun p hp c=> ?_,fun p _ hp c=>h.tag p hp c,fun i j _ hj=>zo,fun i j _ hij hj hs=>h.done i j hij hj hs⟩
 have e:c*(2*B)=(c*2)*B:=by rw [Nat.mul_assoc]
 rw [e];exact h.tag p hp _
theorem Half.runs {c:Nat} {d:Array (β×Nat)} (h:Half lt B a n d) (ha:a=c*(2*B)) (hm:m=a+B) (hmb:m<=b) (hb:b<=a+2*B) (hbn:b<=n):Runs lt a m b d:=by
 have e1:(2*c)*B=a:=by rw [ha,Nat.mul_comm 2 c,Nat.mul_assoc]
 have e2:(2*c+1)*B=m:=by rw [ZL,e1,hm];omega
 have e3:(2*c+2)*B=a+2*B:=by rw [ZL,e1]
 have up:∀x y,x<=y->x*B<=y*B:=fun x y hxy=>uO B hxy
 refine ⟨fun i j hi hij hj=>h.rest i j hi hij zo (fun x hx=> ?_),fun i j hi hij hj=>h.rest i j zo hij zo (fun x hx=> ?_),fun p q hp hpm hq hqb=> ?_⟩
 ·by_cases hx1:x<=2*c
  ·have:=up _ _ hx1;omega
  have:=up (2*c+1) x zo;omega
 ·by_cases hx1:x<=2*c+1
  ·have:=up _ _ hx1;omega
  have:=up (2*c+2) x zo;omega
 have h1:¬(2*c+1)*B<=d[p]!.2:=fun hx=>by have:=(h.tag1 p hp zo (2*c+1)).2 hx;omega
 have h2:=(h.tag1 q zo zo (2*c+1)).1 zo;omega
theorem Half.step {c:Nat} {d d':Array (β×Nat)} (h:Half lt B a n d) (hn:n=d.size) (ha:a=c*(2*B)) (hab:a<=b) (hbn:b<=n) (hb:b=a+2*B\/b=n/\n<=a+2*B) (hp:PermIn a b d d') (hs:SortedIn (slt lt) a b d'):Half lt B b n d':=by
 have e3:(c+1)*(2*B)=a+2*B:=by rw [ZL,ha];omega
 have up:∀x y,x<=y->x*(2*B)<=y*(2*B):=fun x y hxy=>uO _ hxy
 refine ⟨fun p hpn x=> ?_,fun p hbp hpn x=> ?_,fun i j hij hj hsm=> ?_,fun i j hi hij hj hsm=> ?_⟩
 ·by_cases h1:a<=p/\p<b
  ·have key:∀q,a<=q->q<b->(x*(2*B)<=d'[q]!.2↔x<=c):=by
    refine permIn_all d d' a b (fun y=>x*(2*B)<=y.2↔x<=c) zo hp ?_;intro q hq hqb;rw [<-h.tag q zo x];constructor
    ·intro hx
     rcases uJ c x with hc | hc
     ·have:=up (c+1) x hc;omega
     exact hc
    exact kt1
   rw [key p h1.1 h1.2];constructor
   ·intro hx
    rcases uJ c x with hc | hc
    ·have:=up (c+1) x hc;omega
    exact hc
   exact kt1
  rw [hp.2.1 p zo];exact h.tag p hpn x
 ·rw [hp.2.1 p (.inr hbp)];exact h.tag1 p zo hpn x
 ·by_cases h1:j<a
  ·exact kr8
  have:=hsm c zo;exact hs i j zo hij hj
 rw [hp.2.1 i (.inr zo),hp.2.1 j (.inr zo)];exact h.rest i j zo hij hj hsm
theorem Half.end_ {c:Nat} {d:Array (β×Nat)} (h:Half lt B a n d) (ha:a=c*(2*B)) (hB:n<=a+B):Blocks lt (2*B) n n d:=by
 refine ⟨h.tag,fun i j hij hj hsm=> ?_⟩;by_cases h1:j<a
 ·exact h.done i j hij h1 hsm
 have:=hsm c zo;refine h.rest i j zo hij hj (fun x hx=> ?_)
 have e1:(2*c)*B=a:=by rw [ha,Nat.mul_comm 2 c,Nat.mul_assoc]
 have e2:(2*c+1)*B=a+B:=by rw [ZL,e1];omega
 by_cases hx1:x<=2*c
 ·have:x*B<=(2*c)*B:=uO B hx1;omega
 have:(2*c+1)*B<=x*B:=uO B zo;omega
theorem Half.end_all {d:Array (β×Nat)} (h:Half lt B n n d):Blocks lt (2*B) n n d:=⟨h.tag,h.done⟩
theorem Blocks.step {c:Nat} {d d':Array (β×Nat)} (h:Blocks lt B a n d) (hn:n=d.size) (ha:a=c*B) (hbn:b<=n) (hb:b=a+B\/b=n/\n<=a+B) (hp:PermIn a b d d') (hs:SortedIn (slt lt) a b d'):Blocks lt B b n d':=by
 have e3:(c+1)*B=a+B:=by rw [ZL,ha];omega
 have up:∀x y,x<=y->x*B<=y*B:=fun x y hxy=>uO _ hxy
 refine ⟨fun p hpn x=> ?_,fun i j hij hj hsm=> ?_⟩
 ·by_cases h1:a<=p/\p<b
  ·have key:∀q,a<=q->q<b->(x*B<=d'[q]!.2↔x<=c):=by
    refine permIn_all d d' a b (fun y=>x*B<=y.2↔x<=c) zo hp ?_;intro q hq hqb;rw [<-h.tag q zo x];constructor
    ·intro hx
     rcases uJ c x with hc | hc
     ·have:=up (c+1) x hc;omega
     exact hc
    exact kt1
   rw [key p h1.1 h1.2];constructor
   ·intro hx
    rcases uJ c x with hc | hc
    ·have:=up (c+1) x hc;omega
    exact hc
   exact kt1
  rw [hp.2.1 p zo];exact h.tag p hpn x
 by_cases h1:j<a
 ·exact kr8
 have:=hsm c zo;exact hs i j zo hij hj
theorem Blocks.all {d:Array (β×Nat)} (h:Blocks lt B n n d) (hn:n<=B):SortedIn (slt lt) 0 n d:=fun i j _ hij hj=>h.done i j hij hj fun c hc=>by
 cases c with
 | zero=>simp
 | succ c=>
  have:1*B<=(c+1)*B:=uO B zo;omega
end
section
variable {β:Type} {lt:β→β→Bool}
theorem Fc (hS:SWO lt) (l:List (β×Nat)) (x:β×Nat) (k:Nat) (hk:k<=l.length) (hl:l.Pairwise (fun u v=>slt lt v u=false)) (ht:∀u∈l,u.2<x.2)
  (h1:∀u,l[k - 1]? =some u->0<k->lt x.1 u.1=false) (h2:∀u∈l.drop k,lt x.1 u.1=true):(l.take k++x::l.drop k).Pairwise (fun u v=>slt lt v u=false):=by
 have W:=fN hS;have hl':=hl;rw [<-ur k l,uY] at hl';obtain ⟨p1,p2,p3⟩:=hl';refine uY.2 ⟨p1,uC.2 ⟨fun v hv=> ?_,p2⟩,fun u hu v hv=> ?_⟩
 ·refine iQ hS ?_;unfold slt;rw [h2 v hv];rfl
 rcases vT.1 hv with rfl | hv
 ·have hk0:0<k:=by
   rcases ZK k with e | e
   ·subst e;simp at hu
   exact e
  have hlt:k - 1<l.length:=zo;have e1:=h1 l[k - 1] (vN hlt) hk0
  have e2:slt lt v l[k - 1]=false:=by
   rw [eO (ht _ (uR hlt))];exact e1
  obtain ⟨i,hi,rfl⟩:=uN hu;rw [ug] at hi;rw [ZG];by_cases e:i=k - 1
  ·subst e;exact e2
  exact W.ntrans _ _ _ e2 (ud.1 hl i (k - 1) zo hlt zo)
 exact p3 u hu v hv
theorem tJ {β:Type} [Inhabited β] {lt:β->β->Bool} (d:Array (β×Nat)) (h:SortedIn (slt lt) 0 d.size d):d.toList.Pairwise (fun u v=>slt lt v u=false):=by
 rw [ud];intro i j hi hj hij;have:=h i j (vV _) hij yO;rw [getElem!_pos d i qG,getElem!_pos d j yO] at this;simpa using this
end
end
section
open Go.Shelf Go.RowKit Go.Lib Go.Sort
def lW (x:OpX×Nat):List Value:=au x.1
theorem Gd (x:OpX×Nat):(lW x).length=8:=rfl
theorem fP (x:OpX×Nat):∀v∈lW x,v.oneCell'=true:=by
 intro v hv;simp [lW,au] at hv;exact km7
def ltX (x y:OpX):Bool:=bL x.1 x.2.1 y.1 y.2.1
def IQ (x y:OpX×Nat):Int:=if ltX x.1 y.1 then -1 else if ltX y.1 x.1 then 1 else 0
theorem Ef (x y:OpX×Nat):decide (IQ x y<0)=tlt ltX x y:=by
 unfold IQ tlt
 cases h:ltX x.1 y.1 with
 | true=>rfl
 | false=>
  simp only [Bool.false_eq_true,if_false];split<;>rfl
theorem Cy:ltOf IQ=tlt ltX:=by
 funext x y;exact Ef x y
theorem wD (t b t' b':Int):bL t b t' b'=decide (t<t'\/(t=t'/\b<b')):=by
 unfold bL;by_cases h:t=t'
 ·subst h;simp
 rw [if_neg h];simp [h]
theorem tG:SWO ltX where
 irrefl x:=by unfold ltX;rw [wD];simp
 trans x y z h1 h2:=jt
 ntrans x y z h1 h2:=jt
theorem dw {w1 w2:World} (h1:∃q os,w1=grow (w.drewN q) os) (h2:∃q os,w2=grow (w1.drewN q) os):∃q os,w2=grow (w.drewN q) os:=by
 obtain ⟨q,os,rfl⟩:=h1;obtain ⟨q',os',rfl⟩:=h2;exact ⟨q+q',os++os',by rw [<-grow_grow,<-World.drewN_drewN];rfl⟩
theorem Eh (t b t' b':Int) (w:World):
  Calls prog 115 #[.agg #[.int .i64 t,.int .i64 b],.agg #[.int .i64 t',.int .i64 b']] w fun e w'=>e= .returned (.bool (bL t b t' b'))/\∃q os,w'=grow (w.drewN q) os:=by
 unfold bL;by_cases h:t=t'
 ·have hd:(t !=t')=false:=by simp [h]
  rw [if_pos h];clear h;go_enter func115,ntmps115;go_wp2;exact kf3
 have hd:(t !=t')=true:=xQ;rw [if_neg h];clear h;go_enter func115,ntmps115;go_wp2;exact kf3
theorem gj (t b t' b':Int) (z:Bool) (w:World) (hz:bL t b t' b'=z):
  Calls prog 115 #[.agg #[.int .i64 t,.int .i64 b],.agg #[.int .i64 t',.int .i64 b']] w fun e w'=>e= .returned (.bool z)/\∃q os,w'=grow (w.drewN q) os:=by rw [<-hz];exact Eh t b t' b' w
theorem aI {w':World} (h:∃q os,w'=grow (w.drewN q) os):Below w.heap.size w w':=by
 obtain ⟨q,os,rfl⟩:=h;exact Lib.below_grow _ _ zg _ _
theorem tn (x y:OpX×Nat) (w:World):
  Calls prog 121 #[.agg (lW x).toArray,.agg (lW y).toArray] w fun e w'=>e= .returned (.int .i64 (IQ x y))/\∃q os,w'=grow (w.drewN q) os:=by
 obtain ⟨⟨t,b,n,k,node,other,name,value⟩,i⟩:=x;obtain ⟨⟨t',b',n',k',node',other',name',value'⟩,i'⟩:=y
 have hg:∃q os,((w.alloc (.cells #[.int .i64 t,.int .i64 b,.int .i64 n,.int .u8 (k:Int),.int .i64 node,.int .i64 other,.string name,.string value] 38)).alloc (.cells #[.int .i64 t',.int .i64 b',.int .i64 n',.int .u8 (k':Int),.int .i64 node',.int .i64 other',.string name',.string value'] 38))=grow (w.drewN q) os:=⟨0,_,jA⟩
 have c0:((w.alloc (.cells #[.int .i64 t,.int .i64 b,.int .i64 n,.int .u8 (k:Int),.int .i64 node,.int .i64 other,.string name,.string value] 38)).alloc (.cells #[.int .i64 t',.int .i64 b',.int .i64 n',.int .u8 (k':Int),.int .i64 node',.int .i64 other',.string name',.string value'] 38)).cell? ⟨w.heap.size,0,none⟩=some (.int .i64 t):=qi;have c1:((w.alloc (.cells #[.int .i64 t,.int .i64 b,.int .i64 n,.int .u8 (k:Int),.int .i64 node,.int .i64 other,.string name,.string value] 38)).alloc (.cells #[.int .i64 t',.int .i64 b',.int .i64 n',.int .u8 (k':Int),.int .i64 node',.int .i64 other',.string name',.string value'] 38)).cell? ⟨w.heap.size,1,none⟩=some (.int .i64 b):=qi;have c2:((w.alloc (.cells #[.int .i64 t,.int .i64 b,.int .i64 n,.int .u8 (k:Int),.int .i64 node,.int .i64 other,.string name,.string value] 38)).alloc (.cells #[.int .i64 t',.int .i64 b',.int .i64 n',.int .u8 (k':Int),.int .i64 node',.int .i64 other',.string name',.string value'] 38)).cell? ⟨w.heap.size+1,0,none⟩=some (.int .i64 t'):=qi;have c3:((w.alloc (.cells #[.int .i64 t,.int .i64 b,.int .i64 n,.int .u8 (k:Int),.int .i64 node,.int .i64 other,.string name,.string value] 38)).alloc (.cells #[.int .i64 t',.int .i64 b',.int .i64 n',.int .u8 (k':Int),.int .i64 node',.int .i64 other',.string name',.string value'] 38)).cell? ⟨w.heap.size+1,1,none⟩=some (.int .i64 b'):=qi;unfold IQ ltX;simp only [lW,au]
 cases h1:bL t b t' b' with
 | true=>
  have H1:=Lib.hid h1;clear h1;go_enter func121,ntmps121;go_wp2_with fail
  generalize ((w.alloc (.cells #[.int .i64 t,.int .i64 b,.int .i64 n,.int .u8 (k:Int),.int .i64 node,.int .i64 other,.string name,.string value] 38)).alloc (.cells #[.int .i64 t',.int .i64 b',.int .i64 n',.int .u8 (k':Int),.int .i64 node',.int .i64 other',.string name',.string value'] 38))=u at hg c0 c1 c2 c3 |-
  refine (gj _ _ _ _ true _ H1.o).mono ?_;rintro e w1 ⟨rfl,hb⟩;have hg1:=dw hg hb;clear hb c0 c1 c2 c3;go_wp2;go_ret;exact ⟨rfl,hg1⟩
 | false=>
  have H1:=Lib.hid h1;clear h1
  cases h2:bL t' b' t b with
  | true=>
   have H2:=Lib.hid h2;clear h2;go_enter func121,ntmps121;go_wp2_with fail
   generalize ((w.alloc (.cells #[.int .i64 t,.int .i64 b,.int .i64 n,.int .u8 (k:Int),.int .i64 node,.int .i64 other,.string name,.string value] 38)).alloc (.cells #[.int .i64 t',.int .i64 b',.int .i64 n',.int .u8 (k':Int),.int .i64 node',.int .i64 other',.string name',.string value'] 38))=u at hg c0 c1 c2 c3 |-
   refine (gj _ _ _ _ false _ H1.o).mono ?_;rintro e w1 ⟨rfl,hb⟩;have hg1:=dw hg hb;have e0:=aT (aI hb) c0;have e1:=aT (aI hb) c1;have e2:=aT (aI hb) c2;have e3:=aT (aI hb) c3;clear hb c0 c1 c2 c3 hg;go_wp2_with fail;refine (gj _ _ _ _ true _ H2.o).mono ?_;exact kl6
  | false=>
   have H2:=Lib.hid h2;clear h2;go_enter func121,ntmps121;go_wp2_with fail
   generalize ((w.alloc (.cells #[.int .i64 t,.int .i64 b,.int .i64 n,.int .u8 (k:Int),.int .i64 node,.int .i64 other,.string name,.string value] 38)).alloc (.cells #[.int .i64 t',.int .i64 b',.int .i64 n',.int .u8 (k':Int),.int .i64 node',.int .i64 other',.string name',.string value'] 38))=u at hg c0 c1 c2 c3 |-
   refine (gj _ _ _ _ false _ H1.o).mono ?_;rintro e w1 ⟨rfl,hb⟩;have hg1:=dw hg hb;have e0:=aT (aI hb) c0;have e1:=aT (aI hb) c1;have e2:=aT (aI hb) c2;have e3:=aT (aI hb) c3;clear hb c0 c1 c2 c3 hg;go_wp2_with fail;refine (gj _ _ _ _ false _ H2.o).mono ?_;exact kl6
theorem AW (blk off size:Nat) (w:World):CmpLays prog 121 #[] lW 8 IQ blk off size w:=fun _ _ _ _ x y=>tn x y _
theorem He:∀args w,(callFunc 121 args).run prog w= .ok (.enter 121 args) w:=enters_of func121 zq rfl
