import Derived.Test.YtjclejjkganhfaaGreatDoorSR06
import Derived.Test.YtjclejjkganhfaaGreatDoorSR07
import Derived.Deep.CutRange
import Derived.Deep.DeepCutAuto
set_option linter.unusedSimpArgs false
set_option linter.unusedVariables false
set_option maxRecDepth 100000
set_option maxHeartbeats 64000000
namespace Go.Proofs.YtjclejjkganhfaaGreatDoor
open Go.Proofs.Tryz
section
def nM(S:qX)(b n:Int):Option OpX:=S.find? (fun x=>decide (byO x=b/\mB x=n))
theorem AH{S}{b n}{x}(h:nM S b n=some x):x∈S/\byO x=b/\mB x=n:=by
 grind [nM,List.mem_of_find?_eq_some]
theorem lookK_none{S}{b n} :nM S b n=none↔∀x∈S,¬(byO x=b/\mB x=n):=by
 unfold nM
 simp_all
theorem Gh(S T)(b n):nM (S++T) b n=(nM S b n).or (nM T b n):=by
 unfold nM
 simp_all
theorem Um{S}(h1:∀x∈S,∀y∈S,byO x=byO y->mB x=mB y->x=y){x}(hx:x∈S):nM S (byO x) (mB x)=some x:=by
 cases h:nM S (byO x) (mB x) with
 | none=>exact absurd ⟨rfl,rfl⟩ (lookK_none.1 h x hx)
 | some y=>
  grind [AH]
def XI(x y:OpX):Bool:=decide (x.1=y.1/\x.2.1=y.2.1/\x.2.2.1=y.2.2.1/\x.2.2.2.1=y.2.2.2.1/\x.2.2.2.2.1=y.2.2.2.2.1/\x.2.2.2.2.2.1=y.2.2.2.2.2.1/\x.2.2.2.2.2.2.1.data.toList=y.2.2.2.2.2.2.1.data.toList/\x.2.2.2.2.2.2.2.data.toList=y.2.2.2.2.2.2.2.data.toList)
theorem UM{a b:qY}(h:a.data.toList=b.data.toList):a=b:=by
 cases a;simp_all
theorem sameX_iff{x y} :XI x y=true↔x=y:=by
 unfold XI;rw [decide_eq_true_iff]
 grind [UM]
def oX(S:qX):Nat->List OpX->List OpX->(Nat×Nat)⊕List OpX
 | _,fresh,[]=>.inr fresh
 | i,fresh,o::t=>if mv o=0 then (match nM (S++fresh) (byO o) (mB o) with
   | none=>oX S (i+1) (fresh++ [o]) t
   | some x=>if XI x o=true then oX S (i+1) fresh t else .inl (i,7)) else .inl (i,mv o)
theorem FY{S fresh t}{i}{o}(h:mv o≠0):oX S i fresh (o::t)= .inl (i,mv o):=by
 rw [oX,if_neg h]
theorem BD{S fresh t}{i}{o}(h:mv o=0)(hl:nM (S++fresh) (byO o) (mB o)=none):oX S i fresh (o::t)=oX S (i+1) (fresh++ [o]) t:=by
 rw [oX,if_pos h,hl]
theorem rd{S fresh t}{i}{o}(h:mv o=0)(hl:nM (S++fresh) (byO o) (mB o)=some o):oX S i fresh (o::t)=oX S (i+1) fresh t:=by
 rw [oX,if_pos h,hl];exact if_pos (sameX_iff.2 rfl)
theorem sA{S fresh t}{i}{o x}(h:mv o=0)(hl:nM (S++fresh) (byO o) (mB o)=some x)(hx:x≠o):oX S i fresh (o::t)= .inl (i,7):=by
 rw [oX,if_pos h,hl];exact if_neg (fun q=>hx (sameX_iff.1 q))
structure M2 (S fresh:qX):Prop where
 ok:∀x∈fresh,mv x=0
 off:∀x∈fresh,∀y∈S,¬(byO y=byO x/\mB y=mB x)
 one:fresh.Pairwise (fun x y=>¬(byO x=byO y/\mB x=mB y))
theorem pW(S):M2 S []:=⟨fun x h=>qo,fun x h=>qo,List.Pairwise.nil⟩
theorem M2.aa2{S fresh}(h:M2 S fresh){o}(ho:mv o=0)(hl:nM (S++fresh) (byO o) (mB o)=none):M2 S (fresh++ [o]):=by
 have hn:=lookK_none.1 hl;refine ⟨fun x hx=> ?_,fun x hx=> ?_,?_⟩
 ·rcases uV.1 hx with h1 | h1
  ·exact h.ok x h1
  simp_all
 ·rcases uV.1 hx with h1 | h1
  ·exact h.off x h1
  simp_all
 refine List.pairwise_append.2 ⟨h.one,YM _ _,fun x hx y hy=> ?_⟩
 grind
theorem oT{S} :∀ {l:qX} {i:Nat} {fresh out:qX},M2 S fresh->oX S i fresh l= .inr out->M2 S out/\(∀x,x∈out->x∈fresh\/x∈l)/\(∀x,x∈fresh->x∈out)/\(∀x∈l,x∈S\/x∈out)/\out.length<=fresh.length+l.length
 | [],_,_,_,hF,h=>by
  grind [oX]
 | o::t,i,fresh,out,hF,h=>by
  by_cases ho:mv o=0
  ·cases hl:nM (S++fresh) (byO o) (mB o) with
   | none=>
    rw [BD ho hl] at h;obtain ⟨k1,k2,k3,k4,k5⟩:=oT (hF.aa2 ho hl) h
    grind
   | some x=>
    by_cases hx:x=o
    ·subst hx;rw [rd ho hl] at h;obtain ⟨k1,k2,k3,k4,k5⟩:=oT hF h;refine ⟨k1,fun y hy=>(k2 y hy).imp (fun q=>q) (fun q=>uY _ q),k3,fun y hy=> ?_,by simp at k5 |-;omega⟩
     rcases uX.1 hy with rfl | hy
     ·rcases uV.1 (AH hl).1 with q | q
      ·exact .inl q
      exact .inr (k3 _ q)
     exact k4 y hy
    grind [sA]
  rw [FY ho] at h
  cases h
theorem tc{S T}(h1:∀x∈S,∀y∈S,byO x=byO y->mB x=mB y->x=y)(hT:∀x∈T,∀y∈T,byO x=byO y->mB x=mB y->x=y)(hc:Q8 S T)(cU:∀x∈T,mv x=0):
  ∀ {l:qX} (i:Nat) {fresh:qX},(∀x∈l,x∈T)->(∀x∈fresh,x∈T)->∃out,oX S i fresh l= .inr out/\∀x∈out,x∈T
 | [],i,fresh,_,hf=>⟨fresh,rfl,hf⟩
 | o::t,i,fresh,hl,hf=>by
  have ho:=cU o (hl o Zn)
  cases hk:nM (S++fresh) (byO o) (mB o) with
  | none=>
   rw [BD ho hk];refine tc h1 hT hc cU (i+1) (fun x hx=>hl x (uY _ hx)) (fun x hx=> ?_)
   grind
  | some x=>
   obtain ⟨a,b,c⟩:=AH hk
   have hx:x=o:=by
    rcases uV.1 a with q | q
    ·exact hc x q o (hl o Zn) b c
    grind
   subst hx;rw [rd ho hk];exact tc h1 hT hc cU (i+1) (fun x hx=>hl x (uY _ hx)) hf
abbrev Rws:=Nat->List OpX
def lX(R:Rws):List OpX:=R 0++(R 1++(R 2++R 3))
theorem mem_allR{R}{x} :x∈lX R↔∃i,i<4/\x∈R i:=by
 grind [lX]
def M8(R:Rws):Prop:=∀i:Nat,i<4->∀(j:Nat) (x:OpX),(R i)[j]? =some x->byO x=(i:Int)/\mB x=(j:Int)+1/\mv x=0
def upR(R:Rws)(i:Nat)(l:qX):Rws:=fun j=>if j=i then l else R j
theorem UJ:M8 (fun _=>[]):=fun i _ j x h=>qo
theorem Cm{x}(h:mv x=0):∃i:Nat,i<4/\byO x=(i:Int)/\(byO x).toNat=i:=by
 have h0:=mT h
 grind
theorem M8.e{R}(h:M8 R){i}(hi:i<4){x}(hx:x∈R i):∃j:Nat,(R i)[j]? =some x/\byO x=(i:Int)/\mB x=(j:Int)+1/\mv x=0:=by
 obtain ⟨j,hj,rfl⟩:=YF hx;have e:=uJ hj;exact ⟨j,e,h i hi j _ e⟩
theorem M8.one{R}(h:M8 R):∀x∈lX R,∀y∈lX R,byO x=byO y->mB x=mB y->x=y:=by
 intro x hx y hy e1 e2;obtain ⟨i,hi,hx⟩:=mem_allR.1 hx;obtain ⟨k,hk,hy⟩:=mem_allR.1 hy;obtain ⟨j,a1,a2,a3,_⟩:=h.e hi hx;obtain ⟨j',b1,b2,b3,_⟩:=h.e hk hy
 grind
theorem M8.ok{R}(h:M8 R):∀x∈lX R,mv x=0:=by
 intro x hx;obtain ⟨i,hi,hx⟩:=mem_allR.1 hx;obtain ⟨_,_,_,_,h⟩:=h.e hi hx;exact h
theorem M8.gap{R}(h:M8 R):∀x∈lX R,mB x=1\/∃y∈lX R,byO y=byO x/\mB y+1=mB x:=by
 intro x hx;obtain ⟨i,hi,hx⟩:=mem_allR.1 hx;obtain ⟨j,a1,a2,a3,_⟩:=h.e hi hx
 cases j with
 | zero=>exact .inl zj
 | succ j=>
  have hl:=(uI.1 a1).1;have e:=uJ (show j<(R i).length by omega);obtain ⟨b1,b2,_⟩:=h i hi j _ e;exact .inr ⟨_,mem_allR.2 ⟨i,hi,uP e⟩,zj,zj⟩
theorem M8.F{R}(h:M8 R){i n:Nat}(hi:i<4):nM (lX R) (i:Int) ((n:Int)+1)=(R i)[n]? :=by
 cases e:(R i)[n]? with
 | none=>
  refine lookK_none.2 (fun x hx ⟨e1,e2⟩=> ?_);obtain ⟨k,hk,hx⟩:=mem_allR.1 hx;obtain ⟨j,a1,a2,a3,_⟩:=h.e hk hx
  grind
 | some x=>
  obtain ⟨b1,b2,_⟩:=h i hi n x e;rw [<-b1,<-b2];exact Um h.one (mem_allR.2 ⟨i,hi,uP e⟩)
theorem tu{R}{i}(hi:i<4){o}{x} :x∈lX (upR R i (R i++ [o]))↔x∈lX R\/x=o:=by
 constructor
 ·intro h;obtain ⟨k,hk,h⟩:=mem_allR.1 h;unfold upR at h;split at h
  ·rename_i e;subst e
   rcases uV.1 h with h | h
   ·exact .inl (mem_allR.2 ⟨_,hk,h⟩)
   simp_all
  exact .inl (mem_allR.2 ⟨k,hk,h⟩)
 rintro (h | rfl)
 ·obtain ⟨k,hk,h⟩:=mem_allR.1 h;refine mem_allR.2 ⟨k,hk,?_⟩
  grind [upR,Zm]
 refine mem_allR.2 ⟨i,hi,?_⟩;unfold upR
 simp_all
theorem M8.up{R}(h:M8 R){i:Nat}{o}(ho:mv o=0)(hb:byO o=(i:Int))(hn:mB o=((R i).length:Int)+1):M8 (upR R i (R i++ [o])):=by
 intro k hk j x hx;unfold upR at hx;split at hx
 ·rename_i e;subst e;rw [List.getElem?_append] at hx;split at hx
  ·exact h _ hk j x hx
  grind
 exact h k hk j x hx
def Gap(S:qX):Prop:=∃x∈S,mB x≠1/\¬∃y∈S,byO y=byO x/\mB y+1=mB x
def U4(S:qX):Prop:=∃x∈S,∃y∈S,byO x=byO y/\mB x+1=mB y/\¬CLt (stO x) (stO y)
theorem Gap.congr{S T}(e:∀x,x∈S↔x∈T)(h:Gap S):Gap T:=by
 obtain ⟨x,hx,h1,h2⟩:=h;exact ⟨x,(e x).1 hx,h1,fun ⟨y,hy,q⟩=>h2 ⟨y,(e y).2 hy,q⟩⟩
theorem U4.congr{S T}(e:∀x,x∈S↔x∈T)(h:U4 S):U4 T:=by
 obtain ⟨x,hx,y,hy,q⟩:=h;exact ⟨x,(e x).1 hx,y,(e y).1 hy,q⟩
theorem M8.adv{R}(h:M8 R):¬Gap (lX R):=fun ⟨x,hx,h1,h2⟩=>by
 rcases h.gap x hx with q | q
 ·exact h1 q
 exact h2 q
def rC(l:qX)(o:OpX):Bool:=match l.getLast? with
 | none=>true
 | some y=>decide (CLt (stO y) (stO o))
def oF:Rws->Bool->List OpX->Option (Rws×Bool)
 | R,z,[]=>some (R,z)
 | R,z,o::t=>if mB o=((R (byO o).toNat).length:Int)+1 then oF (upR R (byO o).toNat (R (byO o).toNat++ [o])) (z &&rC (R (byO o).toNat) o) t else none
theorem Se{R}(h:M8 R){i:Nat}(hi:i<4){o}(hb:byO o=(i:Int))(hn:mB o=((R i).length:Int)+1):U4 (lX (upR R i (R i++ [o])))↔U4 (lX R)\/rC (R i) o=false:=by
 have bU:∀y,(R i).getLast? =some y->y∈lX R/\byO y=byO o/\mB y+1=mB o:=fun y hy=>by
  have hy':(R i)[(R i).length - 1]? =some y:=by rw [<-List.getLast?_eq_getElem?];exact hy
  have hl:=(uI.1 hy').1;obtain ⟨a,b,_⟩:=h i hi _ y hy';exact ⟨mem_allR.2 ⟨i,hi,uP hy'⟩,zj,zj⟩
 constructor
 ·rintro ⟨x,hx,y,hy,e1,e2,e3⟩
  rcases (tu hi).1 hx with gu | rfl
  ·rcases (tu hi).1 hy with hy1 | rfl
   ·exact .inl ⟨x,gu,y,hy1,e1,e2,e3⟩
   refine .inr ?_;obtain ⟨k,hk,cQ⟩:=mem_allR.1 gu;obtain ⟨j,a1,a2,a3,_⟩:=h.e hk cQ
   grind [rC,decide_eq_false]
  exfalso
  rcases (tu hi).1 hy with hy | rfl
  ·obtain ⟨k,hk,hy'⟩:=mem_allR.1 hy;obtain ⟨j,a1,a2,a3,_⟩:=h.e hk hy'
   grind
  omega
 rintro (⟨x,hx,y,hy,q⟩ | hr)
 ·exact ⟨x,(tu hi).2 (.inl hx),y,(tu hi).2 (.inl hy),q⟩
 unfold rC at hr
 cases hl:(R i).getLast? with
 | none=>simp_all
 | some y=>
  rw [hl] at hr;obtain ⟨a,b,c⟩:=bU y hl;exact ⟨y,(tu hi).2 (.inl a),o,(tu hi).2 (.inr rfl),b,c,of_decide_eq_false hr⟩
theorem Gf:∀(F:qX) (R:Rws) (z:Bool),M8 R->M2 (lX R) F->F.Pairwise (fun a b=>mB a<=mB b)->(z=true↔¬U4 (lX R))->
  (oF R z F=none/\Gap (lX R++F))\/∃R' z',oF R z F=some (R',z')/\¬Gap (lX R++F)/\M8 R'/\(∀x,x∈lX R'↔x∈lX R++F)/\(z'=true↔¬U4 (lX R++F))/\(lX R').length=(lX R).length+F.length/\∀i,∃t,R' i=R i++t
 | [],R,z,hN,_,_,hz=>.inr ⟨R,z,rfl,by rw [Yd];exact hN.adv,hN,fun x=>by rw [Yd],zL,zr,fun i=>⟨[],zr⟩⟩
 | o::t,R,z,hN,hF,hs,hz=>by
  have ho:=hF.ok o Zn;obtain ⟨i,hi,hb,ji⟩:=Cm ho;by_cases hn:mB o=((R i).length:Int)+1
  ·have gk:=hN.up ho hb hn
   have lA:M2 (lX (upR R i (R i++ [o]))) t:=by
    refine ⟨fun x hx=>hF.ok x (uY _ hx),fun x hx y hy=> ?_,(Zz.1 hF.one).2⟩
    rcases (tu hi).1 hy with hy | rfl
    ·exact hF.off x (uY _ hx) y hy
    exact (Zz.1 hF.one).1 x hx
   have aw:(z &&rC (R i) o)=true↔¬U4 (lX (upR R i (R i++ [o]))):=by
    rw [Se hN hi hb hn,Yl,hz]
    cases rC (R i) o<;>simp
   have hmem:∀x,x∈lX (upR R i (R i++ [o]))++t↔x∈lX R++o::t:=fun x=>by
    grind [tu]
   have hg:oF R z (o::t)=oF (upR R i (R i++ [o])) (z &&rC (R i) o) t:=by rw [oF,ji,if_pos hn]
   have hlen:(lX (upR R i (R i++ [o]))).length=(lX R).length+1:=by
    unfold lX upR
    match i,hi with
    | 0,_=>simp;omega
    | 1,_=>simp;omega
    | 2,_=>simp;omega
    | 3,_=>simp;omega
   rcases Gf t _ _ gk lA (Zz.1 hs).2 aw with ⟨a,b⟩ | ⟨R',z',a,b,c,d,e,f,g⟩
   ·exact .inl ⟨hg.trans a,b.congr hmem⟩
   refine .inr ⟨R',z',hg.trans a,fun q=>b (q.congr (fun x=>(hmem x).symm)),c,fun x=>(d x).trans (hmem x),e.trans (not_congr ⟨fun q=>q.congr hmem,fun q=>q.congr (fun x=>(hmem x).symm)⟩),by rw [f,hlen,Za];omega,fun k=> ?_⟩;obtain ⟨t',ie⟩:=g k
   grind [upR]
  refine .inl ⟨by rw [oF,ji,if_neg hn],o,zr,?_,?_⟩
  ·intro h1;have hlt:0<(R i).length:=zj;have e:=uJ hlt;obtain ⟨b1,b2,_⟩:=hN i hi 0 _ e;exact hF.off o Zn _ (mem_allR.2 ⟨i,hi,uP e⟩) ⟨zj,zj⟩
  rintro ⟨y,hy,e1,e2⟩
  rcases uV.1 hy with hy | hy
  ·obtain ⟨k,hk,hy⟩:=mem_allR.1 hy;obtain ⟨j,a1,a2,a3,_⟩:=hN.e hk hy;obtain rfl:k=i:=zj;have hj:=(uI.1 a1).1
   have hl:j+1<(R k).length:=by
    rcases Yc (j+1) (R k).length with q | q
    ·exact q
    omega
   have e:=uJ hl;obtain ⟨b1,b2,_⟩:=hN k hk (j+1) _ e;exact hF.off o Zn _ (mem_allR.2 ⟨k,hk,uP e⟩) ⟨zj,zj⟩
  rcases uX.1 hy with rfl | hy
  ·omega
  have:=(Zz.1 hs).1 y hy;omega
structure u9 (R:Rws):Prop where
 num:M8 R
 G6:D5 (lX R)
theorem Cj:u9 (fun _=>[]):=⟨UJ,by unfold lX;exact Cu⟩
theorem u9.adb{R}(h:u9 R):¬U4 (lX R):=fun ⟨x,hx,y,hy,e1,e2,e3⟩=>e3 (h.G6.L3 x hx y hy e1 e2)
structure I3 (R:Rws):Prop where
 num:M8 R
 up:∀x∈lX R,∀y∈lX R,byO x=byO y->mB x+1=mB y->CLt (stO x) (stO y)
theorem u9.toN{R}(h:u9 R):I3 R:=⟨h.num,h.G6.L3⟩
theorem I3.X5{R}(h:I3 R){x}(hx:x∈lX R):∀(d:Nat) {y:OpX},y∈lX R->byO x=byO y->mB x+(d+1)=mB y->CLt (stO x) (stO y)
 | 0,y,hy,e1,e2=>h.up x hx y hy e1 zj
 | d+1,y,hy,e1,e2=>by
  rcases h.num.gap y hy with q | ⟨z,hz,z1,z2⟩
  ·have:=Ez (h.num.ok x hx);omega
  exact wN (h.X5 hx d hz zj zj) (h.up z hz y hy z1 z2)
theorem I3.Y{R}(h:I3 R){x y}(hx:x∈lX R)(hy:y∈lX R)(e:stO x=stO y):x=y:=by
 have e1:byO x=byO y:=(Prod.mk.inj e).2
 rcases Int.lt_trichotomy (mB x) (mB y) with q | q | q
 ·have:=h.X5 hx (mB y - mB x - 1).toNat hy e1 zj
  grind
 ·exact h.num.one x hx y hy e1 q
 exact ko4
theorem I3.L3{R}(h:I3 R){i}(hi:i<4):(R i).Pairwise (fun a b=>CLt (stO a) (stO b)):=by
 rw [ZN];intro a b ha hb hab;have ea:=uJ ha;have eb:=uJ hb;obtain ⟨a1,a2,_⟩:=h.num i hi a _ ea;obtain ⟨b1,b2,_⟩:=h.num i hi b _ eb;exact h.X5 (mem_allR.2 ⟨i,hi,uP ea⟩) (b - a - 1) (mem_allR.2 ⟨i,hi,uP eb⟩) zj zj
def oW(S l:qX)(a:(Int×Nat)⊕List OpX):Prop:=match oX S 0 [] l with
 | .inl (i,c)=>a= .inl ((i:Int),c)
 | .inr fresh=>(Gap (S++fresh)/\a= .inl (-1,9))\/(¬Gap (S++fresh)/\U4 (S++fresh)/\a= .inl (-1,3))\/(¬Gap (S++fresh)/\¬U4 (S++fresh)/\(∃x∈S++fresh,¬L8 (S++fresh) x)/\a= .inl (-1,6))\/(D5 (S++fresh)/\400<S.length+fresh.length/\a= .inl (-1,8))\/(D5 (S++fresh)/\S.length+fresh.length<=400/\a= .inr fresh)
def zaR(x:OpX):Nat:=(x.2.2.2.2.2.2.2.data.toList.headD 0).toNat
def Xm(nd:Int)(x:OpX):Option (Int×Ltr):=if kdO x=105/\mY x=nd then some (mX x,(idO x,zaR x,false)) else none
def oB(A:qX)(nd id:Int):Prop:=∃x∈A,kdO x=100/\mY x=nd/\mX x=id
theorem zax(A)(nd id):(A.any fun x=>decide (kdO x=100/\mY x=nd/\mX x=id))=true↔oB A nd id:=by simp [oB]
def zav(A:qX)(nd id:Int):Decidable (oB A nd id):=decidable_of_iff _ (zax A nd id)
def rj(A:qX)(nd:Int)(l:Ltr):Ltr:= @ite _ (oB A nd l.1) (zav A nd l.1) (l.1,0,true) l
theorem BN(A)(nd)(l):(rj A nd l).1=l.1:=by unfold rj;split<;>rfl
theorem BE(A)(nd)(L:List Ltr):(L.map (rj A nd)).map (·.1)=L.map (·.1):=by grind [YY,Yv,BN]
def u7(A:qX)(nd:Int)(L:List Ltr):Prop:=∃s,s.Perm (A.filterMap (Xm nd))/\Ea s/\L=(nj s []).map (rj A nd)
theorem Er{f}(hf:∀l,(f l).1=l.1){x}(hx:f x=x):∀L,laid x (L.map f)=(laid x L).map f
 | []=>by simp [laid,hx]
 | h::t=>by
  by_cases k:x.1<h.1
  ·rw [ZS,nT (by rw [hf];exact k),nT k,ZS,Er hf hx t]
  grind [tI]
theorem KP{f}(hf:∀l,(f l).1=l.1){x}(hx:f x=x)(b):∀L,GJ b x (L.map f)=(GJ b x L).map f
 | []=>by simp [GJ]
 | h::t=>by
  by_cases k:h.1=b
  ·grind [rJ,Er]
  rw [ZS,oK (by rw [hf];exact k),oK k,ZS,KP hf hx b t]
theorem Wp{f}(hf:∀l,(f l).1=l.1){x}(hx:f x=x)(b)(L):put b x (L.map f)=(put b x L).map f:=by
 grind [put,Er,KP]
theorem sB:∀(n:Nat) (s:List (Int×Ltr)),s.length=n->Ea s->((nj s []).map (·.1)).Perm (s.map (·.2.1))
 | 0,s,hn,_=>by rw [Zg.1 hn];exact List.Perm.refl _
 | n+1,s,hn,h=>by
  rcases sy s with rfl | ⟨u,m,rfl⟩
  ·simp at hn
  have hu:=DC h;have ih:=sB n u (by simp at hn;exact hn) hu;rw [pY,sO]
  have hb:m.1=0\/m.1∈(nj u []).map (·.1):=by
   rcases h.2.2 u m [] zr with q | ⟨y,hy,q⟩
   ·exact .inl q
   exact .inr (ih.mem_iff.2 (Zj.2 ⟨y,hy,q⟩))
  grind [NV,Yp]
theorem u7.ids{A}{nd}{L}(h:u7 A nd L):(L.map (·.1)).Perm ((A.filterMap (Xm nd)).map (·.2.1)):=by
 obtain ⟨s,h1,h2,rfl⟩:=h;rw [BE];exact (sB _ s rfl h2).trans (h1.map _)
theorem u7.U5{A}{nd}{L}(h:u7 A nd L){id} :id∈L.map (·.1)↔I6 A nd id:=by
 rw [h.ids.mem_iff];constructor
 ·intro q;obtain ⟨m,hm,rfl⟩:=Zj.1 q;obtain ⟨x,hx,e⟩:=Yo.1 hm;unfold Xm at e;split at e
  ·rename_i k
   cases e
   exact ⟨x,hx,k.1,k.2,rfl⟩
  cases e
 rintro ⟨x,hx,k1,k2,k3⟩;exact Zj.2 ⟨_,Yo.2 ⟨x,hx,if_pos ⟨k1,k2⟩⟩,k3⟩
theorem u7.J2{A}{nd}{L}(h:u7 A nd L):(L.map (·.1)).Nodup:=by
 obtain ⟨s,h1,h2,rfl⟩:=h;rw [BE];exact (sB _ s rfl h2).nodup_iff.2 h2.1
theorem u7.D4{A}{nd}{L}(h:u7 A nd L):L.length<=A.length:=by
 have:=h.ids.length_eq
 grind
theorem u7.G4{A B}{nd}{L}(h:u7 A nd L)(e:A.Perm B):u7 B nd L:=by
 obtain ⟨s,h1,h2,rfl⟩:=h
 have hg:∀id,oB A nd id↔oB B nd id:=fun id=>⟨fun ⟨x,hx,q⟩=>⟨x,e.mem_iff.1 hx,q⟩,fun ⟨x,hx,q⟩=>⟨x,e.mem_iff.2 hx,q⟩⟩
 refine ⟨s,h1.trans (e.filterMap _),h2,Yv (fun l _=> ?_)⟩;unfold rj
 grind
theorem u7.q{A}{nd}{L M}(h:u7 A nd L)(k:u7 A nd M):L=M:=by
 obtain ⟨s,h1,h2,rfl⟩:=h;obtain ⟨r,k1,k2,rfl⟩:=k;rw [wS _ s r rfl (h1.trans k1.symm) h2 k2]
theorem u7.skip{A}{nd}{L}(h:u7 A nd L){x}(hx:¬(mY x=nd/\(kdO x=105\/kdO x=100))):u7 (x::A) nd L:=by
 obtain ⟨s,h1,h2,rfl⟩:=h;refine ⟨s,?_,h2,Yv (fun l _=> ?_)⟩
 ·rw [List.filterMap_cons_none (show Xm nd x=none from if_neg (fun q=>hx ⟨q.2,.inl q.1⟩))];exact h1
 have hg:oB (x::A) nd l.1↔oB A nd l.1:=by
  constructor
  ·rintro ⟨y,hy,q⟩
   rcases uX.1 hy with rfl | hy
   ·exact absurd ⟨q.2.1,.inr q.1⟩ hx
   exact ⟨y,hy,q⟩
  rintro ⟨y,hy,q⟩;exact ko1
 unfold rj
 grind
theorem u7.ins{A}{nd}{L}(h:u7 A nd L){x}(hk:kdO x=105)(hn:mY x=nd)(hnew:idO x∉L.map (·.1))(hpos:idO x≠0)(ho:mX x=0\/mX x∈L.map (·.1))(hg:¬oB A nd (idO x)):u7 (x::A) nd (put (mX x) (idO x,zaR x,false) L):=by
 have hids:=h.ids;obtain ⟨s,h1,h2,rfl⟩:=h;rw [BE] at hnew ho hids;have bq:=sB _ s rfl h2
 have jd:∀id,oB (x::A) nd id↔oB A nd id:=fun id=>by
  constructor
  ·rintro ⟨y,hy,q⟩
   rcases uX.1 hy with rfl | hy
   ·rw [hk] at q;exact absurd q.1 zo
   exact ⟨y,hy,q⟩
  rintro ⟨y,hy,q⟩;exact ko1
 have hhide:∀l,rj (x::A) nd l=rj A nd l:=fun l=>by
  unfold rj;by_cases q:oB A nd l.1
  ·rw [if_pos q,if_pos ((jd _).2 q)]
  rw [if_neg q,if_neg (fun k=>q ((jd _).1 k))]
 have dw:rj A nd (idO x,zaR x,false)=(idO x,zaR x,false):=if_neg hg;refine ⟨s++ [(mX x,(idO x,zaR x,false))],?_,⟨?_,?_,?_⟩,?_⟩
 ·rw [List.filterMap_cons_some (show Xm nd x=some _ from if_pos ⟨hk,hn⟩)];exact (Yp).trans (h1.cons _)
 ·rw [ZL,ZI];refine ⟨h2.1,zr,fun a ha b hb=> ?_⟩;simp at hb;subst hb;intro e;subst e;exact hnew (bq.mem_iff.2 ha)
 ·intro m hm
  rcases uV.1 hm with hm | hm
  ·exact h2.2.1 m hm
  rw [Zf.1 hm];exact hpos
 ·intro u m v e
  rcases sy v with rfl | ⟨v',q,rfl⟩
  ·obtain ⟨rfl,e2⟩:=List.append_inj' e rfl
   cases e2
   rcases ho with ho | ho
   ·exact .inl ho
   obtain ⟨y,hy,e⟩:=Zj.1 (bq.mem_iff.1 ho);exact .inr ⟨y,hy,e⟩
  have e':s++ [(mX x,(idO x,zaR x,false))]=(u++m::v')++ [q]:=by rw [e];simp
  obtain ⟨rfl,_⟩:=List.append_inj' e' rfl;exact h2.2.2 u m v' rfl
 grind [pY,sO,Wp,BN,Yv]
theorem u7.del{A}{nd}{L}(h:u7 A nd L){x}(hk:kdO x=100)(hn:mY x=nd){i}(hf:oO (mX x) L=some i):u7 (x::A) nd (L.set i (mX x,0,true)):=by
 have cq:=h.J2;obtain ⟨s,h1,h2,rfl⟩:=h;refine ⟨s,?_,h2,?_⟩
 ·simp_all [List.filterMap_cons_none,Xm,if_neg]
 obtain ⟨l0,cP,hid⟩:=oS hf
 have jd:∀id,oB (x::A) nd id↔id=mX x\/oB A nd id:=fun id=>by
  constructor
  ·rintro ⟨y,hy,q⟩
   rcases uX.1 hy with rfl | hy
   ·exact .inl q.2.2.symm
   exact .inr ⟨y,hy,q⟩
  rintro (rfl | ⟨y,hy,q⟩)
  ·exact ⟨x,Zn,hk,hn,rfl⟩
  exact ko1
 rw [BE] at cq;refine List.ext_getElem? (fun j=> ?_);rw [List.getElem?_set,Zh,ZM,ZM];rw [ZM] at cP
 cases hj:(nj s [])[j]? with
 | none=>
  simp_all
 | some l=>
  have eN:=(uI.1 hj).1;split
  ·rename_i e;subst e;rw [if_pos eN];rw [hj] at cP
   cases cP
   rw [BN] at hid
   simp_all [rj,if_pos,YA]
  rename_i e
  have hne:l.1≠mX x:=fun q=>e (by
   have ce:i<(nj s []).length:=by
    cases hi:(nj s [])[i]? with
    | none=>rw [hi] at cP;cases cP
    | some _=>exact (uI.1 hi).1
   have e1:((nj s []).map (·.1))[i]? =some (mX x):=by
    rw [ZM]
    cases hi:(nj s [])[i]? with
    | none=>rw [hi] at cP;cases cP
    | some l'=>
     rw [hi] at cP
     cases cP
     rw [BN] at hid
     simp [hid]
   have e2:((nj s []).map (·.1))[j]? =some (mX x):=by rw [ZM,hj];simp [q]
   exact (List.getElem?_inj (by simpa using ce) cq).1 (e1.trans e2.symm))
  have hq:rj (x::A) nd l=rj A nd l:=by
   unfold rj;by_cases q:oB A nd l.1
   ·rw [if_pos q,if_pos ((jd _).2 (.inr q))]
   rw [if_neg q,if_neg (fun k=>((jd _).1 k).elim hne q)]
  simp_all
theorem u7.F5{A}{nd}(h:∀x∈A,mY x=nd->kdO x≠105):u7 A nd []:=by
 refine ⟨[],?_,⟨zr,fun m hm=>by simp at hm,fun u m v e=>by simp at e⟩,rfl⟩;rw [show List.filterMap (Xm nd) A= [] from List.filterMap_eq_nil_iff.2 (fun x hx=>if_neg (fun q=>h x hx q.2 q.1))]
def Wj(x:OpX):Option Mov:=if kdO x=109 then some ((x.1,x.2.1),(mY x,mX x,x.2.2.2.2.2.2.1)) else none
def pz(A:qX):List Mov:=A.filterMap Wj
def oE(A:qX)(T:Int):Prop:=(∀x∈A,x.1<=T)/\(T=0\/∃x∈A,x.1=T)/\0<=T
theorem PA:oE [] 0:=⟨fun x h=>qo,.inl rfl,Int.le_refl _⟩
theorem oA{A}{T T'}(h:oE A T)(k:oE A T'):T=T':=by
 obtain ⟨h1,h2,h3⟩:=h;obtain ⟨k1,k2,k3⟩:=k
 grind
theorem Lp{A}{T}(h:oE A T)(x)(hx:1<=x.1):oE (x::A) (if T<x.1 then x.1 else T):=by
 obtain ⟨h1,h2,h3⟩:=h;split
 ·rename_i q;refine ⟨fun y hy=> ?_,.inr ⟨x,Zn,rfl⟩,zj⟩
  grind
 rename_i q;refine ⟨fun y hy=> ?_,h2.imp (fun e=>e) (fun ⟨y,hy,e⟩=>⟨y,uY _ hy,e⟩),h3⟩
 grind
end
section
open scoped Classical
theorem wu{x}(h:mv x=0):1<=x.1/\x.1<=1073741824/\0<=byO x/\byO x<4:=by
 have h0:=mT h
 simp_all
theorem rM{x}(h:mv x=0):((kdO x=109/\mY x<=idO x)\/mY x<idO x)/\mX x<idO x/\0<=mY x/\0<=mX x/\(kdO x=109->2<=mY x)/\(kdO x=100->mX x≠0):=by
 have h0:=mT h
 have hid:4<=idO x:=by unfold idO;have:=h0.1;have:=h0.2.2.1;omega
 unfold mv opE at h;rw [if_pos ⟨h0.1,h0.2.1,h0.2.2.1,h0.2.2.2.1,h0.2.2.2.2.1,h0.2.2.2.2.2.1⟩] at h;have e:x.1*4+x.2.1=idO x:=rfl;rw [e] at h;unfold wd at h;split at h
 ·rename_i hk;unfold nw at h
  grind
 rename_i hk;have hk':kdO x≠109:=hk;split at h
 ·rename_i hki;unfold DG at h
  grind
 split at h
 ·unfold EC at h
  grind
 rename_i jb;have hkd':kdO x≠100:=jb;split at h
 ·unfold FV at h
  grind
 cases h
theorem Vu{x y}(hx:mv x=0)(hy:mv y=0)(e:idO x=idO y):stO x=stO y:=by
 have h1:=wu hx;have h2:=wu hy;unfold idO at e;have e1:x.2.1=byO x:=rfl;have e2:y.2.1=byO y:=rfl;rw [e1,e2] at e;have a:x.1=y.1:=zj;have b:byO x=byO y:=zj
 grind [stO]
theorem zcI{x y}(hx:mv x=0)(hy:mv y=0)(h:idO x<idO y):CLt (stO x) (stO y):=by
 have h1:=wu hx;have h2:=wu hy;unfold idO at h;have e1:x.2.1=byO x:=rfl;have e2:y.2.1=byO y:=rfl;rw [e1,e2] at h;unfold CLt stO;omega
theorem zbD{x}(hx:mv x=0):4<=idO x:=by
 have h1:=wu hx;unfold idO
 grind
structure G7 (A:qX) (o:OpX):Prop where
 ok:mv o=0
 F5:∀x∈A,stO x≠stO o
 R9:L8 (o::A) o
 all:∀x∈A,mv x=0/\L8 A x
 adN:∀x∈A,∀y∈A,stO x=stO y->x=y
theorem G7.G4{A B}{o}(h:G7 A o)(e:A.Perm B):G7 B o:=
 ⟨h.ok,fun x hx=>h.F5 x (e.mem_iff.2 hx),h.R9.mono (fun x hx=>zM),fun x hx=>⟨(h.all x (e.mem_iff.2 hx)).1,(h.all x (e.mem_iff.2 hx)).2.mono (fun y hy=>e.mem_iff.1 hy)⟩,fun x hx y hy=>h.adN x (e.mem_iff.2 hx) y (e.mem_iff.2 hy)⟩
theorem G7.abJ{A}{o}(h:G7 A o):∀x∈A,idO x≠idO o:=fun x hx e=>h.F5 x hx (Vu (h.all x hx).1 h.ok e)
theorem G7.fresh{A}{o}(h:G7 A o)(e:mY o=idO o):(¬m9 A (mY o))/\∀x∈A,mY x≠mY o:=by
 have hk:¬m9 A (mY o):=fun ⟨x,hx,_,_,q⟩=>h.abJ x hx (q.trans e)
 refine ⟨hk,fun x hx q=> ?_⟩
 rcases (h.all x hx).2.1 with ⟨_,k⟩ | k
 ·exact h.abJ x hx (by rw [k,q,e])
 simp_all
theorem MJ{A}{o}{nd}(h:m9 (o::A) nd)(hn:nd≠idO o):m9 A nd:=by
 obtain ⟨x,hx,q⟩:=h
 rcases uX.1 hx with rfl | hx
 ·omega
 exact ⟨x,hx,q⟩
theorem Hu{A}{o}{nd id}(h:I6 (o::A) nd id)(hn:id≠idO o):I6 A nd id:=by
 obtain ⟨x,hx,q⟩:=h
 rcases uX.1 hx with rfl | hx
 ·omega
 exact ⟨x,hx,q⟩
theorem G7.l8{A}{o}(h:G7 A o)(e:mY o≠idO o):m9 A (mY o):=by
 rcases h.R9.1 with ⟨_,q⟩ | q
 ·exact absurd q.symm e
 exact MJ q e
theorem G7.ab9{A}{o}(h:G7 A o)(hk:(kdO o=105/\0<mX o)\/kdO o=100):I6 A (mY o) (mX o):=by
 have:=(rM h.ok).2.1;exact Hu (h.R9.2.2 hk) zj
theorem G7.E5{A}{o}(h:G7 A o)(hk:kdO o=105\/kdO o=100\/kdO o=115):mY o≠idO o:=by
 rcases (rM h.ok).1 with ⟨q,_⟩ | q
 ·omega
 omega
theorem G7.ac2{A}{o}(h:G7 A o)(nd):¬oB A nd (idO o):=fun ⟨x,hx,k,e1,e2⟩=>by
 obtain ⟨y,hy,_,_,q⟩:=(h.all x hx).2.2.2 (.inr k);exact h.abJ y hy (q.trans e2)
theorem AT{A}{o}{nd} :m9 (o::A) nd↔m9 A nd\/(kdO o=109/\mY o=nd/\idO o=nd):=by
 constructor
 ·rintro ⟨x,hx,q⟩
  rcases uX.1 hx with rfl | hx
  ·exact .inr q
  exact .inl ⟨x,hx,q⟩
 rintro (⟨x,hx,q⟩ | q)
 ·exact ⟨x,uY _ hx,q⟩
 exact ⟨o,Zn,q⟩
theorem Ho{S K ys:qX}(hW:D5 S)(hS:∀x,x∈S↔x∈K\/x∈ys)(hK:∀x∈K,L8 K x)(hs:ys.Pairwise (fun a b=>CLt (stO a) (stO b)))(hoff:∀x∈ys,x∉K){k}{o}(ho:ys[k]? =some o):G7 (K++ys.take k) o:=by
 have hoy:=uP ho;have hkl:=(uI.1 ho).1
 have dy:∀x,x∈K++ys.take k->x∈S:=fun x hx=>(hS x).2 ((uV.1 hx).imp (fun q=>q) (fun q=>YD q))
 have hp:=ZN.1 hs
 have low:∀(j:Nat) (x y:OpX),ys[j]? =some x->y∈S->idO y<idO x->y∈K++ys.take j:=fun j x y hj hy hlt=>by
  have hxS:=(hS x).2 (.inr (uP hj));have hc:=zcI (hW.ok y hy) (hW.ok x hxS) hlt
  rcases (hS y).1 hy with q | q
  ·simp_all
  obtain ⟨i,hi,rfl⟩:=YF q
  have aA:i<j:=by
   rcases Nat.lt_trichotomy i j with h | h | h
   ·exact h
   ·subst h;rw [uJ hi] at hj
    cases hj
    exact absurd hc DP
   obtain ⟨eN,rfl⟩:=uI.1 hj;exact absurd (wN hc (hp j i eN hi h)) DP
  refine ZB _ (uP (i:=i) ?_)
  simp_all
 have R9:∀(j:Nat) (x:OpX),ys[j]? =some x->L8 (x::(K++ys.take j)) x:=fun j x hj=>by
  have hxS:=(hS x).2 (.inr (uP hj));have hr:=hW.R9 x hxS;have he:=rM (hW.ok x hxS)
  have up:∀y,y∈S->idO y<idO x->y∈x::(K++ys.take j):=fun y hy hl=>uY _ (low j x y hj hy hl)
  refine ⟨?_,fun hk=> ?_,fun hk=> ?_⟩
  ·rcases hr.1 with q | ⟨y,hy,q1,q2,q3⟩
   ·exact .inl q
   rcases he.1 with ⟨q,q'⟩ | q
   ·by_cases e:idO x=mY x
    ·exact .inl ⟨q,e⟩
    exact .inr ⟨y,up y hy zj,q1,q2,q3⟩
   exact .inr ⟨y,up y hy zj,q1,q2,q3⟩
  ·rcases hr.2.1 hk with q | q | ⟨y,hy,q1,q2,q3⟩
   ·exact .inl q
   ·exact .inr (.inl q)
   exact .inr (.inr ⟨y,up y hy zj,q1,q2,q3⟩)
  obtain ⟨y,hy,q1,q2,q3⟩:=hr.2.2 hk;exact ⟨y,up y hy zj,q1,q2,q3⟩
 refine ⟨hW.ok o ((hS o).2 (.inr hoy)),fun x hx e=> ?_,R9 k o ho,fun x hx=>⟨hW.ok x (dy x hx),?_⟩,fun x hx y hy e=>hW.Y (dy x hx) (dy y hy) e⟩
 ·rcases uV.1 hx with q | q
  ·have:=hW.Y (dy x hx) ((hS o).2 (.inr hoy)) e
   simp_all
  obtain ⟨i,hi,rfl⟩:=YF q
  grind
 rcases uV.1 hx with q | q
 ·exact (hK x q).mono (fun y hy=>Zm _ hy)
 obtain ⟨i,hi,e⟩:=YF q
 have hi':i<k/\i<ys.length:=by rw [Zr] at hi;omega
 rw [List.getElem_take] at e
 have hxi:ys[i]? =some x:=by rw [<-e];exact uJ hi'.2
 refine (R9 i x hxi).mono (fun y hy=> ?_)
 rcases uX.1 hy with rfl | hy
 ·exact hx
 rcases uV.1 hy with hy | hy
 ·simp_all
 refine ZB _ ?_;have:ys.take i=(ys.take k).take i:=xv
 grind
end
section
open RowKit Lib Go.Sort
def kV(ao:Nat->Option Addr)(cap:Nat->Nat)(R:Rws):Value:=.agg #[.slice (ao 0) (R 0).length (cap 0),.slice (ao 1) (R 1).length (cap 1),.slice (ao 2) (R 2).length (cap 2),.slice (ao 3) (R 3).length (cap 3)]
def C8(w:qW)(ao:Nat->Option Addr)(R:Rws):Prop:=∀i,i<4->F1 w (ao i) (R i)
theorem C8.later{w w'}{ao}{R}(h:C8 w ao R)(hb:qL w w'):C8 w' ao R:=fun i hi=>(h i hi).later hb
def I4(w:qW)(b:Nat)(ao:Nat->Option Addr)(cap:Nat->Nat)(R:Rws):Prop:=w.heap[b]? =some (.cells #[.slice (ao 0) (R 0).length (cap 0),.slice (ao 1) (R 1).length (cap 1),.slice (ao 2) (R 2).length (cap 2),.slice (ao 3) (R 3).length (cap 3)] 138 (0,0))
theorem I4.at{w}{b}{ao}{cap}{R}(h:I4 w b ao cap R){i}(hi:i<4):w.cell? (qA b i)=some (.slice (ao i) (R i).length (cap i)):=by
 unfold I4 at h
 match i,hi with
 | 0,_=>simp [World.cell?,h]
 | 1,_=>simp [World.cell?,h]
 | 2,_=>simp [World.cell?,h]
 | 3,_=>simp [World.cell?,h]
theorem I4.fz{w}{b}{ao}{cap}{R}(h:I4 w b ao cap R)(o):w.frozen? (qA b o)=false:=by
 unfold I4 at h;simp [World.frozen?,h]
theorem I4.lt{w}{b}{ao}{cap}{R}(h:I4 w b ao cap R):b<w.heap.size:=(uK.1 h).1
theorem I4.F5(w:qW)(ao)(cap)(R):I4 (w.alloc (.cells #[.slice (ao 0) (R 0).length (cap 0),.slice (ao 1) (R 1).length (cap 1),.slice (ao 2) (R 2).length (cap 2),.slice (ao 3) (R 3).length (cap 3)] 138)) w.heap.size ao cap R:=heap_alloc_new w _
theorem I4.later{w w'}{b}{ao}{cap}{R}(h:I4 w b ao cap R)(hb:qL w w'):I4 w' b ao cap R:=(hb.block b h.lt).trans h
theorem F1.e{w}{ao}{xs}(h:F1 w ao xs){i}{x}(hi:xs[i]? =some x):∃blk off,ao=some (qA blk off)/\∀c u,(ny x)[c]? =some u->w.cell? (qA blk (off+i*8+c))=some u:=by
 rcases h with h | ⟨b,o,h1,h2⟩
 ·subst h;simp at hi
 refine ⟨b,o,h1,fun c u hc=> ?_⟩
 have hl:=(uI.1 hi)
 have h8:c<8:=(uI.1 hc).1;have e:=ma xs i c hl.1 h8
 grind
theorem pU{fn}{p u:Tmp}{ty}(h:fn.results= #[.cell p ty,.tmp u])(tmps)(P)(w):
  (results fn tmps).run P w=
   ((asAddr (tmps.getD p undef)).run P w).andThen fun a w1=>((loadVar ty a).run P w1).andThen fun v w2=>.ok (.tuple #[v,tmps.getD u undef]) w2:=by
 simp only [results,h]
 simp_all
theorem IQ(w)(ao)(cap)(R)(i n:Nat)(hi:i<4)(hx:(R i).length<=n):
  qC 214 #[kV ao cap R,qN i,qI ((n:Int)+1)] w (qR (.tuple #[mJ lQ,.bool false]) w):=by
 unfold kV;have dn:decide (((R i).length:Int)<(n:Int)+1)=true:=zm;have h4:i=0\/i=1\/i=2\/i=3:=zj
 rcases h4 with rfl | rfl | rfl | rfl
 all_goals
  go_enter func214,ntmps214;go_wp2;(try simp only [Exit.inBlock,Exit.then]);refine bodyPost_ret (v:=.tuple #[mJ lQ,.bool false]) ?_ rfl ⟨rfl,?_⟩
  ·exact ke7
  exact (zh w _).alloc zr _
theorem JW(w)(ao)(cap)(R)(i n:Nat)(x)(hK:C8 w ao R)(hi:i<4)(hn:n<1000)(hx:(R i)[n]? =some x):
  qC 214 #[kV ao cap R,qN i,qI ((n:Int)+1)] w (qR (.tuple #[mJ x,.bool true]) w):=by
 obtain ⟨blk,off,ha,hc⟩:=(hK i hi).e hx;have gz:=(uI.1 hx).1;obtain ⟨t,b,m,k,nd,o,s,v⟩:=x;have cN:blk<w.heap.size:=uN w (qA blk (off+n*8+0)) (hc 0 _ rfl)
 have hcell:∀o1 o2 c u,(ny (t,b,m,k,nd,o,s,v))[c]? =some u->((w.alloc o1).alloc o2).cell? (qA blk (off+n*8+c))=some u:=fun o1 o2 c u hu=>by
  rw [(((uM w.heap.size w).alloc zg o1).alloc zr o2).cell (p:=(qA blk (off+n*8+c))) cN];exact hc c u hu
 have r0:=fun o1 o2=>hcell o1 o2 0 _ rfl
 have r1:=fun o1 o2=>hcell o1 o2 1 _ rfl
 have r2:=fun o1 o2=>hcell o1 o2 2 _ rfl
 have r3:=fun o1 o2=>hcell o1 o2 3 _ rfl
 have r4:=fun o1 o2=>hcell o1 o2 4 _ rfl
 have r5:=fun o1 o2=>hcell o1 o2 5 _ rfl
 have r6:=fun o1 o2=>hcell o1 o2 6 _ rfl
 have r7:=fun o1 o2=>hcell o1 o2 7 _ rfl
 simp only [ZC] at r0;have dn:decide (((R i).length:Int)<(n:Int)+1)=false:=zm;have en:((n:Int)+1 - 1)=(n:Int):=zj;have wn:((n:Int)).toNat=n:=zj;have pn:(0:Int)<=(n:Int):=zj;have bn:(n:Int)<((R i).length:Int):=zj;have h4:i=0\/i=1\/i=2\/i=3:=zj;unfold kV mJ
 rcases h4 with rfl | rfl | rfl | rfl
 all_goals
  rw [ha];go_enter func214,ntmps214;go_wp2;(try simp only [Exit.inBlock,Exit.then]);refine bodyPost_ret (v:=.tuple #[.agg (qOa t b m k nd o s v),.bool true]) ?_ rfl ⟨rfl,?_⟩
  ·exact kc1
  exact (zh w _).alloc zr _
theorem KL(x)(tm)(w):qC 358 #[mJ x,qI tm] w (qR (qI (Aq x.1 tm)) w):=by
 obtain ⟨t,b,n,k,nd,o,s,v⟩:=x;unfold mJ;dsimp only;go_enter func358,ntmps358;go_wp2_with (go_at_call 178;refine (BQ _ _ _).mono ?_;rintro e w' ⟨rfl,rfl⟩);go_ret;exact ⟨rfl,zh w _⟩
def zdr(xs:qX)(tm:Int)(i:Nat)(b:Bool):Prop:=i<=xs.length/\(∀j x,j<i->xs[j]? =some x->x.1<tm)/\(∀j x,i<=j->xs[j]? =some x->tm<=x.1)/\(b=true↔∃x,xs[i]? =some x/\x.1=tm)
def NX(xs:qX):Prop:=∀(i j:Nat) (x y:OpX),i<=j->xs[i]? =some x->xs[j]? =some y->x.1<=y.1
theorem Hl(ao)(cap)(xs)(tm)(w)(hin:F1 w ao xs)(hr:NX xs)(hn:xs.length<=1000):
  qC 357 #[.slice ao xs.length cap,qI tm,.func (.func 358) #[] #[]] w fun e w'=>∃(i:Nat) (b:Bool),e=qT #[qN i,.bool b]/\zdr xs tm i b/\qL w w':=by
 have HI:Aside (F1 w ao xs/\NX xs):=⟨hin,hr⟩
 clear hin hr;go_enter func357,ntmps357;go_wp2;go_loopg [9,10,11] (xs.length+1) (fun kx s9 gW iX wr=>∃(i j:Nat),s9=qN i/\gW=qN j/\i<=j/\j<=xs.length/\j - i<kx/\Aside (qL w wr/\(∀k x,k<i->xs[k]? =some x->x.1<tm)/\(∀k x,j<=k->xs[k]? =some x->tm<=x.1)))
 case atStart=>exact ⟨0,xs.length,rfl,rfl,uW _,uL _,zj,uM _ w,fun k x hk=>zj,fun k x hk h=>by have:=(uI.1 h).1;omega⟩
 case round=>
  obtain ⟨i,j,rfl,rfl,aA,hj,aY,A⟩:=hrel;by_cases hlt:i<j
  ·have d1:qlt i j=true:=by simp;omega
   obtain ⟨h,hh⟩:∃h:Nat,h=(i+j) / 2:=⟨_,rfl⟩
   have eh:((i:Int)+(j:Int)) / 2=(h:Int):=zj;have hl:h<xs.length:=zj;have wh:((h:Int)).toNat=h:=zj;have ph:(0:Int)<=(h:Int):=zj;have bh:(h:Int)<(xs.length:Int):=zj;have hih:i<=h/\h<j:=zj;clear hh
   obtain ⟨⟨t,b,n,k,nd,o,s,v⟩,hx⟩:∃x,Aside (xs[h]? =some x):=⟨xs[h],uJ hl⟩
   obtain ⟨blk,off,aG,hc⟩:=(HI.o.1.later A.o.1).e hx.o;subst aG;have r0:=hc 0 _ rfl;have r1:=hc 1 _ rfl;have r2:=hc 2 _ rfl;have r3:=hc 3 _ rfl;have r4:=hc 4 _ rfl;have r5:=hc 5 _ rfl;have r6:=hc 6 _ rfl;have r7:=hc 7 _ rfl;simp only [ZC] at r0;clear hc;have ac:=KL (t,b,n,k,nd,o,s,v) tm wr;unfold mJ at ac;dsimp only at ac;by_cases hc:t<tm
   ·have ec:Aq t tm= -1:=by unfold Aq;rw [if_pos hc]
    rw [ec] at ac;have HC:Aside (t<tm):=hc;clear hc ec;go_wp2_with (go_at_call 358;refine ac.mono ?_;clear ac;rintro e w' ⟨rfl,hb'⟩;have A':Aside (qL w w'):=(zi A.o.1 hb');clear hb' r0 r1 r2 r3 r4 r5 r6 r7);go_roundg (j - h)
    case measure=>omega
    case rel=>
     refine ⟨h+1,j,zN,rfl,zj,hj,zj,A'.o,fun k' x hk cQ=> ?_,A.o.2.2⟩;have:=HI.o.2 k' h x _ zj cQ hx.o;have:=HC.o;omega
   have hz:0<=Aq t tm:=by unfold Aq;rw [if_neg hc];split<;>omega
   obtain ⟨z,ez⟩:∃z,Aq t tm=z:=⟨_,rfl⟩
   rw [ez] at ac hz;have dz:decide (z<0)=false:=zm;have HC:Aside (¬t<tm):=hc;clear hc ez;go_wp2_with (go_at_call 358;refine ac.mono ?_;clear ac;rintro e w' ⟨rfl,hb'⟩;have A':Aside (qL w w'):=(zi A.o.1 hb');clear hb' r0 r1 r2 r3 r4 r5 r6 r7);go_roundg (h - i+1)
   case measure=>omega
   case rel=>
    refine ⟨i,h,rfl,rfl,zj,zj,zj,A'.o,A.o.2.1,fun k' x hk cQ=> ?_⟩;have:=HI.o.2 h k' _ x zj hx.o cQ;have:=HC.o;omega
  have d1:qlt i j=false:=zm;obtain rfl:i=j:=zj;by_cases ce:i<xs.length
  ·have d2:qlt i xs.length=true:=by simp;omega
   have wh:((i:Int)).toNat=i:=zj;have ph:(0:Int)<=(i:Int):=zj;have bh:(i:Int)<(xs.length:Int):=zj
   obtain ⟨⟨t,b,n,k,nd,o,s,v⟩,hx⟩:∃x,Aside (xs[i]? =some x):=⟨xs[i],uJ ce⟩
   obtain ⟨blk,off,aG,hc⟩:=(HI.o.1.later A.o.1).e hx.o;subst aG;have r0:=hc 0 _ rfl;have r1:=hc 1 _ rfl;have r2:=hc 2 _ rfl;have r3:=hc 3 _ rfl;have r4:=hc 4 _ rfl;have r5:=hc 5 _ rfl;have r6:=hc 6 _ rfl;have r7:=hc 7 _ rfl;simp only [ZC] at r0;clear hc;have ac:=KL (t,b,n,k,nd,o,s,v) tm wr;unfold mJ at ac;dsimp only at ac
   have hz:Aside ((Aq t tm==0)=decide (t=tm)):=by
    show (Aq t tm==0)=decide (t=tm)
    unfold Aq;by_cases h1:t<tm
    ·rw [if_pos h1];have:t≠tm:=by omega
     simp [this]
    rw [if_neg h1];by_cases h2:tm<t
    ·rw [if_pos h2];have:t≠tm:=by omega
     simp [this]
    rw [if_neg h2];have:t=tm:=zj;simp [this]
   obtain ⟨z,ez⟩:=za (Aq t tm);rw [<-ez] at ac hz;clear ez;go_wp2_with (go_at_call 358;refine ac.mono ?_;clear ac;rintro e w' ⟨rfl,hb'⟩;have A':Aside (qL w w'):=(zi A.o.1 hb');clear hb' r0 r1 r2 r3 r4 r5 r6 r7);go_ret2;refine ⟨i,_,rfl,⟨hj,A.o.2.1,A.o.2.2,?_⟩,A'.o⟩;rw [hz.o,decide_eq_true_iff];constructor
   ·intro e;exact ⟨_,hx.o,e⟩
   rintro ⟨x,cQ,e⟩;rw [hx.o] at cQ
   cases cQ
   exact e
  have d2:qlt i xs.length=false:=zm;go_wp2;go_ret2;refine ⟨i,false,rfl,⟨hj,A.o.2.1,A.o.2.2,?_⟩,A.o.1⟩;constructor
  ·intro e;cases e
  rintro ⟨x,cQ,e⟩;have:=(uI.1 cQ).1;omega
def rE(R:Rws)(id:Int):Option OpX:=(lX R).find? (fun x=>decide (idO x=id))
theorem Dn{R}{id}{x}(h:rE R id=some x):x∈lX R/\idO x=id:=by
 grind [rE,List.mem_of_find?_eq_some]
theorem findK_none{R}{id} :rE R id=none↔∀x∈lX R,idO x≠id:=by
 unfold rE
 simp_all
theorem Da{R}(h:I3 R){x}(hx:x∈lX R):rE R (idO x)=some x:=by
 cases hf:rE R (idO x) with
 | none=>exact absurd rfl (findK_none.1 hf x hx)
 | some y=>
  obtain ⟨a,b⟩:=Dn hf;rw [h.Y a hx (Vu (h.num.ok y a) (h.num.ok x hx) b)]
theorem BI{x}(h:mv x=0):4<=idO x/\idO x<4294967300:=by
 have h1:=wu h;unfold idO
 grind
theorem OJ{R}(h:I3 R){id}(ho:id<4\/4294967300<=id):rE R id=none:=
 findK_none.2 (fun x hx e=>by have:=BI (h.num.ok x hx);omega)
theorem I3.ace{R}(h:I3 R){i}(hi:i<4):∀(a b:Nat) (x y:OpX),a<b->(R i)[a]? =some x->(R i)[b]? =some y->x.1<y.1:=by
 intro a b x y hab hx hy;obtain ⟨a1,a2,_⟩:=h.num i hi a x hx;obtain ⟨b1,b2,_⟩:=h.num i hi b y hy;have hp:=ZN.1 (h.L3 hi) a b (uI.1 hx).1 (uI.1 hy).1 hab;rw [(uI.1 hx).2,(uI.1 hy).2] at hp
 simp_all [CLt,stO,byO]
theorem I3.acP{R}(h:I3 R){i}(hi:i<4):NX (R i):=fun a b x y hab hx hy=>by
 rcases Yc a b with q | q
 ·have:=h.ace hi a b x y q hx hy;omega
 grind
theorem Rd{R}(h:I3 R){id}{i k:Nat}{b}(hi:i<4)(e:id % 4=(i:Int))(hb:zdr (R i) (id / 4) k b):(b=false->rE R id=none)/\(b=true->∃x,(R i)[k]? =some x/\rE R id=some x):=by
 obtain ⟨h1,h2,h3,h4⟩:=hb;refine ⟨fun hf=>findK_none.2 (fun x hx ex=> ?_),fun ht=> ?_⟩
 ·obtain ⟨m,hm,hxm⟩:=mem_allR.1 hx;obtain ⟨j,a1,a2,a3,_⟩:=h.num.e hm hxm;have e1:x.2.1=byO x:=rfl;unfold idO at ex;obtain rfl:m=i:=zj;have ht:x.1=id / 4:=zj
  have hkj:j=k:=by
   rcases Nat.lt_trichotomy j k with q | q | q
   ·have:=h2 j x q a1;omega
   ·exact q
   have hk:k<(R m).length:=by have:=(uI.1 a1).1;omega
   have ek:=uJ hk;have:=h3 k _ zg ek;have:=h.ace hm k j _ x q ek a1;omega
  simp_all
 obtain ⟨x,hx,et⟩:=h4.1 ht;refine ⟨x,hx,?_⟩;obtain ⟨b1,b2,_⟩:=h.num i hi k x hx;have e1:x.2.1=byO x:=rfl
 have:idO x=id:=by unfold idO;omega
 rw [<-this];exact Da h (mem_allR.2 ⟨i,hi,uP hx⟩)
def m6(W:qW)(b:Nat)(x:OpX):Prop:=W.heap[b]? =some (.cells (qVa x) 88 (0,0))
theorem m6.lt{W}{b}{x}(h:m6 W b x):b<W.heap.size:=(uK.1 h).1
theorem m6.later{W W'}{b}{x}(h:m6 W b x)(hb:qL W W'):m6 W' b x:=(hb.block b h.lt).trans h
theorem m6.F5(W:qW)(x):m6 (W.alloc (qVc x)) W.heap.size x:=heap_alloc_new W _
theorem m6.cells{W}{b}{x}(h:m6 W b x):W.cell? (qB b)=some (qI x.1)/\W.cell? (qA b 1)=some (qI x.2.1)/\W.cell? (qA b 2)=some (qI x.2.2.1)/\W.cell? (qA b 3)=some (.int .u8 (x.2.2.2.1:Int))/\W.cell? (qA b 4)=some (qI x.2.2.2.2.1)/\W.cell? (qA b 5)=some (qI x.2.2.2.2.2.1)/\W.cell? (qA b 6)=some (.string x.2.2.2.2.2.2.1)/\W.cell? (qA b 7)=some (.string x.2.2.2.2.2.2.2)/\∀c,W.frozen? (qA b c)=false:=by
 unfold m6 at h;exact km7
theorem mZ{w W}{b}(h:qL w W)(hb:w.heap.size<=b)(o)(vs):qL w (W.setCells b o vs):=h.trans ((lZ b vs o W).m8 h.size (fun k e=>zj))
theorem No{ad}(w)(ao)(cap)(R)(id)(hE:U7 ad w)(ho:id<4\/4294967300<=id)(h2: -9223372036854775808<=id)(h3:id<=9223372036854775807):
  qC 323 #[kV ao cap R,qI id] w (qR (.tuple #[mJ lQ,.bool false]) w):=by
 unfold kV;obtain ⟨U,hU⟩:=za ((w.alloc (.cells #[.slice (ao 0) (R 0).length (cap 0),.slice (ao 1) (R 1).length (cap 1),.slice (ao 2) (R 2).length (cap 2),.slice (ao 3) (R 3).length (cap 3)] 138)).alloc qZc);have hb:qL w U:=zP
 have hz:U.heap[w.heap.size+1]? =some (.cells qZa 88 (0,0)):=by
  rw [hU];have:=heap_alloc_new (w.alloc (.cells #[.slice (ao 0) (R 0).length (cap 0),.slice (ao 1) (R 1).length (cap 1),.slice (ao 2) (R 2).length (cap 2),.slice (ao 3) (R 3).length (cap 3)] 138)) qZc;exact kc7
 have ee:=(hE.later hb).c1;have ac:=zci id U _ _ ee (uN U (qB 0) ee) ho h2 h3;have HB:Aside (qL w U):=hb;clear hb hE ee;go_enter func323,ntmps323;go_wp2_with fail;rw [<-hU];clear hU;refine ac.mono ?_;clear ac;rintro e w1 ⟨rfl,hb1⟩;obtain ⟨S,hS⟩:=za w.heap.size
 have aw:w1.heap[S+1]? =some (.cells qZa 88 (0,0)):=by
  rw [hS,hb1.block _ (uK.1 hz).1];exact hz
 have hl1:=(uK.1 aw).1;have B1:Aside (qL w w1):=zi HB.o hb1;rw [<-hS];clear hb1 hz HB;obtain ⟨y0,y1,y2,y3,y4,y5,y6,y7,f8⟩:=m6.cells (x:=lQ) aw;unfold lQ at y0 y1 y2 y3 y4 y5 y6 y7;dsimp only at y0 y1 y2 y3 y4 y5 y6 y7;have HS:Aside (S=w.heap.size):=hS;clear hS aw;go_wp2;(try simp only [Exit.inBlock,Exit.then]);refine bodyPost_ret (v:=.tuple #[mJ lQ,.bool false]) ?_ rfl ⟨rfl,?_⟩
 ·exact ke7
 exact (mZ (b:=S+1) B1.o xF 0 qZl).alloc (mZ (b:=S+1) B1.o xF 0 _).size _
theorem Rh(w)(ao)(cap)(R)(id)(hK:C8 w ao R)(hR:I3 R)(hl:∀i,i<4->(R i).length<=1000)(h1:4<=id)(h2:id<4294967300):
  qC 323 #[kV ao cap R,qI id] w (qR (.tuple #[mJ ((rE R id).getD lQ),.bool (rE R id).isSome]) w):=by
 obtain ⟨i,hi,ei⟩:∃i:Nat,i<4/\id % 4=(i:Int):=⟨(id % 4).toNat,zj,zj⟩
 have wi:((i:Int)).toNat=i:=zj;have pi:(0:Int)<=(i:Int):=zj;have bi:(i:Int)<4:=zj;unfold kV;obtain ⟨S,hS⟩:=za w.heap.size;obtain ⟨U,hU⟩:=za ((w.alloc (.cells #[.slice (ao 0) (R 0).length (cap 0),.slice (ao 1) (R 1).length (cap 1),.slice (ao 2) (R 2).length (cap 2),.slice (ao 3) (R 3).length (cap 3)] 138)).alloc qZc);have hb:qL w U:=zP
 have hz:m6 U (S+1) lQ:=by
  rw [hU,hS];have:=heap_alloc_new (w.alloc (.cells #[.slice (ao 0) (R 0).length (cap 0),.slice (ao 1) (R 1).length (cap 1),.slice (ao 2) (R 2).length (cap 2),.slice (ao 3) (R 3).length (cap 3)] 138)) qZc;exact kc7
 have hk:I4 U S ao cap R:=yb;have ac:=QZ id U h1 h2;rw [ei] at ac;obtain ⟨tm,etm⟩:=za (id / 4);rw [<-etm] at ac
 have HB:Aside (qL w U/\I4 U S ao cap R/\m6 U (S+1) lQ):=⟨hb,hk,hz⟩
 have HS:Aside (S=w.heap.size/\tm=id / 4/\id % 4=(i:Int)):=⟨hS,etm,ei⟩
 clear hb hz hk etm ei;go_enter func323,ntmps323;go_wp2_with fail;rw [<-hU,<-hS];clear hU hS;refine ac.mono ?_;clear ac;rintro e w1 ⟨rfl,hb1⟩;obtain ⟨V,hV⟩:=za (w1.alloc (.cells #[qI tm,qN i] 86))
 have bV:qL w1 V:=by rw [hV];exact zh w1 _
 have HV:Aside (qL w V/\I4 V S ao cap R/\m6 V (S+1) lQ):=⟨HB.o.1.trans ((hb1.mono HB.o.1.size).trans (bV.mono (uO HB.o.1.size hb1.size))),(HB.o.2.1.later hb1).later bV,(HB.o.2.2.later hb1).later bV⟩
 have aI:V.heap[w1.heap.size]? =some (.cells #[qI tm,qN i] 86 (0,0)):=by rw [hV];exact heap_alloc_new w1 _
 have s0:V.cell? (qB w1.heap.size)=some (qI tm):=by simp [World.cell?,aI]
 have s1:V.cell? (qA w1.heap.size 1)=some (qN i):=by simp [World.cell?,aI]
 have k1:=HV.o.2.1.at hi;have hbs:=Hl (ao i) (cap i) (R i) tm V ((hK.later HV.o.1) i hi) (hR.acP hi) (hl i hi);clear hb1 HB bV aI;go_upto_region 4 with fail;rw [<-hV];clear hV;go_wp2_with fail;refine hbs.mono ?_;clear hbs;rintro e w2 ⟨k,b,rfl,hbk,hb2⟩;have hfk:=Rd hR hi HS.o.2.2 (by rw [<-HS.o.2.1];exact hbk)
 have H2:Aside (qL w w2/\m6 w2 (S+1) lQ):=⟨zi HV.o.1 hb2,HV.o.2.2.later hb2⟩
 have KN:Aside (C8 w2 ao R):=hK.later H2.o.1;obtain ⟨y0,y1,y2,y3,y4,y5,y6,y7,f8⟩:=H2.o.2.cells;unfold lQ at y0 y1 y2 y3 y4 y5 y6 y7;dsimp only at y0 y1 y2 y3 y4 y5 y6 y7;clear hb2 HV s0 s1 k1
 cases b with
 | false=>
  have HF:Aside (rE R id=none):=hfk.1 rfl;clear hfk hbk;go_wp2;(try simp only [Exit.inBlock,Exit.then]);refine bodyPost_ret (v:=.tuple #[mJ lQ,.bool false]) ?_ rfl ⟨by rw [HF.o];rfl,?_⟩
  ·exact ke7
  exact mZ (b:=S+1) H2.o.1 xF 0 qZl
 | true=>
  obtain ⟨⟨t,b,n,kd,nd,o,s,v⟩,hx,hf⟩:=hfk.2 rfl;have HF:Aside (rE R id=some (t,b,n,kd,nd,o,s,v)):=hf;obtain ⟨blk,off,aG,hc⟩:=(KN.o i hi).e hx;have hkl:=(uI.1 hx).1;have r0:=hc 0 _ rfl;have r1:=hc 1 _ rfl;have r2:=hc 2 _ rfl;have r3:=hc 3 _ rfl;have r4:=hc 4 _ rfl;have r5:=hc 5 _ rfl;have r6:=hc 6 _ rfl;have r7:=hc 7 _ rfl;simp only [ZC] at r0;have wk:((k:Int)).toNat=k:=zj;have pk:(0:Int)<=(k:Int):=zj;have bk:(k:Int)<((R i).length:Int):=zj;rw [aG];clear hfk hbk hf hx hc aG;go_wp2;(try simp only [Exit.inBlock,Exit.then]);refine bodyPost_ret (v:=.tuple #[.agg (qOa t b n kd nd o s v),.bool true]) ?_ rfl ⟨by rw [HF.o];rfl,?_⟩
  ·exact kc1
  exact mZ (b:=S+1) H2.o.1 xF 0 (qOl t b n kd nd o s v)
theorem Fk{ad}(w)(ao)(cap)(R)(id)(hE:U7 ad w)(hK:C8 w ao R)(hR:I3 R)(hl:∀i,i<4->(R i).length<=1000)(h2: -9223372036854775808<=id)(h3:id<=9223372036854775807):
  qC 323 #[kV ao cap R,qI id] w (qR (.tuple #[mJ ((rE R id).getD lQ),.bool (rE R id).isSome]) w):=by
 by_cases h:id<4\/4294967300<=id
 ·rw [OJ hR h];exact No w ao cap R id hE h h2 h3
 exact Rh w ao cap R id hK hR hl zj zj
theorem m6.ct{W}{p}{t b m}{k}{nd o}{s v}(h:m6 W p (t,b,m,k,nd,o,s,v)):W.cell? (qB p)=some (qI t)/\W.cell? (qA p 1)=some (qI b)/\W.cell? (qA p 2)=some (qI m)/\W.cell? (qA p 3)=some (.int .u8 (k:Int))/\W.cell? (qA p 4)=some (qI nd)/\W.cell? (qA p 5)=some (qI o)/\W.cell? (qA p 6)=some (.string s)/\W.cell? (qA p 7)=some (.string v)/\∀c,W.frozen? (qA p c)=false:=h.cells
end
section
theorem GV{R}(h:u9 R){T l}(hT:D5 T)(hc:Q8 (lX R) T)(hl:∀x,x∈l->x∈T)(iy:∀x,x∈T->x∈lX R\/x∈l)(hlen:(lX R).length+l.length<=400):∃fresh,(∀a,oW (lX R) l a->a= .inr fresh)/\M2 (lX R) fresh/\(∀x,x∈lX R++fresh↔x∈lX R\/x∈T)/\D5 (lX R++fresh):=by
 obtain ⟨out,h1,h2⟩:=tc h.num.one hT.one hc hT.ok (l:=l) 0 (fresh:=[]) (fun x hx=>hl x hx) (fun x hx=>ya);obtain ⟨k1,k2,k3,k4,k5⟩:=oT (pW _) h1
 have hmem:∀x,x∈lX R++out↔x∈lX R\/x∈T:=fun x=>by
  grind
 have hw:D5 (lX R++out):=(h.G6.adp hT hc).congr (fun x=>zL);refine ⟨out,fun a ha=> ?_,k1,hmem,hw⟩;unfold oW at ha;rw [h1] at ha;dsimp only at ha
 rcases ha with ⟨⟨x,hx,q1,q2⟩,_⟩ | ⟨_,⟨x,hx,y,hy,q1,q2,q3⟩,_⟩ | ⟨_,_,⟨x,hx,q⟩,_⟩ | ⟨_,q,_⟩ | ⟨_,_,q⟩
 ·exact ((hw.gap x hx).elim q1 q2).elim
 ·exact (q3 (hw.L3 x hx y hy q1 q2)).elim
 ·exact (q (hw.R9 x hx)).elim
 ·simp at k5;omega
 exact q
structure U6 (R:Rws) (i:Nat) (T:Int) (x:OpX):Prop where
 ok:mv x=0
 o9:byO x=(i:Int)
 num:mB x=((R i).length:Int)+1
 time:x.1=T+1
 R9:L8 (x::lX R) x
theorem Vd{R}(h:M8 R){i:Nat}(hi:i<4){y}(hy:y∈lX R)(e:byO y=(i:Int)):mB y<=((R i).length:Int):=by
 obtain ⟨k,hk,hyk⟩:=mem_allR.1 hy;obtain ⟨j,hj,q1,q2,_⟩:=h.e hk hyk
 grind
theorem U6.G6{R}{i}{T}{x}(hx:U6 R i T x)(hR:u9 R)(hi:i<4)(hT:∀y∈lX R,y.1<=T):D5 (x::lX R)/\∀y∈lX R,byO y=byO x->mB y<mB x:=by
 have hnew:∀y∈lX R,byO y=byO x->mB y<mB x:=fun y hy e=>by
  have:=Vd hR.num hi hy (e.trans hx.o9);have:=hx.num;omega
 refine ⟨hR.G6.add hx.ok ?_ hnew (fun y hy=> ?_) hx.R9,hnew⟩
 ·by_cases h0:(R i).length=0
  ·left;have:=hx.num;omega
  right;have hl:(R i).length - 1<(R i).length:=zj;have hm:=List.getElem_mem hl;obtain ⟨j,hj,q1,q2,_⟩:=hR.num.e hi hm;have bU:=hR.num i hi ((R i).length - 1) _ (uJ hl);refine ⟨(R i)[(R i).length - 1],mem_allR.2 ⟨i,hi,hm⟩,by rw [q1,hx.o9],?_⟩;have:=hx.num;omega
 have h1:=hT y hy;have h2:=hx.time;unfold CLt stO;dsimp only;omega
theorem Ld{R}{i}{T}{x}(hx:U6 R i T x)(hR:u9 R)(hi:i<4)(hT:∀y∈lX R,y.1<=T):Q8 (lX R) (x::lX R):=fun a ha b hb e1 e2=>by
 rcases uX.1 hb with rfl | hb
 ·have:=(hx.G6 hR hi hT).2 a ha e1;omega
 exact hR.G6.one a ha b hb e1 e2
theorem M8.J2{R}(h:M8 R):(lX R).Nodup:=by
 have row:∀i,i<4->(R i).Nodup:=fun i hi=>by
  unfold List.Nodup;rw [ZN];intro a b ha hb hab e;have h1:=h i hi a _ (uJ ha);have h2:=h i hi b _ (uJ hb);rw [e] at h1;have:=h1.2.1;have:=h2.2.1;omega
 have off:∀i j,i<4->j<4->i≠j->∀a∈R i,∀b∈R j,a≠b:=fun i j hi hj aA a ha b hb e=>by
  obtain ⟨_,_,q1,_⟩:=h.e hi ha;obtain ⟨_,_,q2,_⟩:=h.e hj hb;rw [e] at q1;omega
 grind [lX,ZI]
theorem oP{α:Type}[DecidableEq α]:∀ {l H:List α},l.Nodup->(∀x,x∈l->x∈H)->l.length<=H.length
 | [],_,_,_=>uW _
 | x::t,H,hn,hs=>by
  obtain ⟨h1,h2⟩:=List.nodup_cons.1 hn;have hx:=hs x zr;have:=oP (l:=t) (H:=H.erase x) h2 (fun y hy=>(List.mem_erase_of_ne (fun e=>h1 (by rw [<-e];exact hy))).2 (hs y (by simp [hy])))
  grind
end
section
open RowKit Lib Go.Sort
section
variable {P:Program} {ops:Array Oper} {Q:Exit→Act→World→Prop} {md:Region.Mode} {S:World→Prop}
theorem we{i j}{oi oj}{fuel}{listed}{a}{w}(hr:Region.ready md ops listed= [i,j])(hoi:ops[i]? =some oi)(hoj:ops[j]? =some oj)
  (h1:∀K:Act->World->Prop,(∀a' w',S w'->wpAnyH P md ops Q S fuel (listed.setIfInBounds i true) a' w'->K a' w')->if Region.wanted oi (yielded ops a.tmps)=true then Oper.wp P oi a w K Q else K (a.put oi.dst undef) w)
  (h2:∀K:Act->World->Prop,(∀a' w',S w'->wpAnyH P md ops Q S fuel (listed.setIfInBounds j true) a' w'->K a' w')->if Region.wanted oj (yielded ops a.tmps)=true then Oper.wp P oj a w K Q else K (a.put oj.dst undef) w):wpAnyH P md ops Q S (fuel+1) listed a w:=by
 refine ⟨fun h0=>zL,fun k hk=> ?_⟩;rw [hr] at hk;simp only [uX,ZP,or_false] at hk
 rcases hk with rfl | rfl
 ·have:=h1 (fun a' w'=>S w'/\wpAnyH P md ops Q S fuel (listed.setIfInBounds k true) a' w') (fun a' w' h1 h2=>⟨h1,h2⟩);unfold wpOp
  grind
 have:=h2 (fun a' w'=>S w'/\wpAnyH P md ops Q S fuel (listed.setIfInBounds k true) a' w') (fun a' w' h1 h2=>⟨h1,h2⟩);unfold wpOp
 grind
end
def sZ(S:qX)(nd:Int):Bool:=S.any (fun x=>decide (kdO x=109/\mY x=nd/\idO x=nd))
theorem knownB_iff{S}{nd} :sZ S nd=true↔m9 S nd:=by
 unfold sZ m9;simp
def Qc(S:qX)(nd:Int):Bool:=decide (nd=0) ||(decide (nd=1) ||sZ S nd)
end
section
open RowKit
structure But (pb:Nat) (w w':qW):Prop where
 os:w'.os=w.os
 tape:w'.tape=w.tape
 output:w'.output=w.output
 size:w.heap.size<=w'.heap.size
 block:∀k,k<w.heap.size->k≠pb->w'.heap[k]? =w.heap[k]?
theorem But.y{pb}{w w'}(h:qL w w'):But pb w w':=⟨h.os,h.tape,h.output,h.size,fun k hk _=>h.block k hk⟩
theorem But.later{pb}{w w1 w'}(h:But pb w w1)(hb:qL w1 w'):But pb w w':=
 ⟨hb.os.trans h.os,hb.tape.trans h.tape,hb.output.trans h.output,uO h.size hb.size,fun k hk hn=>(hb.block k (uT hk h.size)).trans (h.block k hk hn)⟩
theorem But.setCell{pb o}{w w1}(h:But pb w w1)(v):But pb w (w1.setCell (qA pb o) v):=by
 have hb:Below 0 w1 (w1.setCell (qA pb o) v):=(uM 0 w1).setCell (uW _) v;exact ⟨hb.os.trans h.os,hb.tape.trans h.tape,hb.output.trans h.output,uO h.size hb.size,fun k hk hn=>(Below.heap_setCell w1 (qA pb o) v k hn).trans (h.block k hk hn)⟩
theorem zcm(b)(w)(h3:0<=b)(h4:b<4):
  qC 77 #[qI b] w fun e w'=>e=qT #[qP w.heap.size,.nilIface]/\w'=w.alloc (.cells #[qI 0,qI b] 128):=by
 go_enter func77,ntmps77;go_wp2;go_ret2;exact ki2
structure Clk (pb:Nat) (T b:Int) (w:qW):Prop where
 t:w.cell? (qB pb)=some (qI T)
 b:w.cell? (qA pb 1)=some (qI b)
 f:w.frozen? (qB pb)=false
theorem Clk.lt{pb}{T b}{w}(h:Clk pb T b w):pb<w.heap.size:=uN w (qB pb) h.t
theorem Clk.later{pb}{T b}{w w'}(h:Clk pb T b w)(hb:qL w w'):Clk pb T b w':=
 ⟨cell_later hb h.t,cell_later hb h.b,(hb.frozen (p:=(qB pb)) h.lt).trans h.f⟩
theorem Clk.set{pb}{T b}{w}(h:Clk pb T b w)(T'):Clk pb T' b (w.setCell (qB pb) (qI T')):=
 ⟨YK _ _ _ h.t,(Zp _ _ _ _ zr).trans h.b,by rw [Zs];exact h.f⟩
theorem Oq(pb)(T c)(w)(eb)(hg:w.cell? (qB 7)=some eb)(hC:Clk pb T c w)(hT:1073741824<=T):
  qC 356 #[qP pb] w (qR (.tuple #[.agg #[qI 0,qI 0],eb]) w):=by
 obtain ⟨k0,k1,kf⟩:=hC;have hz:7<w.heap.size:=uN w (qB 7) hg;have hp:pb<w.heap.size:=uN w (qB pb) k0;go_enter func356,ntmps356;go_wp2;go_region
 all_goals try go_wp2
 exact bodyPost_ret (v:=.tuple #[.agg #[qI 0,qI 0],eb]) ul rfl ⟨rfl,(zh _ _).drew⟩
theorem zaj(pb)(T c)(w)(hC:Clk pb T c w)(h0:0<=T)(hT:T<1073741824):
  qC 356 #[qP pb] w fun e w'=>e= .returned (.tuple #[.agg #[qI (T+1),qI c],.nilIface])/\But pb w w'/\Clk pb (T+1) c w':=by
 obtain ⟨k0,k1,kf⟩:=hC;have hp:pb<w.heap.size:=uN w (qB pb) k0;go_enter func356,ntmps356;go_wp2
 exact bodyPost_ret (v:=.tuple #[.agg #[qI (T+1),qI c],.nilIface]) ul rfl
  ⟨rfl,((But.y (uM _ _)).setCell _).later (zh _ _),(Clk.set (T:=T) ⟨k0,k1,kf⟩ (T+1)).later (zh _ _)⟩

end