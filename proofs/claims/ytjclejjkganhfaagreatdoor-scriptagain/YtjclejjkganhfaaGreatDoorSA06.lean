import Derived.Test.YtjclejjkganhfaaGreatDoorSA02
import Derived.Test.YtjclejjkganhfaaGreatDoorSA03
import Derived.Test.YtjclejjkganhfaaGreatDoorSA04
set_option linter.unusedSimpArgs false
set_option linter.unusedVariables false
set_option maxHeartbeats 64000000
namespace Go.Proofs.YtjclejjkganhfaaGreatDoor
open Go.Proofs.Tryz
section
def nP(S:qX)(b n:Int):Option OpX:=S.find? (fun x=>decide (byO x=b/\mB x=n))
theorem sD{S}{b n}{x}(h:nP S b n=some x):x∈S/\byO x=b/\mB x=n:=by
 grind [nP,List.mem_of_find?_eq_some]
theorem lookK_none{S}{b n} :nP S b n=none↔∀x∈S,¬(byO x=b/\mB x=n):=by
 unfold nP
 simp_all
theorem He(S T)(b n):nP (S++T) b n=(nP S b n).or (nP T b n):=by
 unfold nP
 simp_all
theorem LJ{S}(h1:∀x∈S,∀y∈S,byO x=byO y->mB x=mB y->x=y){x}(hx:x∈S):nP S (byO x) (mB x)=some x:=by
 cases h:nP S (byO x) (mB x) with
 | none=>exact absurd ⟨rfl,rfl⟩ (lookK_none.1 h x hx)
 | some y=>
  grind [sD]
def zab(x y:OpX):Bool:=decide (x.1=y.1/\x.2.1=y.2.1/\x.2.2.1=y.2.2.1/\x.2.2.2.1=y.2.2.2.1/\x.2.2.2.2.1=y.2.2.2.2.1/\x.2.2.2.2.2.1=y.2.2.2.2.2.1/\x.2.2.2.2.2.2.1.data.toList=y.2.2.2.2.2.2.1.data.toList/\x.2.2.2.2.2.2.2.data.toList=y.2.2.2.2.2.2.2.data.toList)
theorem WQ{a b:qY}(h:a.data.toList=b.data.toList):a=b:=by
 cases a;simp_all
theorem sameX_iff{x y} :zab x y=true↔x=y:=by
 unfold zab;rw [decide_eq_true_iff]
 grind [WQ]
def nh(S:qX):Nat->List OpX->List OpX->(Nat×Nat)⊕List OpX
 | _,fresh,[]=>.inr fresh
 | i,fresh,o::t=>if mz o=0 then (match nP (S++fresh) (byO o) (mB o) with
   | none=>nh S (i+1) (fresh++ [o]) t
   | some x=>if zab x o=true then nh S (i+1) fresh t else .inl (i,7)) else .inl (i,mz o)
theorem Es{S fresh t}{i}{o}(h:mz o≠0):nh S i fresh (o::t)= .inl (i,mz o):=by
 rw [nh,if_neg h]
theorem Bl{S fresh t}{i}{o}(h:mz o=0)(hl:nP (S++fresh) (byO o) (mB o)=none):nh S i fresh (o::t)=nh S (i+1) (fresh++ [o]) t:=by
 rw [nh,if_pos h,hl]
theorem sW{S fresh t}{i}{o}(h:mz o=0)(hl:nP (S++fresh) (byO o) (mB o)=some o):nh S i fresh (o::t)=nh S (i+1) fresh t:=by
 rw [nh,if_pos h,hl];exact if_pos (sameX_iff.2 rfl)
theorem sC{S fresh t}{i}{o x}(h:mz o=0)(hl:nP (S++fresh) (byO o) (mB o)=some x)(hx:x≠o):nh S i fresh (o::t)= .inl (i,7):=by
 rw [nh,if_pos h,hl];exact if_neg (fun q=>hx (sameX_iff.1 q))
structure M8 (S fresh:qX):Prop where
 ok:∀x∈fresh,mz x=0
 off:∀x∈fresh,∀y∈S,¬(byO y=byO x/\mB y=mB x)
 one:fresh.Pairwise (fun x y=>¬(byO x=byO y/\mB x=mB y))
theorem pX(S):M8 S []:=⟨fun x h=>qo,fun x h=>qo,List.Pairwise.nil⟩
theorem M8.aaV{S fresh}(h:M8 S fresh){o}(ho:mz o=0)(hl:nP (S++fresh) (byO o) (mB o)=none):M8 S (fresh++ [o]):=by
 have hn:=lookK_none.1 hl;refine ⟨fun x hx=> ?_,fun x hx=> ?_,?_⟩
 ·rcases uU.1 hx with h1 | h1
  ·exact h.ok x h1
  simp_all
 ·rcases uU.1 hx with h1 | h1
  ·exact h.off x h1
  simp_all
 refine List.pairwise_append.2 ⟨h.one,YO _ _,fun x hx y hy=> ?_⟩
 grind
theorem oN{S} :∀ {l:qX} {i:Nat} {fresh out:qX},M8 S fresh->nh S i fresh l= .inr out->M8 S out/\(∀x,x∈out->x∈fresh\/x∈l)/\(∀x,x∈fresh->x∈out)/\(∀x∈l,x∈S\/x∈out)/\out.length<=fresh.length+l.length
 | [],_,_,_,hF,h=>by
  grind [nh]
 | o::t,i,fresh,out,hF,h=>by
  by_cases ho:mz o=0
  ·cases hl:nP (S++fresh) (byO o) (mB o) with
   | none=>
    rw [Bl ho hl] at h;obtain ⟨k1,k2,k3,k4,k5⟩:=oN (hF.aaV ho hl) h
    grind
   | some x=>
    by_cases hx:x=o
    ·subst hx;rw [sW ho hl] at h;obtain ⟨k1,k2,k3,k4,k5⟩:=oN hF h;refine ⟨k1,fun y hy=>(k2 y hy).imp (fun q=>q) (fun q=>Za _ q),k3,fun y hy=> ?_,by simp at k5 |-;omega⟩
     rcases uZ.1 hy with rfl | hy
     ·rcases uU.1 (sD hl).1 with q | q
      ·exact .inl q
      exact .inr (k3 _ q)
     exact k4 y hy
    grind [sC]
  rw [Es ho] at h
  cases h
theorem wt{S T}(h1:∀x∈S,∀y∈S,byO x=byO y->mB x=mB y->x=y)(hT:∀x∈T,∀y∈T,byO x=byO y->mB x=mB y->x=y)(hc:R5 S T)(dC:∀x∈T,mz x=0):
  ∀ {l:qX} (i:Nat) {fresh:qX},(∀x∈l,x∈T)->(∀x∈fresh,x∈T)->∃out,nh S i fresh l= .inr out/\∀x∈out,x∈T
 | [],i,fresh,_,hf=>⟨fresh,rfl,hf⟩
 | o::t,i,fresh,hl,hf=>by
  have ho:=dC o (hl o Zq)
  cases hk:nP (S++fresh) (byO o) (mB o) with
  | none=>
   rw [Bl ho hk];refine wt h1 hT hc dC (i+1) (fun x hx=>hl x (Za _ hx)) (fun x hx=> ?_)
   grind
  | some x=>
   obtain ⟨a,b,c⟩:=sD hk
   have hx:x=o:=by
    rcases uU.1 a with q | q
    ·exact hc x q o (hl o Zq) b c
    grind
   subst hx;rw [sW ho hk];exact wt h1 hT hc dC (i+1) (fun x hx=>hl x (Za _ hx)) hf
abbrev Rws:=Nat->List OpX
def lY(R:Rws):List OpX:=R 0++(R 1++(R 2++R 3))
theorem mem_allR{R}{x} :x∈lY R↔∃i,i<4/\x∈R i:=by
 grind [lY]
def M2(R:Rws):Prop:=∀i:Nat,i<4->∀(j:Nat) (x:OpX),(R i)[j]? =some x->byO x=(i:Int)/\mB x=(j:Int)+1/\mz x=0
def upR(R:Rws)(i:Nat)(l:qX):Rws:=fun j=>if j=i then l else R j
theorem Ua:M2 (fun _=>[]):=fun i _ j x h=>qo
theorem Ab{x}(h:mz x=0):∃i:Nat,i<4/\byO x=(i:Int)/\(byO x).toNat=i:=by
 have h0:=mP h
 grind
theorem M2.e{R}(h:M2 R){i}(hi:i<4){x}(hx:x∈R i):∃j:Nat,(R i)[j]? =some x/\byO x=(i:Int)/\mB x=(j:Int)+1/\mz x=0:=by
 obtain ⟨j,hj,rfl⟩:=YH hx;have e:=uL hj;exact ⟨j,e,h i hi j _ e⟩
theorem M2.one{R}(h:M2 R):∀x∈lY R,∀y∈lY R,byO x=byO y->mB x=mB y->x=y:=by
 intro x hx y hy e1 e2;obtain ⟨i,hi,hx⟩:=mem_allR.1 hx;obtain ⟨k,hk,hy⟩:=mem_allR.1 hy;obtain ⟨j,a1,a2,a3,_⟩:=h.e hi hx;obtain ⟨j',b1,b2,b3,_⟩:=h.e hk hy
 grind
theorem M2.ok{R}(h:M2 R):∀x∈lY R,mz x=0:=by
 intro x hx;obtain ⟨i,hi,hx⟩:=mem_allR.1 hx;obtain ⟨_,_,_,_,h⟩:=h.e hi hx;exact h
theorem M2.gap{R}(h:M2 R):∀x∈lY R,mB x=1\/∃y∈lY R,byO y=byO x/\mB y+1=mB x:=by
 intro x hx;obtain ⟨i,hi,hx⟩:=mem_allR.1 hx;obtain ⟨j,a1,a2,a3,_⟩:=h.e hi hx
 cases j with
 | zero=>exact .inl zj
 | succ j=>
  have hl:=(uK.1 a1).1;have e:=uL (show j<(R i).length by omega);obtain ⟨b1,b2,_⟩:=h i hi j _ e;exact .inr ⟨_,mem_allR.2 ⟨i,hi,uR e⟩,zj,zj⟩
theorem M2.A{R}(h:M2 R){i n:Nat}(hi:i<4):nP (lY R) (i:Int) ((n:Int)+1)=(R i)[n]? :=by
 cases e:(R i)[n]? with
 | none=>
  refine lookK_none.2 (fun x hx ⟨e1,e2⟩=> ?_);obtain ⟨k,hk,hx⟩:=mem_allR.1 hx;obtain ⟨j,a1,a2,a3,_⟩:=h.e hk hx
  grind
 | some x=>
  obtain ⟨b1,b2,_⟩:=h i hi n x e;rw [<-b1,<-b2];exact LJ h.one (mem_allR.2 ⟨i,hi,uR e⟩)
theorem wU{R}{i}(hi:i<4){o}{x} :x∈lY (upR R i (R i++ [o]))↔x∈lY R\/x=o:=by
 constructor
 ·intro h;obtain ⟨k,hk,h⟩:=mem_allR.1 h;unfold upR at h;split at h
  ·rename_i e;subst e
   rcases uU.1 h with h | h
   ·exact .inl (mem_allR.2 ⟨_,hk,h⟩)
   simp_all
  exact .inl (mem_allR.2 ⟨k,hk,h⟩)
 rintro (h | rfl)
 ·obtain ⟨k,hk,h⟩:=mem_allR.1 h;refine mem_allR.2 ⟨k,hk,?_⟩
  grind [upR,Zo]
 refine mem_allR.2 ⟨i,hi,?_⟩;unfold upR
 simp_all
theorem M2.up{R}(h:M2 R){i:Nat}{o}(ho:mz o=0)(hb:byO o=(i:Int))(hn:mB o=((R i).length:Int)+1):M2 (upR R i (R i++ [o])):=by
 intro k hk j x hx;unfold upR at hx;split at hx
 ·rename_i e;subst e;rw [List.getElem?_append] at hx;split at hx
  ·exact h _ hk j x hx
  grind
 exact h k hk j x hx
def Gap(S:qX):Prop:=∃x∈S,mB x≠1/\¬∃y∈S,byO y=byO x/\mB y+1=mB x
def R8(S:qX):Prop:=∃x∈S,∃y∈S,byO x=byO y/\mB x+1=mB y/\¬CLt (stO x) (stO y)
theorem Gap.congr{S T}(e:∀x,x∈S↔x∈T)(h:Gap S):Gap T:=by
 obtain ⟨x,hx,h1,h2⟩:=h;exact ⟨x,(e x).1 hx,h1,fun ⟨y,hy,q⟩=>h2 ⟨y,(e y).2 hy,q⟩⟩
theorem R8.congr{S T}(e:∀x,x∈S↔x∈T)(h:R8 S):R8 T:=by
 obtain ⟨x,hx,y,hy,q⟩:=h;exact ⟨x,(e x).1 hx,y,(e y).1 hy,q⟩
theorem M2.ac0{R}(h:M2 R):¬Gap (lY R):=fun ⟨x,hx,h1,h2⟩=>by
 rcases h.gap x hx with q | q
 ·exact h1 q
 exact h2 q
def rJ(l:qX)(o:OpX):Bool:=match l.getLast? with
 | none=>true
 | some y=>decide (CLt (stO y) (stO o))
def oD:Rws->Bool->List OpX->Option (Rws×Bool)
 | R,z,[]=>some (R,z)
 | R,z,o::t=>if mB o=((R (byO o).toNat).length:Int)+1 then oD (upR R (byO o).toNat (R (byO o).toNat++ [o])) (z &&rJ (R (byO o).toNat) o) t else none
theorem Vu{R}(h:M2 R){i:Nat}(hi:i<4){o}(hb:byO o=(i:Int))(hn:mB o=((R i).length:Int)+1):R8 (lY (upR R i (R i++ [o])))↔R8 (lY R)\/rJ (R i) o=false:=by
 have bW:∀y,(R i).getLast? =some y->y∈lY R/\byO y=byO o/\mB y+1=mB o:=fun y hy=>by
  have gT:(R i)[(R i).length - 1]? =some y:=by rw [<-List.getLast?_eq_getElem?];exact hy
  have hl:=(uK.1 gT).1;obtain ⟨a,b,_⟩:=h i hi _ y gT;exact ⟨mem_allR.2 ⟨i,hi,uR gT⟩,zj,zj⟩
 constructor
 ·rintro ⟨x,hx,y,hy,e1,e2,e3⟩
  rcases (wU hi).1 hx with gi | rfl
  ·rcases (wU hi).1 hy with hy1 | rfl
   ·exact .inl ⟨x,gi,y,hy1,e1,e2,e3⟩
   refine .inr ?_;obtain ⟨k,hk,bD⟩:=mem_allR.1 gi;obtain ⟨j,a1,a2,a3,_⟩:=h.e hk bD
   grind [rJ,decide_eq_false]
  exfalso
  rcases (wU hi).1 hy with hy | rfl
  ·obtain ⟨k,hk,gT⟩:=mem_allR.1 hy;obtain ⟨j,a1,a2,a3,_⟩:=h.e hk gT
   grind
  omega
 rintro (⟨x,hx,y,hy,q⟩ | hr)
 ·exact ⟨x,(wU hi).2 (.inl hx),y,(wU hi).2 (.inl hy),q⟩
 unfold rJ at hr
 cases hl:(R i).getLast? with
 | none=>simp_all
 | some y=>
  rw [hl] at hr;obtain ⟨a,b,c⟩:=bW y hl;exact ⟨y,(wU hi).2 (.inl a),o,(wU hi).2 (.inr rfl),b,c,of_decide_eq_false hr⟩
theorem Gp:∀(F:qX) (R:Rws) (z:Bool),M2 R->M8 (lY R) F->F.Pairwise (fun a b=>mB a<=mB b)->(z=true↔¬R8 (lY R))->
  (oD R z F=none/\Gap (lY R++F))\/∃R' z',oD R z F=some (R',z')/\¬Gap (lY R++F)/\M2 R'/\(∀x,x∈lY R'↔x∈lY R++F)/\(z'=true↔¬R8 (lY R++F))/\(lY R').length=(lY R).length+F.length/\∀i,∃t,R' i=R i++t
 | [],R,z,hN,_,_,hz=>.inr ⟨R,z,rfl,by rw [Ye];exact hN.ac0,hN,fun x=>by rw [Ye],zM,zq,fun i=>⟨[],zq⟩⟩
 | o::t,R,z,hN,hF,hs,hz=>by
  have ho:=hF.ok o Zq;obtain ⟨i,hi,hb,i8⟩:=Ab ho;by_cases hn:mB o=((R i).length:Int)+1
  ·have fZ:=hN.up ho hb hn
   have hF1:M8 (lY (upR R i (R i++ [o]))) t:=by
    refine ⟨fun x hx=>hF.ok x (Za _ hx),fun x hx y hy=> ?_,(Zw.1 hF.one).2⟩
    rcases (wU hi).1 hy with hy | rfl
    ·exact hF.off x (Za _ hx) y hy
    exact (Zw.1 hF.one).1 x hx
   have aw:(z &&rJ (R i) o)=true↔¬R8 (lY (upR R i (R i++ [o]))):=by
    rw [Vu hN hi hb hn,Yk,hz]
    cases rJ (R i) o<;>simp
   have hmem:∀x,x∈lY (upR R i (R i++ [o]))++t↔x∈lY R++o::t:=fun x=>by
    grind [wU]
   have hg:oD R z (o::t)=oD (upR R i (R i++ [o])) (z &&rJ (R i) o) t:=by rw [oD,i8,if_pos hn]
   have hlen:(lY (upR R i (R i++ [o]))).length=(lY R).length+1:=by
    unfold lY upR
    match i,hi with
    | 0,_=>simp;omega
    | 1,_=>simp;omega
    | 2,_=>simp;omega
    | 3,_=>simp;omega
   rcases Gp t _ _ fZ hF1 (Zw.1 hs).2 aw with ⟨a,b⟩ | ⟨R',z',a,b,c,d,e,f,g⟩
   ·exact .inl ⟨hg.trans a,b.congr hmem⟩
   refine .inr ⟨R',z',hg.trans a,fun q=>b (q.congr (fun x=>(hmem x).symm)),c,fun x=>(d x).trans (hmem x),e.trans (not_congr ⟨fun q=>q.congr hmem,fun q=>q.congr (fun x=>(hmem x).symm)⟩),by rw [f,hlen,Zd];omega,fun k=> ?_⟩;obtain ⟨t',gX⟩:=g k
   grind [upR]
  refine .inl ⟨by rw [oD,i8,if_neg hn],o,zq,?_,?_⟩
  ·intro h1;have hlt:0<(R i).length:=zj;have e:=uL hlt;obtain ⟨b1,b2,_⟩:=hN i hi 0 _ e;exact hF.off o Zq _ (mem_allR.2 ⟨i,hi,uR e⟩) ⟨zj,zj⟩
  rintro ⟨y,hy,e1,e2⟩
  rcases uU.1 hy with hy | hy
  ·obtain ⟨k,hk,hy⟩:=mem_allR.1 hy;obtain ⟨j,a1,a2,a3,_⟩:=hN.e hk hy;obtain rfl:k=i:=zj;have hj:=(uK.1 a1).1
   have hl:j+1<(R k).length:=by
    rcases Yv (j+1) (R k).length with q | q
    ·exact q
    omega
   have e:=uL hl;obtain ⟨b1,b2,_⟩:=hN k hk (j+1) _ e;exact hF.off o Zq _ (mem_allR.2 ⟨k,hk,uR e⟩) ⟨zj,zj⟩
  rcases uZ.1 hy with rfl | hy
  ·omega
  have:=(Zw.1 hs).1 y hy;omega
structure t7 (R:Rws):Prop where
 num:M2 R
 G5:D5 (lY R)
theorem wY:t7 (fun _=>[]):=⟨Ua,by unfold lY;exact Cu⟩
theorem t7.acI{R}(h:t7 R):¬R8 (lY R):=fun ⟨x,hx,y,hy,e1,e2,e3⟩=>e3 (h.G5.K7 x hx y hy e1 e2)
structure I3 (R:Rws):Prop where
 num:M2 R
 up:∀x∈lY R,∀y∈lY R,byO x=byO y->mB x+1=mB y->CLt (stO x) (stO y)
theorem t7.toN{R}(h:t7 R):I3 R:=⟨h.num,h.G5.K7⟩
theorem I3.X2{R}(h:I3 R){x}(hx:x∈lY R):∀(d:Nat) {y:OpX},y∈lY R->byO x=byO y->mB x+(d+1)=mB y->CLt (stO x) (stO y)
 | 0,y,hy,e1,e2=>h.up x hx y hy e1 zj
 | d+1,y,hy,e1,e2=>by
  rcases h.num.gap y hy with q | ⟨z,hz,z1,z2⟩
  ·have:=EA (h.num.ok x hx);omega
  exact rt (h.X2 hx d hz zj zj) (h.up z hz y hy z1 z2)
theorem I3.J{R}(h:I3 R){x y}(hx:x∈lY R)(hy:y∈lY R)(e:stO x=stO y):x=y:=by
 have e1:byO x=byO y:=(Prod.mk.inj e).2
 rcases Int.lt_trichotomy (mB x) (mB y) with q | q | q
 ·have:=h.X2 hx (mB y - mB x - 1).toNat hy e1 zj
  grind
 ·exact h.num.one x hx y hy e1 q
 exact kp5
theorem I3.K7{R}(h:I3 R){i}(hi:i<4):(R i).Pairwise (fun a b=>CLt (stO a) (stO b)):=by
 rw [ZJ];intro a b ha hb hab;have ea:=uL ha;have eb:=uL hb;obtain ⟨a1,a2,_⟩:=h.num i hi a _ ea;obtain ⟨b1,b2,_⟩:=h.num i hi b _ eb;exact h.X2 (mem_allR.2 ⟨i,hi,uR ea⟩) (b - a - 1) (mem_allR.2 ⟨i,hi,uR eb⟩) zj zj
theorem ri{R R'}(h:M2 R)(h':M2 R')(e:∀x,x∈lY R↔x∈lY R'){i}(hi:i<4):R i=R' i:=by
 refine List.ext_getElem? (fun n=> ?_);rw [<-h.A hi,<-h'.A hi]
 cases hk:nP (lY R) (i:Int) ((n:Int)+1) with
 | none=>exact (lookK_none.2 (fun x hx=>lookK_none.1 hk x ((e x).2 hx))).symm
 | some x=>
  obtain ⟨a,b,c⟩:=sD hk;rw [<-b,<-c];exact (LJ h'.one ((e x).1 a)).symm
def ny(S l:qX)(a:(Int×Nat)⊕List OpX):Prop:=match nh S 0 [] l with
 | .inl (i,c)=>a= .inl ((i:Int),c)
 | .inr fresh=>(Gap (S++fresh)/\a= .inl (-1,9))\/(¬Gap (S++fresh)/\R8 (S++fresh)/\a= .inl (-1,3))\/(¬Gap (S++fresh)/\¬R8 (S++fresh)/\(∃x∈S++fresh,¬M0 (S++fresh) x)/\a= .inl (-1,6))\/(D5 (S++fresh)/\400<S.length+fresh.length/\a= .inl (-1,8))\/(D5 (S++fresh)/\S.length+fresh.length<=400/\a= .inr fresh)
def zbP(x:OpX):Nat:=(x.2.2.2.2.2.2.2.data.toList.headD 0).toNat
def zbf(nd:Int)(x:OpX):Option (Int×Ltr):=if kdO x=105/\mU x=nd then some (mT x,(idO x,zbP x,false)) else none
def oG(A:qX)(nd id:Int):Prop:=∃x∈A,kdO x=100/\mU x=nd/\mT x=id
theorem Xv(A)(nd id):(A.any fun x=>decide (kdO x=100/\mU x=nd/\mT x=id))=true↔oG A nd id:=by simp [oG]
def zan(A:qX)(nd id:Int):Decidable (oG A nd id):=decidable_of_iff _ (Xv A nd id)
def sZ(A:qX)(nd:Int)(l:Ltr):Ltr:= @ite _ (oG A nd l.1) (zan A nd l.1) (l.1,0,true) l
theorem BA(A)(nd)(l):(sZ A nd l).1=l.1:=by unfold sZ;split<;>rfl
theorem Bw(A)(nd)(L:List Ltr):(L.map (sZ A nd)).map (·.1)=L.map (·.1):=by grind [YQ,Yp,BA]
def u9(A:qX)(nd:Int)(L:List Ltr):Prop:=∃s,s.Perm (A.filterMap (zbf nd))/\Fz s/\L=(nu s []).map (sZ A nd)
theorem FS{f}(hf:∀l,(f l).1=l.1){x}(hx:f x=x):∀L,laid x (L.map f)=(laid x L).map f
 | []=>by simp [laid,hx]
 | h::t=>by
  by_cases k:x.1<h.1
  ·rw [ZR,nU (by rw [hf];exact k),nU k,ZR,FS hf hx t]
  grind [tE]
theorem LK{f}(hf:∀l,(f l).1=l.1){x}(hx:f x=x)(b):∀L,GH b x (L.map f)=(GH b x L).map f
 | []=>by simp [GH]
 | h::t=>by
  by_cases k:h.1=b
  ·grind [rO,FS]
  rw [ZR,oJ (by rw [hf];exact k),oJ k,ZR,LK hf hx b t]
theorem za2{f}(hf:∀l,(f l).1=l.1){x}(hx:f x=x)(b)(L):put b x (L.map f)=(put b x L).map f:=by
 grind [put,FS,LK]
theorem su:∀(n:Nat) (s:List (Int×Ltr)),s.length=n->Fz s->((nu s []).map (·.1)).Perm (s.map (·.2.1))
 | 0,s,hn,_=>by rw [Zi.1 hn];exact List.Perm.refl _
 | n+1,s,hn,h=>by
  rcases sI s with rfl | ⟨u,m,rfl⟩
  ·simp at hn
  have hu:=EJ h;have ih:=su n u (by simp at hn;exact hn) hu;rw [pV,sj]
  have hb:m.1=0\/m.1∈(nu u []).map (·.1):=by
   rcases h.2.2 u m [] zq with q | ⟨y,hy,q⟩
   ·exact .inl q
   exact .inr (ih.mem_iff.2 (Zm.2 ⟨y,hy,q⟩))
  grind [Ow,Ys]
theorem u9.ids{A}{nd}{L}(h:u9 A nd L):(L.map (·.1)).Perm ((A.filterMap (zbf nd)).map (·.2.1)):=by
 obtain ⟨s,h1,h2,rfl⟩:=h;rw [Bw];exact (su _ s rfl h2).trans (h1.map _)
theorem u9.U7{A}{nd}{L}(h:u9 A nd L){id} :id∈L.map (·.1)↔I8 A nd id:=by
 rw [h.ids.mem_iff];constructor
 ·intro q;obtain ⟨m,hm,rfl⟩:=Zm.1 q;obtain ⟨x,hx,e⟩:=Yr.1 hm;unfold zbf at e;split at e
  ·rename_i k
   cases e
   exact ⟨x,hx,k.1,k.2,rfl⟩
  cases e
 rintro ⟨x,hx,k1,k2,k3⟩;exact Zm.2 ⟨_,Yr.2 ⟨x,hx,if_pos ⟨k1,k2⟩⟩,k3⟩
theorem u9.I7{A}{nd}{L}(h:u9 A nd L):(L.map (·.1)).Nodup:=by
 obtain ⟨s,h1,h2,rfl⟩:=h;rw [Bw];exact (su _ s rfl h2).nodup_iff.2 h2.1
theorem u9.y9{A}{nd}{L}(h:u9 A nd L):L.length<=A.length:=by
 have:=h.ids.length_eq
 grind
theorem u9.G8{A B}{nd}{L}(h:u9 A nd L)(e:A.Perm B):u9 B nd L:=by
 obtain ⟨s,h1,h2,rfl⟩:=h
 have hg:∀id,oG A nd id↔oG B nd id:=fun id=>⟨fun ⟨x,hx,q⟩=>⟨x,e.mem_iff.1 hx,q⟩,fun ⟨x,hx,q⟩=>⟨x,e.mem_iff.2 hx,q⟩⟩
 refine ⟨s,h1.trans (e.filterMap _),h2,Yp (fun l _=> ?_)⟩;unfold sZ
 grind
theorem u9.q{A}{nd}{L M}(h:u9 A nd L)(k:u9 A nd M):L=M:=by
 obtain ⟨s,h1,h2,rfl⟩:=h;obtain ⟨r,k1,k2,rfl⟩:=k;rw [tn _ s r rfl (h1.trans k1.symm) h2 k2]
theorem u9.skip{A}{nd}{L}(h:u9 A nd L){x}(hx:¬(mU x=nd/\(kdO x=105\/kdO x=100))):u9 (x::A) nd L:=by
 obtain ⟨s,h1,h2,rfl⟩:=h;refine ⟨s,?_,h2,Yp (fun l _=> ?_)⟩
 ·rw [List.filterMap_cons_none (show zbf nd x=none from if_neg (fun q=>hx ⟨q.2,.inl q.1⟩))];exact h1
 have hg:oG (x::A) nd l.1↔oG A nd l.1:=by
  constructor
  ·rintro ⟨y,hy,q⟩
   rcases uZ.1 hy with rfl | hy
   ·exact absurd ⟨q.2.1,.inr q.1⟩ hx
   exact ⟨y,hy,q⟩
  rintro ⟨y,hy,q⟩;exact kp0
 unfold sZ
 grind
theorem u9.ins{A}{nd}{L}(h:u9 A nd L){x}(hk:kdO x=105)(hn:mU x=nd)(hnew:idO x∉L.map (·.1))(lJ:idO x≠0)(ho:mT x=0\/mT x∈L.map (·.1))(hg:¬oG A nd (idO x)):u9 (x::A) nd (put (mT x) (idO x,zbP x,false) L):=by
 have hids:=h.ids;obtain ⟨s,h1,h2,rfl⟩:=h;rw [Bw] at hnew ho hids;have bg:=su _ s rfl h2
 have iY:∀id,oG (x::A) nd id↔oG A nd id:=fun id=>by
  constructor
  ·rintro ⟨y,hy,q⟩
   rcases uZ.1 hy with rfl | hy
   ·rw [hk] at q;exact absurd q.1 zo
   exact ⟨y,hy,q⟩
  rintro ⟨y,hy,q⟩;exact kp0
 have hhide:∀l,sZ (x::A) nd l=sZ A nd l:=fun l=>by
  unfold sZ;by_cases q:oG A nd l.1
  ·rw [if_pos q,if_pos ((iY _).2 q)]
  rw [if_neg q,if_neg (fun k=>q ((iY _).1 k))]
 have dS:sZ A nd (idO x,zbP x,false)=(idO x,zbP x,false):=if_neg hg;refine ⟨s++ [(mT x,(idO x,zbP x,false))],?_,⟨?_,?_,?_⟩,?_⟩
 ·rw [List.filterMap_cons_some (show zbf nd x=some _ from if_pos ⟨hk,hn⟩)];exact (Ys).trans (h1.cons _)
 ·rw [Zz,ZM];refine ⟨h2.1,zq,fun a ha b hb=> ?_⟩;simp at hb;subst hb;intro e;subst e;exact hnew (bg.mem_iff.2 ha)
 ·intro m hm
  rcases uU.1 hm with hm | hm
  ·exact h2.2.1 m hm
  rw [Zc.1 hm];exact lJ
 ·intro u m v e
  rcases sI v with rfl | ⟨v',q,rfl⟩
  ·obtain ⟨rfl,e2⟩:=List.append_inj' e rfl
   cases e2
   rcases ho with ho | ho
   ·exact .inl ho
   obtain ⟨y,hy,e⟩:=Zm.1 (bg.mem_iff.1 ho);exact .inr ⟨y,hy,e⟩
  have e':s++ [(mT x,(idO x,zbP x,false))]=(u++m::v')++ [q]:=by rw [e];simp
  obtain ⟨rfl,_⟩:=List.append_inj' e' rfl;exact h2.2.2 u m v' rfl
 grind [pV,sj,za2,BA,Yp]
theorem u9.del{A}{nd}{L}(h:u9 A nd L){x}(hk:kdO x=100)(hn:mU x=nd){i}(hf:oP (mT x) L=some i):u9 (x::A) nd (L.set i (mT x,0,true)):=by
 have bU:=h.I7;obtain ⟨s,h1,h2,rfl⟩:=h;refine ⟨s,?_,h2,?_⟩
 ·simp_all [List.filterMap_cons_none,zbf,if_neg]
 obtain ⟨l0,cU,hid⟩:=oI hf
 have iY:∀id,oG (x::A) nd id↔id=mT x\/oG A nd id:=fun id=>by
  constructor
  ·rintro ⟨y,hy,q⟩
   rcases uZ.1 hy with rfl | hy
   ·exact .inl q.2.2.symm
   exact .inr ⟨y,hy,q⟩
  rintro (rfl | ⟨y,hy,q⟩)
  ·exact ⟨x,Zq,hk,hn,rfl⟩
  exact kp0
 rw [Bw] at bU;refine List.ext_getElem? (fun j=> ?_);rw [List.getElem?_set,Zj,ZQ,ZQ];rw [ZQ] at cU
 cases hj:(nu s [])[j]? with
 | none=>
  simp_all
 | some l=>
  have d9:=(uK.1 hj).1;split
  ·rename_i e;subst e;rw [if_pos d9];rw [hj] at cU
   cases cU
   rw [BA] at hid
   simp_all [sZ,if_pos,YD]
  rename_i e
  have hne:l.1≠mT x:=fun q=>e (by
   have bl:i<(nu s []).length:=by
    cases hi:(nu s [])[i]? with
    | none=>rw [hi] at cU;cases cU
    | some _=>exact (uK.1 hi).1
   have e1:((nu s []).map (·.1))[i]? =some (mT x):=by
    rw [ZQ]
    cases hi:(nu s [])[i]? with
    | none=>rw [hi] at cU;cases cU
    | some l'=>
     rw [hi] at cU
     cases cU
     rw [BA] at hid
     simp [hid]
   have e2:((nu s []).map (·.1))[j]? =some (mT x):=by rw [ZQ,hj];simp [q]
   exact (List.getElem?_inj (by simpa using bl) bU).1 (e1.trans e2.symm))
  have hq:sZ (x::A) nd l=sZ A nd l:=by
   unfold sZ;by_cases q:oG A nd l.1
   ·rw [if_pos q,if_pos ((iY _).2 (.inr q))]
   rw [if_neg q,if_neg (fun k=>((iY _).1 k).elim hne q)]
  simp_all
theorem u9.GA{A}{nd}(h:∀x∈A,mU x=nd->kdO x≠105):u9 A nd []:=by
 refine ⟨[],?_,⟨zq,fun m hm=>by simp at hm,fun u m v e=>by simp at e⟩,rfl⟩;rw [show List.filterMap (zbf nd) A= [] from List.filterMap_eq_nil_iff.2 (fun x hx=>if_neg (fun q=>h x hx q.2 q.1))]
def zbm(x:OpX):Option Mov:=if kdO x=109 then some ((x.1,x.2.1),(mU x,mT x,x.2.2.2.2.2.2.1)) else none
def pu(A:qX):List Mov:=A.filterMap zbm
def oA(A:qX)(T:Int):Prop:=(∀x∈A,x.1<=T)/\(T=0\/∃x∈A,x.1=T)/\0<=T
theorem Rp:oA [] 0:=⟨fun x h=>qo,.inl rfl,Int.le_refl _⟩
theorem nt{A}{T T'}(h:oA A T)(k:oA A T'):T=T':=by
 obtain ⟨h1,h2,h3⟩:=h;obtain ⟨k1,k2,k3⟩:=k
 grind
theorem Mt{A}{T}(h:oA A T)(x)(hx:1<=x.1):oA (x::A) (if T<x.1 then x.1 else T):=by
 obtain ⟨h1,h2,h3⟩:=h;split
 ·rename_i q;refine ⟨fun y hy=> ?_,.inr ⟨x,Zq,rfl⟩,zj⟩
  grind
 rename_i q;refine ⟨fun y hy=> ?_,h2.imp (fun e=>e) (fun ⟨y,hy,e⟩=>⟨y,Za _ hy,e⟩),h3⟩
 grind
end
section
open scoped Classical
theorem wF{x}(h:mz x=0):1<=x.1/\x.1<=1073741824/\0<=byO x/\byO x<4:=by
 have h0:=mP h
 simp_all
theorem rI{x}(h:mz x=0):((kdO x=109/\mU x<=idO x)\/mU x<idO x)/\mT x<idO x/\0<=mU x/\0<=mT x/\(kdO x=109->2<=mU x)/\(kdO x=100->mT x≠0):=by
 have h0:=mP h
 have hid:4<=idO x:=by unfold idO;have:=h0.1;have:=h0.2.2.1;omega
 unfold mz opE at h;rw [if_pos ⟨h0.1,h0.2.1,h0.2.2.1,h0.2.2.2.1,h0.2.2.2.2.1,h0.2.2.2.2.2.1⟩] at h;have e:x.1*4+x.2.1=idO x:=rfl;rw [e] at h;unfold AG at h;split at h
 ·rename_i hk;unfold nC at h
  grind
 rename_i hk;have hk':kdO x≠109:=hk;split at h
 ·rename_i hki;unfold Du at h
  grind
 split at h
 ·unfold FO at h
  grind
 rename_i iU;have hkd':kdO x≠100:=iU;split at h
 ·unfold En at h
  grind
 cases h
theorem Wi{x y}(hx:mz x=0)(hy:mz y=0)(e:idO x=idO y):stO x=stO y:=by
 have h1:=wF hx;have h2:=wF hy;unfold idO at e;have e1:x.2.1=byO x:=rfl;have e2:y.2.1=byO y:=rfl;rw [e1,e2] at e;have a:x.1=y.1:=zj;have b:byO x=byO y:=zj
 grind [stO]
theorem zdD{x y}(hx:mz x=0)(hy:mz y=0)(h:idO x<idO y):CLt (stO x) (stO y):=by
 have h1:=wF hx;have h2:=wF hy;unfold idO at h;have e1:x.2.1=byO x:=rfl;have e2:y.2.1=byO y:=rfl;rw [e1,e2] at h;unfold CLt stO;omega
theorem zc8{x}(hx:mz x=0):4<=idO x:=by
 have h1:=wF hx;unfold idO
 grind
structure H9 (A:qX) (o:OpX):Prop where
 ok:mz o=0
 GA:∀x∈A,stO x≠stO o
 Q6:M0 (o::A) o
 all:∀x∈A,mz x=0/\M0 A x
 ac5:∀x∈A,∀y∈A,stO x=stO y->x=y
theorem H9.G8{A B}{o}(h:H9 A o)(e:A.Perm B):H9 B o:=
 ⟨h.ok,fun x hx=>h.GA x (e.mem_iff.2 hx),h.Q6.mono (fun x hx=>zN),fun x hx=>⟨(h.all x (e.mem_iff.2 hx)).1,(h.all x (e.mem_iff.2 hx)).2.mono (fun y hy=>e.mem_iff.1 hy)⟩,fun x hx y hy=>h.ac5 x (e.mem_iff.2 hx) y (e.mem_iff.2 hy)⟩
theorem H9.abz{A}{o}(h:H9 A o):∀x∈A,idO x≠idO o:=fun x hx e=>h.GA x hx (Wi (h.all x hx).1 h.ok e)
theorem H9.fresh{A}{o}(h:H9 A o)(e:mU o=idO o):(¬m9 A (mU o))/\∀x∈A,mU x≠mU o:=by
 have hk:¬m9 A (mU o):=fun ⟨x,hx,_,_,q⟩=>h.abz x hx (q.trans e)
 refine ⟨hk,fun x hx q=> ?_⟩
 rcases (h.all x hx).2.1 with ⟨_,k⟩ | k
 ·exact h.abz x hx (by rw [k,q,e])
 simp_all
theorem Lc{A}{o}{nd}(h:m9 (o::A) nd)(hn:nd≠idO o):m9 A nd:=by
 obtain ⟨x,hx,q⟩:=h
 rcases uZ.1 hx with rfl | hx
 ·omega
 exact ⟨x,hx,q⟩
theorem Im{A}{o}{nd id}(h:I8 (o::A) nd id)(hn:id≠idO o):I8 A nd id:=by
 obtain ⟨x,hx,q⟩:=h
 rcases uZ.1 hx with rfl | hx
 ·omega
 exact ⟨x,hx,q⟩
theorem H9.l8{A}{o}(h:H9 A o)(e:mU o≠idO o):m9 A (mU o):=by
 rcases h.Q6.1 with ⟨_,q⟩ | q
 ·exact absurd q.symm e
 exact Lc q e
theorem H9.abR{A}{o}(h:H9 A o)(hk:(kdO o=105/\0<mT o)\/kdO o=100):I8 A (mU o) (mT o):=by
 have:=(rI h.ok).2.1;exact Im (h.Q6.2.2 hk) zj
theorem H9.C9{A}{o}(h:H9 A o)(hk:kdO o=105\/kdO o=100\/kdO o=115):mU o≠idO o:=by
 rcases (rI h.ok).1 with ⟨q,_⟩ | q
 ·omega
 omega
theorem H9.acF{A}{o}(h:H9 A o)(nd):¬oG A nd (idO o):=fun ⟨x,hx,k,e1,e2⟩=>by
 obtain ⟨y,hy,_,_,q⟩:=(h.all x hx).2.2.2 (.inr k);exact h.abz y hy (q.trans e2)
theorem Ao{A}{o}{nd} :m9 (o::A) nd↔m9 A nd\/(kdO o=109/\mU o=nd/\idO o=nd):=by
 constructor
 ·rintro ⟨x,hx,q⟩
  rcases uZ.1 hx with rfl | hx
  ·exact .inr q
  exact .inl ⟨x,hx,q⟩
 rintro (⟨x,hx,q⟩ | q)
 ·exact ⟨x,Za _ hx,q⟩
 exact ⟨o,Zq,q⟩
theorem Jh{S K ys:qX}(hW:D5 S)(hS:∀x,x∈S↔x∈K\/x∈ys)(hK:∀x∈K,M0 K x)(hs:ys.Pairwise (fun a b=>CLt (stO a) (stO b)))(hoff:∀x∈ys,x∉K){k}{o}(ho:ys[k]? =some o):H9 (K++ys.take k) o:=by
 have hoy:=uR ho;have hkl:=(uK.1 ho).1
 have dy:∀x,x∈K++ys.take k->x∈S:=fun x hx=>(hS x).2 ((uU.1 hx).imp (fun q=>q) (fun q=>Yw q))
 have hp:=ZJ.1 hs
 have low:∀(j:Nat) (x y:OpX),ys[j]? =some x->y∈S->idO y<idO x->y∈K++ys.take j:=fun j x y hj hy hlt=>by
  have hxS:=(hS x).2 (.inr (uR hj));have hc:=zdD (hW.ok y hy) (hW.ok x hxS) hlt
  rcases (hS y).1 hy with q | q
  ·simp_all
  obtain ⟨i,hi,rfl⟩:=YH q
  have ay:i<j:=by
   rcases Qa i j with h | h | h
   ·exact h
   ·subst h;rw [uL hi] at hj
    cases hj
    exact absurd hc Az
   obtain ⟨d9,rfl⟩:=uK.1 hj;exact absurd (rt hc (hp j i d9 hi h)) Az
  refine ZD _ (uR (i:=i) ?_)
  simp_all
 have Q6:∀(j:Nat) (x:OpX),ys[j]? =some x->M0 (x::(K++ys.take j)) x:=fun j x hj=>by
  have hxS:=(hS x).2 (.inr (uR hj));have hr:=hW.Q6 x hxS;have he:=rI (hW.ok x hxS)
  have up:∀y,y∈S->idO y<idO x->y∈x::(K++ys.take j):=fun y hy hl=>Za _ (low j x y hj hy hl)
  refine ⟨?_,fun hk=> ?_,fun hk=> ?_⟩
  ·rcases hr.1 with q | ⟨y,hy,q1,q2,q3⟩
   ·exact .inl q
   rcases he.1 with ⟨q,q'⟩ | q
   ·by_cases e:idO x=mU x
    ·exact .inl ⟨q,e⟩
    exact .inr ⟨y,up y hy zj,q1,q2,q3⟩
   exact .inr ⟨y,up y hy zj,q1,q2,q3⟩
  ·rcases hr.2.1 hk with q | q | ⟨y,hy,q1,q2,q3⟩
   ·exact .inl q
   ·exact .inr (.inl q)
   exact .inr (.inr ⟨y,up y hy zj,q1,q2,q3⟩)
  obtain ⟨y,hy,q1,q2,q3⟩:=hr.2.2 hk;exact ⟨y,up y hy zj,q1,q2,q3⟩
 refine ⟨hW.ok o ((hS o).2 (.inr hoy)),fun x hx e=> ?_,Q6 k o ho,fun x hx=>⟨hW.ok x (dy x hx),?_⟩,fun x hx y hy e=>hW.J (dy x hx) (dy y hy) e⟩
 ·rcases uU.1 hx with q | q
  ·have:=hW.J (dy x hx) ((hS o).2 (.inr hoy)) e
   simp_all
  obtain ⟨i,hi,rfl⟩:=YH q
  grind
 rcases uU.1 hx with q | q
 ·exact (hK x q).mono (fun y hy=>Zo _ hy)
 obtain ⟨i,hi,e⟩:=YH q
 have hi':i<k/\i<ys.length:=by rw [Zp] at hi;omega
 rw [List.getElem_take] at e
 have hxi:ys[i]? =some x:=by rw [<-e];exact uL hi'.2
 refine (Q6 i x hxi).mono (fun y hy=> ?_)
 rcases uZ.1 hy with rfl | hy
 ·exact hx
 rcases uU.1 hy with hy | hy
 ·simp_all
 refine ZD _ ?_;have:ys.take i=(ys.take k).take i:=xx
 grind
end
section
theorem Hr{R}(h:t7 R){T l}(hT:D5 T)(hc:R5 (lY R) T)(hl:∀x,x∈l->x∈T)(ir:∀x,x∈T->x∈lY R\/x∈l)(hlen:(lY R).length+l.length<=400):∃fresh,(∀a,ny (lY R) l a->a= .inr fresh)/\M8 (lY R) fresh/\(∀x,x∈lY R++fresh↔x∈lY R\/x∈T)/\D5 (lY R++fresh):=by
 obtain ⟨out,h1,h2⟩:=wt h.num.one hT.one hc hT.ok (l:=l) 0 (fresh:=[]) (fun x hx=>hl x hx) (fun x hx=>ya);obtain ⟨k1,k2,k3,k4,k5⟩:=oN (pX _) h1
 have hmem:∀x,x∈lY R++out↔x∈lY R\/x∈T:=fun x=>by
  grind
 have hw:D5 (lY R++out):=(h.G5.ac3 hT hc).congr (fun x=>zM);refine ⟨out,fun a ha=> ?_,k1,hmem,hw⟩;unfold ny at ha;rw [h1] at ha;dsimp only at ha
 rcases ha with ⟨⟨x,hx,q1,q2⟩,_⟩ | ⟨_,⟨x,hx,y,hy,q1,q2,q3⟩,_⟩ | ⟨_,_,⟨x,hx,q⟩,_⟩ | ⟨_,q,_⟩ | ⟨_,_,q⟩
 ·exact ((hw.gap x hx).elim q1 q2).elim
 ·exact (q3 (hw.K7 x hx y hy q1 q2)).elim
 ·exact (q (hw.Q6 x hx)).elim
 ·simp at k5;omega
 exact q
structure U0 (R:Rws) (i:Nat) (T:Int) (x:OpX):Prop where
 ok:mz x=0
 o8:byO x=(i:Int)
 num:mB x=((R i).length:Int)+1
 time:x.1=T+1
 Q6:M0 (x::lY R) x
theorem Wj{R}(h:M2 R){i:Nat}(hi:i<4){y}(hy:y∈lY R)(e:byO y=(i:Int)):mB y<=((R i).length:Int):=by
 obtain ⟨k,hk,hyk⟩:=mem_allR.1 hy;obtain ⟨j,hj,q1,q2,_⟩:=h.e hk hyk
 grind
theorem U0.G5{R}{i}{T}{x}(hx:U0 R i T x)(hR:t7 R)(hi:i<4)(hT:∀y∈lY R,y.1<=T):D5 (x::lY R)/\∀y∈lY R,byO y=byO x->mB y<mB x:=by
 have hnew:∀y∈lY R,byO y=byO x->mB y<mB x:=fun y hy e=>by
  have:=Wj hR.num hi hy (e.trans hx.o8);have:=hx.num;omega
 refine ⟨hR.G5.add hx.ok ?_ hnew (fun y hy=> ?_) hx.Q6,hnew⟩
 ·by_cases h0:(R i).length=0
  ·left;have:=hx.num;omega
  right;have hl:(R i).length - 1<(R i).length:=zj;have hm:=Qc hl;obtain ⟨j,hj,q1,q2,_⟩:=hR.num.e hi hm;have bW:=hR.num i hi ((R i).length - 1) _ (uL hl);refine ⟨(R i)[(R i).length - 1],mem_allR.2 ⟨i,hi,hm⟩,by rw [q1,hx.o8],?_⟩;have:=hx.num;omega
 have h1:=hT y hy;have h2:=hx.time;unfold CLt stO;dsimp only;omega
theorem MI{R}{i}{T}{x}(hx:U0 R i T x)(hR:t7 R)(hi:i<4)(hT:∀y∈lY R,y.1<=T):R5 (lY R) (x::lY R):=fun a ha b hb e1 e2=>by
 rcases uZ.1 hb with rfl | hb
 ·have:=(hx.G5 hR hi hT).2 a ha e1;omega
 exact hR.G5.one a ha b hb e1 e2
theorem M2.I7{R}(h:M2 R):(lY R).Nodup:=by
 have row:∀i,i<4->(R i).Nodup:=fun i hi=>by
  unfold List.Nodup;rw [ZJ];intro a b ha hb hab e;have h1:=h i hi a _ (uL ha);have h2:=h i hi b _ (uL hb);rw [e] at h1;have:=h1.2.1;have:=h2.2.1;omega
 have off:∀i j,i<4->j<4->i≠j->∀a∈R i,∀b∈R j,a≠b:=fun i j hi hj ay a ha b hb e=>by
  obtain ⟨_,_,q1,_⟩:=h.e hi ha;obtain ⟨_,_,q2,_⟩:=h.e hj hb;rw [e] at q1;omega
 grind [lY,ZM]
theorem oS{α:Type}[DecidableEq α]:∀ {l H:List α},l.Nodup->(∀x,x∈l->x∈H)->l.length<=H.length
 | [],_,_,_=>uW _
 | x::t,H,hn,hs=>by
  obtain ⟨h1,h2⟩:=List.nodup_cons.1 hn;have hx:=hs x zq;have:=oS (l:=t) (H:=H.erase x) h2 (fun y hy=>(List.mem_erase_of_ne (fun e=>h1 (by rw [<-e];exact hy))).2 (hs y (by simp [hy])))
  grind
end
section
open scoped Classical
theorem sB{x}(h:mz x=0)(hk:kdO x=109):2<=mU x/\mU x<=idO x/\0<=mT x/\mT x<idO x/\mr x.2.2.2.2.2.2.1.data.toList=true:=by
 unfold mz opE at h;split at h
 ·unfold AG at h;rw [if_pos hk] at h;unfold nC at h;split at h
  ·cases h
  rename_i hn;split at h
  ·cases h
  rename_i hm;refine ⟨?_,?_,?_,?_,?_⟩
  ·simp_all
  ·show x.2.2.2.2.1<=x.1*4+x.2.1;omega
  ·simp_all
  ·show x.2.2.2.2.2.1<x.1*4+x.2.1;omega
  simpa using hm
 cases h
theorem Cd:∀(ms:List Mov) (f:Sta) (k:Int) (p:Plc),BG f ms k=some p->f k=some p\/∃m∈ms,m.2=p/\p.1=k
 | [],f,k,p,h=>.inl h
 | m::ms,f,k,p,h=>by
  rcases Cd ms (K8 f m) k p h with q | ⟨m',hm',q⟩
  ·by_cases hi:IX f m.2
   ·rw [oF hi] at q;exact .inl q
   rw [ng hi] at q;unfold upd at q;split at q
   ·rename_i e;have:=Option.some.inj q;exact .inr ⟨m,Zq,this,by rw [<-this];exact e.symm⟩
   exact .inl q
  grind
theorem PS{f}{m}{k}(h:(f k).isSome=true):(K8 f m k).isSome=true:=by
 by_cases hi:IX f m.2
 ·rw [oF hi];exact h
 rw [ng hi];unfold upd;grind
theorem Fj:∀(ms:List Mov) {f:Sta} {k:Int},(f k).isSome=true->(BG f ms k).isSome=true
 | [],_,_,h=>h
 | _::ms,_,_,h=>Fj ms (PS h)
theorem Kv{f}{of} :∀(n:Nat) (x:Int),TV f n x of=true->∃k p,f k=some p/\p.2.1=of
 | 0,x,h=>by simp [TV] at h
 | n+1,x,h=>by
  cases hx:f x with
  | none=>rw [Fc hx] at h;cases h
  | some p=>
   rw [wT hx] at h;simp only [Bool.or_eq_true,decide_eq_true_eq] at h
   rcases h with h | h
   ·grind
   exact Kv n _ h
structure zar (f:Sta):Prop where
 aaa:AV f
 two:∀k p,f k=some p->2<=k
 up:∀k p,f k=some p->p.2.1=0\/p.2.1=1\/(f p.2.1).isSome=true
 name:∀k p,f k=some p->mr p.2.2.data.toList=true
theorem zb6{x}{m}(h:zbm x=some m):kdO x=109/\m=((x.1,x.2.1),(mU x,mT x,x.2.2.2.2.2.2.1)):=by
 grind [zbm,Option.some.inj]
theorem FN{A}{m}(h:m∈pu A):∃x∈A,kdO x=109/\m=((x.1,x.2.1),(mU x,mT x,x.2.2.2.2.2.2.1)):=by
 obtain ⟨x,hx,e⟩:=Yr.1 h;exact ⟨x,hx,zb6 e⟩
theorem UZ{x y}(hx:mz x=0)(hy:mz y=0)(h:SLt (x.1,x.2.1) (y.1,y.2.1)):idO x<idO y:=by
 have a:=mP hx;have b:=mP hy
 grind [SLt,idO]
theorem Ta{A}(hA:D5 A){ms}(hp:ms.Perm (pu A))(hb:ml ms)(hf:∀m∈ms,P1 m.2):zar (mX ms):=by
 have G:=rm hf
 have src:∀k p,mX ms k=some p->∃x∈A,kdO x=109/\p=(mU x,mT x,x.2.2.2.2.2.2.1)/\mU x=k:=fun k p h=>by
  rcases Cd ms tB k p h with q | ⟨m,hm,e1,e2⟩
  ·simp [tB] at q
  grind [FN]
 have known:∀nd,m9 A nd->(mX ms nd).isSome=true:=fun nd ⟨x,hx,hk,hn,hid⟩=>by
  have hm:((x.1,x.2.1),(mU x,mT x,x.2.2.2.2.2.2.1))∈ms:=hp.mem_iff.2 (Yr.2 ⟨x,hx,by unfold zbm;rw [if_pos hk]⟩);obtain ⟨a,b,e⟩:=List.append_of_mem hm
  have hni:¬IX (mX a) (mU x,mT x,x.2.2.2.2.2.2.1):=by
   have mf:=sB (hA.ok x hx) hk;rintro (q | ⟨n,q⟩)
   ·dsimp only at q;omega
   obtain ⟨k,p,h1,h2⟩:=Kv n _ q;dsimp only at h2
   rcases Cd a tB k p h1 with q' | ⟨m,hm',e1,_⟩
   ·simp [tB] at q'
   obtain ⟨y,hy,hky,e'⟩:=FN (hp.mem_iff.1 (by rw [e];exact Zo _ hm'));have my:=sB (hA.ok y hy) hky
   have lt:SLt m.1 (x.1,x.2.1):=by
    unfold ml at hb;rw [e] at hb;exact (List.pairwise_append.1 hb).2.2 m hm' _ Zq
   rw [e'] at lt;have li:=UZ (hA.ok y hy) (hA.ok x hx) lt;rw [<-e1,e'] at h2;dsimp only at h2;omega
  rw [e]
  show (BG tB (a++_::b) nd).isSome=true
  have e2:BG tB (a++((x.1,x.2.1),(mU x,mT x,x.2.2.2.2.2.2.1))::b)=BG (K8 (mX a) ((x.1,x.2.1),(mU x,mT x,x.2.2.2.2.2.2.1))) b:=by
   unfold mX BG;rw [List.foldl_append];rfl
  simp_all [Fj,ng,upd,if_pos]
 refine ⟨G,fun k p h=> ?_,fun k p h=> ?_,fun k p h=> ?_⟩
 ·obtain ⟨x,hx,hk,_,e⟩:=src k p h;have:=(sB (hA.ok x hx) hk).1;omega
 ·obtain ⟨x,hx,hk,e,_⟩:=src k p h
  rcases (hA.Q6 x hx).2.1 hk with q | q | q
  ·exact .inl (by rw [e];exact q)
  ·exact .inr (.inl (by rw [e];exact q))
  simp_all
 obtain ⟨x,hx,hk,e,_⟩:=src k p h;rw [e];exact (sB (hA.ok x hx) hk).2.2.2.2
def UpL(f:Sta):Int->List Plc->Prop
 | x,[]=>f x=none
 | x,p::l=>f x=some p/\UpL f p.2.1 l
theorem GU{f}{d}(hd:Pw f d):∀(n:Nat) (x:Int),d x<n->∃l,UpL f x l
 | 0,_,h=>zj
 | n+1,x,h=>by
  cases e:f x with
  | none=>exact ⟨[],e⟩
  | some p=>
   obtain ⟨l,hl⟩:=GU hd n p.2.1 (by have:=hd x p e;omega);exact ⟨p::l,e,hl⟩
theorem Sj{f} :∀ {l:List Plc} {x:Int},UpL f x l->∀p∈l,f p.1=some p\/∃y,f y=some p
 | [],_,_,_,hp=>by simp at hp
 | _::l,x,h,p,hp=>by
  rcases uZ.1 hp with e | e
  ·subst e;exact .inr ⟨x,h.1⟩
  exact Sj h.2 p e
theorem SR{f}{d}(G:AV f)(hd:Pw f d):∀ {l:List Plc} {x:Int},UpL f x l->(∀p∈l,d p.1<=d x)/\l.Pairwise (fun a b=>d b.1<d a.1)
 | [],_,_=>⟨fun _ h=>qo,List.Pairwise.nil⟩
 | p::l,x,h=>by
  have ih:=SR G hd h.2;have lt:=hd x p h.1;have ek:=G.T9 x p h.1;refine ⟨fun q hq=> ?_,Zw.2 ⟨fun q hq=> ?_,ih.2⟩⟩
  ·rcases uZ.1 hq with e | e
   ·rw [e,ek];exact uM _
   have:=ih.1 q e;omega
  grind
theorem zdm{f}(G:AV f){L}(hL:D4 f L){l}{x}(h:UpL f x l):l.length<=L.length:=by
 obtain ⟨d,hd⟩:=G.abS;have hn:l.Nodup:=(SR G hd h).2.imp (fun {a b} q e=>by rw [e] at q;omega)
 refine hn.length_le_of_subset fun p hp=>(hL.U7 p).2 ?_
 rcases Sj h p hp with q | ⟨y,q⟩
 ·exact q
 rw [G.T9 y p q];exact q
end
section
open RowKit
theorem IW(s)(b)(w)(hs:s.size<=1000000)(h:mr s.data.toList=b):
  qC 206 #[.string s] w fun e w'=>e= .returned (.bool b)/\w'=w:=by rw [<-h];exact Ke s w hs
theorem JN(s)(b)(w)(hs:s.size<=1000000)(h:DN s.data.toList=b):
  qC 326 #[.string s] w fun e w'=>e= .returned (.bool b)/\w'=w:=by rw [<-h];exact UQ s w hs
theorem rq{s:qY}(h:s.data.toList= []):s.toList.isEmpty=true:=by rw [ZB,h];rfl
theorem sK{s:qY}(h:s.data.toList≠ []):s.toList.isEmpty=false:=by
 grind [ZB,hd]
theorem oq(s:qY):s.data.toList.length=s.size:=zq
def eV(ad:qF)(c:Nat):Value:=if c=0 then .nilIface else .iface 437 (.pointer (some (ad (c - 1))))
structure U9 (ad:qF) (w:qW):Prop where
 c1:w.cell? (qB 0)=some (.iface 437 (.pointer (some (ad 1))))
 c2:w.cell? (qB 2)=some (.iface 437 (.pointer (some (ad 2))))
 c3:w.cell? (qB 3)=some (.iface 437 (.pointer (some (ad 3))))
 c4:w.cell? (qB 4)=some (.iface 437 (.pointer (some (ad 4))))
theorem lT{w w'}{b o}{v}(hb:qL w w')(h:w.cell? (qA b o)=some v):w'.cell? (qA b o)=some v:=by
 exact kg9
theorem U9.later{ad}{w w'}(h:U9 ad w)(hb:qL w w'):U9 ad w':=
 ⟨lT hb h.c1,lT hb h.c2,lT hb h.c3,lT hb h.c4⟩
structure Q5 (w:qW) (a:Nat) (t b n:Int) (k:Nat) (l8 other:Int) (name value:qY):Prop where
 c0:w.cell? (qB a)=some (qI t)
 c1:w.cell? (qA a 1)=some (qI b)
 c2:w.cell? (qA a 2)=some (qI n)
 c3:w.cell? (qA a 3)=some (.int .u8 (k:Int))
 c4:w.cell? (qA a 4)=some (qI l8)
 c5:w.cell? (qA a 5)=some (qI other)
 c6:w.cell? (qA a 6)=some (.string name)
 c7:w.cell? (qA a 7)=some (.string value)
theorem Q5.later{w w'}{a}{t b n}{k}{l8 other}{name value}(h:Q5 w a t b n k l8 other name value)(hb:qL w w'):Q5 w' a t b n k l8 other name value:=
 ⟨lT hb h.c0,lT hb h.c1,lT hb h.c2,lT hb h.c3,lT hb h.c4,lT hb h.c5,lT hb h.c6,lT hb h.c7⟩
theorem Q5.GA(w:qW)(t b n)(k:Nat)(l8 other)(name value)(T):Q5 (w.alloc (.cells (qOa t b n k l8 other name value) T)) w.heap.size t b n k l8 other name value:=by
 constructor<;>simp [go_sem]
theorem VP{ad}(id)(t b n)(k:Nat)(l8 other)(name value)(w)(hE:U9 ad w)(hid:4<=id)(bO:name.size<=1000000)(_hsv:value.size<=1000000):
  qC 264 #[.agg (qOa t b n k l8 other name value),qI id] w (qR (eV ad (nC id l8 other name.data.toList value.data.toList)) w):=by
 have g2:=fun o=>(hE.later ((uO _ _).alloc zg o)).c2
 have g3:=fun o=>(hE.later ((uO _ _).alloc zg o)).c3
 by_cases cl:l8<2\/id<l8\/other<0\/id<=other
 ·rcases (by omega:l8=0\/l8=1\/l8<0\/id<l8\/(2<=l8/\l8<id)\/l8=id) with h | h | h | h | ⟨h,h'⟩ | h
  ·have af:nC id l8 other name.data.toList value.data.toList=3:=by unfold nC;rw [if_pos zj]
   rw [af];have q0:(l8==0)=true:=zl;go_enter func264,ntmps264;exact ka2
  ·have af:nC id l8 other name.data.toList value.data.toList=3:=by unfold nC;rw [if_pos zj]
   rw [af];have q0:(l8==0)=false:=zl;have q1:(l8==1)=true:=zl;go_enter func264,ntmps264;exact ka2
  ·have af:nC id l8 other name.data.toList value.data.toList=3:=by unfold nC;rw [if_pos zj]
   rw [af];have q0:(l8==0)=false:=zl;have q1:(l8==1)=false:=zl;have q2:(l8 !=id)=true:=zl;go_enter func264,ntmps264;exact ka2
  ·have af:nC id l8 other name.data.toList value.data.toList=3:=by unfold nC;rw [if_pos zj]
   rw [af];have q0:(l8==0)=false:=zl;have q1:(l8==1)=false:=zl;have q2:(l8 !=id)=true:=zl;go_enter func264,ntmps264;exact ka2
  ·have af:nC id l8 other name.data.toList value.data.toList=3:=by unfold nC;rw [if_pos zj]
   rw [af];have q0:(l8==0)=false:=zl;have q1:(l8==1)=false:=zl;have h3:other<0\/id<=other:=zj;go_enter func264,ntmps264;exact ka2
  have af:nC id l8 other name.data.toList value.data.toList=3:=by unfold nC;rw [if_pos zj]
  rw [af];have q0:(l8==0)=false:=zl;have q1:(l8==1)=false:=zl;have q2:(l8 !=id)=false:=zl;have h3:other<0\/id<=other:=zj;go_enter func264,ntmps264;exact ka0
 have o1:0<=other:=zj;have o2:other<id:=zj
 rcases (by omega:(2<=l8/\l8<id)\/l8=id) with ⟨h,h'⟩ | h
 ·cases hn:mr name.data.toList with
  | false=>
   have af:nC id l8 other name.data.toList value.data.toList=4:=by unfold nC;rw [if_neg cl,if_pos hn]
   rw [af];have q0:(l8==0)=false:=zl;have q1:(l8==1)=false:=zl;go_enter func264,ntmps264;exact ka0
  | true=>
   by_cases hv:value.data.toList= []
   ·have af:nC id l8 other name.data.toList value.data.toList=0:=by unfold nC;rw [if_neg cl,if_neg yq,if_neg (by rw [hv];simp)]
    rw [af];have q0:(l8==0)=false:=zl;have q1:(l8==1)=false:=zl;have e1:=rq hv;go_enter func264,ntmps264;exact ka0
   have af:nC id l8 other name.data.toList value.data.toList=3:=xK;rw [af];have q0:(l8==0)=false:=zl;have q1:(l8==1)=false:=zl;have e1:=sK hv;go_enter func264,ntmps264;exact ka1
 cases hn:mr name.data.toList with
 | false=>
  have af:nC id l8 other name.data.toList value.data.toList=4:=by unfold nC;rw [if_neg cl,if_pos hn]
  rw [af];have q0:(l8==0)=false:=zl;have q1:(l8==1)=false:=zl;have q2:(l8 !=id)=false:=zl;go_enter func264,ntmps264;exact ka1
 | true=>
  by_cases hv:value.data.toList= []
  ·have af:nC id l8 other name.data.toList value.data.toList=0:=by unfold nC;rw [if_neg cl,if_neg yq,if_neg (by rw [hv];simp)]
   rw [af];have q0:(l8==0)=false:=zl;have q1:(l8==1)=false:=zl;have q2:(l8 !=id)=false:=zl;have e1:=rq hv;go_enter func264,ntmps264;exact ka1
  have af:nC id l8 other name.data.toList value.data.toList=3:=xK;rw [af];have q0:(l8==0)=false:=zl;have q1:(l8==1)=false:=zl;have q2:(l8 !=id)=false:=zl;have e1:=sK hv;go_enter func264,ntmps264;exact ka1
theorem Mz{ad}(id)(t b n)(k:Nat)(l8 other)(name value)(w)(hE:U9 ad w)(_hid:4<=id)(_hsn:name.size<=1000000)(dF:value.size<=1000000):
  qC 265 #[.agg (qOa t b n k l8 other name value),qI id] w (qR (eV ad (Du id l8 other name.data.toList value.data.toList)) w):=by
 have g2:=fun o=>(hE.later ((uO _ _).alloc zg o)).c2
 have g3:=fun o=>(hE.later ((uO _ _).alloc zg o)).c3
 have ik:=oq value;by_cases cl:l8<0\/id<=l8\/other<0\/id<=other
 ·rcases (by omega:(l8<0\/id<=l8)\/((0<=l8/\l8<id)/\(other<0\/id<=other))) with h | ⟨⟨h,h'⟩,h3⟩
  ·have af:Du id l8 other name.data.toList value.data.toList=3:=by unfold Du;rw [if_pos zj]
   rw [af];go_enter func265,ntmps265;exact ka2
  have af:Du id l8 other name.data.toList value.data.toList=3:=by unfold Du;rw [if_pos zj]
  rw [af];go_enter func265,ntmps265;exact ka0
 obtain ⟨h1,h2,h3,h4⟩:0<=l8/\l8<id/\0<=other/\other<id:=zj;by_cases hn:name.data.toList= []
 ·have e1:=rq hn;by_cases hv:value.size=1
  ·have e2:((value.size:Int) !=1)=false:=by simp;omega
   cases hp:DN value.data.toList with
   | false=>
    have af:Du id l8 other name.data.toList value.data.toList=3:=by unfold Du;rw [if_neg cl,if_neg yq,if_pos (.inr hp)]
    rw [af];go_enter func265,ntmps265;exact ka0
   | true=>
    have af:Du id l8 other name.data.toList value.data.toList=0:=by unfold Du;rw [if_neg cl,if_neg yq,if_neg (by rw [hp,ik];simp;omega)]
    rw [af];go_enter func265,ntmps265;exact ka0
  have e2:((value.size:Int) !=1)=true:=zl
  have af:Du id l8 other name.data.toList value.data.toList=3:=by unfold Du;rw [if_neg cl,if_neg yq,if_pos (.inl zj)]
  rw [af];go_enter func265,ntmps265;exact ka1
 have e1:=sK hn
 have af:Du id l8 other name.data.toList value.data.toList=4:=by unfold Du;rw [if_neg cl,if_pos hn]
 rw [af];go_enter func265,ntmps265;exact ka1
theorem Mi{ad}(id)(t b n)(k:Nat)(l8 other)(name value)(w)(hE:U9 ad w)(hid:4<=id)(_hsn:name.size<=1000000)(_hsv:value.size<=1000000):
  qC 266 #[.agg (qOa t b n k l8 other name value),qI id] w (qR (eV ad (FO id l8 other name.data.toList value.data.toList)) w):=by
 have g2:=fun o=>(hE.later ((uO _ _).alloc zg o)).c2
 have g3:=fun o=>(hE.later ((uO _ _).alloc zg o)).c3
 by_cases cl:l8<0\/id<=l8\/other<0\/id<=other\/other=0
 ·rcases (by omega:(l8<0\/id<=l8)\/((0<=l8/\l8<id)/\(other<0\/id<=other))\/(0<=l8/\l8<id/\other=0)) with h | ⟨⟨h,h'⟩,h3⟩ | ⟨h,h',h3⟩
  ·have af:FO id l8 other name.data.toList value.data.toList=3:=by unfold FO;rw [if_pos zj]
   rw [af];go_enter func266,ntmps266;exact ka2
  ·have af:FO id l8 other name.data.toList value.data.toList=3:=by unfold FO;rw [if_pos zj]
   rw [af];go_enter func266,ntmps266;exact ka2
  have af:FO id l8 other name.data.toList value.data.toList=3:=by unfold FO;rw [if_pos zj]
  rw [af];have q0:(other==0)=true:=zl;go_enter func266,ntmps266;exact ka0
 obtain ⟨h1,h2,h3,h4,h5⟩:0<=l8/\l8<id/\0<=other/\other<id/\other≠0:=zj;have q0:(other==0)=false:=zl;by_cases hn:name.data.toList= []
 ·have e1:=rq hn;by_cases hv:value.data.toList= []
  ·have e2:=rq hv
   have af:FO id l8 other name.data.toList value.data.toList=0:=by unfold FO;rw [if_neg cl,if_neg yq,if_neg (by rw [hv];simp)]
   rw [af];go_enter func266,ntmps266;exact ka0
  have e2:=sK hv
  have af:FO id l8 other name.data.toList value.data.toList=3:=by unfold FO;rw [if_neg cl,if_neg yq,if_pos hv]
  rw [af];go_enter func266,ntmps266;exact ka1
 have e1:=sK hn
 have af:FO id l8 other name.data.toList value.data.toList=4:=by unfold FO;rw [if_neg cl,if_pos hn]
 rw [af];go_enter func266,ntmps266;exact ka1
theorem Xh{ad}(id)(t b n)(k:Nat)(l8 other)(name value)(w)(hE:U9 ad w)(_hid:4<=id)(bO:name.size<=1000000)(dF:value.size<=1000000):
  qC 267 #[.agg (qOa t b n k l8 other name value),qI id] w (qR (eV ad (En id l8 other name.data.toList value.data.toList)) w):=by
 have g2:=fun o=>(hE.later ((uO _ _).alloc zg o)).c2
 have g3:=fun o=>(hE.later ((uO _ _).alloc zg o)).c3
 have ik:=oq value;by_cases cl:l8<0\/id<=l8\/other≠0
 ·rcases (by omega:(l8<0\/id<=l8)\/(0<=l8/\l8<id/\other≠0)) with h | ⟨h,h',h3⟩
  ·have af:En id l8 other name.data.toList value.data.toList=3:=by unfold En;rw [if_pos zj]
   rw [af];go_enter func267,ntmps267;exact ka2
  have af:En id l8 other name.data.toList value.data.toList=3:=by unfold En;rw [if_pos zj]
  rw [af];have q0:(other !=0)=true:=zl;go_enter func267,ntmps267;exact ka0
 obtain ⟨h1,h2,h3⟩:0<=l8/\l8<id/\other=0:=zj;have q0:(other !=0)=false:=zl
 cases hn:mr name.data.toList with
 | false=>
  have af:En id l8 other name.data.toList value.data.toList=4:=by unfold En;rw [if_neg cl,if_pos hn]
  rw [af];go_enter func267,ntmps267;exact ka0
 | true=>
  by_cases hv:12<value.size
  ·have e2:decide (12<(value.size:Int))=true:=by simp;omega
   have af:En id l8 other name.data.toList value.data.toList=3:=by unfold En;rw [if_neg cl,if_neg yq,if_pos (.inl zj)]
   rw [af];go_enter func267,ntmps267;exact ka0
  have e2:decide (12<(value.size:Int))=false:=zl
  cases hp:DN value.data.toList with
  | false=>
   have af:En id l8 other name.data.toList value.data.toList=3:=by unfold En;rw [if_neg cl,if_neg yq,if_pos (.inr hp)]
   rw [af];go_enter func267,ntmps267;exact ka1
  | true=>
   have af:En id l8 other name.data.toList value.data.toList=0:=by unfold En;rw [if_neg cl,if_neg yq,if_neg (by rw [hp,ik];simp;omega)]
   rw [af];go_enter func267,ntmps267;exact ka1
theorem mn{ad}(t b n)(k:Nat)(l8 other)(name value)(w)(hE:U9 ad w)(bO:name.size<=1000000)(dF:value.size<=1000000):
  qC 213 #[.agg (qOa t b n k l8 other name value)] w (qR (eV ad (opE t b n k l8 other name.data.toList value.data.toList)) w):=by
 have O0:=Q5.GA w t b n k l8 other name value 88;have E0:=hE.later ((uO _ _).alloc zg (qOc t b n k l8 other name value));have B0:qL w (w.alloc (qOc t b n k l8 other name value)):=zh _ _;by_cases hst:1<=t/\t<=1073741824/\0<=b/\b<4
 ·obtain ⟨s1,s2,s3,s4⟩:=hst;by_cases h1:n<1
  ·have af:opE t b n k l8 other name.data.toList value.data.toList=2:=by unfold opE;rw [if_neg zj]
   rw [af];have d1:decide (n<1)=true:=zl;exact kb0
  have d1:decide (n<1)=false:=zl;by_cases h2:400<n
  ·have d2:decide (400<n)=true:=by simp;omega
   have af:opE t b n k l8 other name.data.toList value.data.toList=2:=by unfold opE;rw [if_neg zj]
   rw [af];exact kb0
  have d2:decide (400<n)=false:=zl;by_cases bw:k=109
  ·have r109:((k:Int)==109)=true:=by simp;omega
   have af:opE t b n k l8 other name.data.toList value.data.toList=nC (t*4+b) l8 other name.data.toList value.data.toList:=by unfold opE;rw [if_pos zj];unfold AG;rw [if_pos bw]
   rw [af];clear bw;go_enter func213,ntmps213;go_wp2_with fail
   generalize w.alloc (qOc t b n k l8 other name value)=u at O0 E0 B0 |-
   refine (MD _ _ _ s1 s2 s3 s4).mono ?_;rintro e w1 ⟨rfl,hb⟩;have O1:=O0.later hb;have E1:=E0.later hb;have B1:=zi B0 hb;have z1:=uP w1 (qB w.heap.size) O1.c0;obtain ⟨x0,x1,x2,x3,x4,x5,x6,x7⟩:=O1;obtain ⟨y1,y2,y3,y4⟩:=id E1;go_wp2_with fail;refine (VP (t*4+b) t b n k l8 other name value w1 E1 zj bO dF).mono ?_;exact ke2
  have r109:((k:Int)==109)=false:=zl;by_cases cX:k=105
  ·have r105:((k:Int)==105)=true:=by simp;omega
   have af:opE t b n k l8 other name.data.toList value.data.toList=Du (t*4+b) l8 other name.data.toList value.data.toList:=by unfold opE;rw [if_pos zj];unfold AG;rw [if_neg bw];rw [if_pos cX]
   rw [af];clear bw cX;go_enter func213,ntmps213;go_wp2_with fail
   generalize w.alloc (qOc t b n k l8 other name value)=u at O0 E0 B0 |-
   refine (MD _ _ _ s1 s2 s3 s4).mono ?_;rintro e w1 ⟨rfl,hb⟩;have O1:=O0.later hb;have E1:=E0.later hb;have B1:=zi B0 hb;have z1:=uP w1 (qB w.heap.size) O1.c0;obtain ⟨x0,x1,x2,x3,x4,x5,x6,x7⟩:=O1;obtain ⟨y1,y2,y3,y4⟩:=id E1;go_wp2_with fail;refine (Mz (t*4+b) t b n k l8 other name value w1 E1 zj bO dF).mono ?_;exact ke2
  have r105:((k:Int)==105)=false:=zl;by_cases dM:k=100
  ·have r100:((k:Int)==100)=true:=by simp;omega
   have af:opE t b n k l8 other name.data.toList value.data.toList=FO (t*4+b) l8 other name.data.toList value.data.toList:=by unfold opE;rw [if_pos zj];unfold AG;rw [if_neg bw];rw [if_neg cX];rw [if_pos dM]
   rw [af];clear bw cX dM;go_enter func213,ntmps213;go_wp2_with fail
   generalize w.alloc (qOc t b n k l8 other name value)=u at O0 E0 B0 |-
   refine (MD _ _ _ s1 s2 s3 s4).mono ?_;rintro e w1 ⟨rfl,hb⟩;have O1:=O0.later hb;have E1:=E0.later hb;have B1:=zi B0 hb;have z1:=uP w1 (qB w.heap.size) O1.c0;obtain ⟨x0,x1,x2,x3,x4,x5,x6,x7⟩:=O1;obtain ⟨y1,y2,y3,y4⟩:=id E1;go_wp2_with fail;refine (Mi (t*4+b) t b n k l8 other name value w1 E1 zj bO dF).mono ?_;exact ke2
  have r100:((k:Int)==100)=false:=zl;by_cases cD:k=115
  ·have r115:((k:Int)==115)=true:=by simp;omega
   have af:opE t b n k l8 other name.data.toList value.data.toList=En (t*4+b) l8 other name.data.toList value.data.toList:=by unfold opE;rw [if_pos zj];unfold AG;rw [if_neg bw];rw [if_neg cX];rw [if_neg dM];rw [if_pos cD]
   rw [af];clear bw cX dM cD;go_enter func213,ntmps213;go_wp2_with fail
   generalize w.alloc (qOc t b n k l8 other name value)=u at O0 E0 B0 |-
   refine (MD _ _ _ s1 s2 s3 s4).mono ?_;rintro e w1 ⟨rfl,hb⟩;have O1:=O0.later hb;have E1:=E0.later hb;have B1:=zi B0 hb;have z1:=uP w1 (qB w.heap.size) O1.c0;obtain ⟨x0,x1,x2,x3,x4,x5,x6,x7⟩:=O1;obtain ⟨y1,y2,y3,y4⟩:=id E1;go_wp2_with fail;refine (Xh (t*4+b) t b n k l8 other name value w1 E1 zj bO dF).mono ?_;exact ke2
  have r115:((k:Int)==115)=false:=zl
  have af:opE t b n k l8 other name.data.toList value.data.toList=5:=by unfold opE;rw [if_pos zj];unfold AG;rw [if_neg bw];rw [if_neg cX];rw [if_neg dM];rw [if_neg cD]
  rw [af];exact kb0
 have af:opE t b n k l8 other name.data.toList value.data.toList=2:=by unfold opE;rw [if_neg zj]
 rw [af];have HS:=Lib.hid hst;go_enter func213,ntmps213;go_wp2_with fail
 generalize w.alloc (qOc t b n k l8 other name value)=u at O0 E0 B0 |-
 refine (zd5 t b u _ _ E0.c1 (uP u (qB 0) E0.c1) HS.o).mono ?_;rintro e w1 ⟨rfl,hb⟩;have B1:=zi B0 hb;go_wp2;go_ret;exact ⟨rfl,B1⟩
def Cyc(ad:qF):Prop:=ad 100=(qB 1)
structure F1 (B:Nat) (ad:qF) (w:qW):Prop where
 Q1:U9 ad w
 c5:w.cell? (qB 5)=some (.iface 437 (.pointer (some (ad 5))))
 c6:w.cell? (qB 6)=some (.iface 437 (.pointer (some (ad 6))))
 c7:w.cell? (qB 7)=some (.iface 437 (.pointer (some (ad 7))))
 c8:w.cell? (qB 8)=some (.iface 437 (.pointer (some (ad 8))))
 c9:Cyc ad->w.cell? (qB 9)=some (.iface 437 (.pointer (some (ad 9))))
 low:13<=B
 size:B<=w.heap.size
theorem F1.mono{B}{ad}{w w'}(h:F1 B ad w)(hb:Below B w w'):F1 B ad w':=by
 have hl:=h.low
 have k:∀g v,g<B->w.cell? (qB g)=some v->w'.cell? (qB g)=some v:=fun g v hg e=>(hb.cell (p:=(qB g)) hg).trans e
 exact ⟨⟨k _ _ zj h.Q1.c1,k _ _ zj h.Q1.c2,k _ _ zj h.Q1.c3,k _ _ zj h.Q1.c4⟩,k _ _ zj h.c5,k _ _ zj h.c6,k _ _ zj h.c7,k _ _ zj h.c8,fun q=>k _ _ zj (h.c9 q),hl,uQ h.size hb.size⟩
theorem F1.later{B}{ad}{w w'}(h:F1 B ad w)(hb:qL w w'):F1 B ad w':=h.mono (hb.mono h.size)
structure But (pb:Nat) (w w':qW):Prop where
 os:w'.os=w.os
 tape:w'.tape=w.tape
 output:w'.output=w.output
 size:w.heap.size<=w'.heap.size
 block:∀k,k<w.heap.size->k≠pb->w'.heap[k]? =w.heap[k]?
theorem But.y{pb}{w w'}(h:qL w w'):But pb w w':=⟨h.os,h.tape,h.output,h.size,fun k hk _=>h.block k hk⟩
theorem But.later{pb}{w w1 w'}(h:But pb w w1)(hb:qL w1 w'):But pb w w':=
 ⟨hb.os.trans h.os,hb.tape.trans h.tape,hb.output.trans h.output,uQ h.size hb.size,fun k hk hn=>(hb.block k (uY hk h.size)).trans (h.block k hk hn)⟩
theorem But.setCell{pb o}{w w1}(h:But pb w w1)(v):But pb w (w1.setCell (qA pb o) v):=by
 have hb:Below 0 w1 (w1.setCell (qA pb o) v):=(uO 0 w1).setCell (uW _) v;exact ⟨hb.os.trans h.os,hb.tape.trans h.tape,hb.output.trans h.output,uQ h.size hb.size,fun k hk hn=>(Below.heap_setCell w1 (qA pb o) v k hn).trans (h.block k hk hn)⟩
theorem zdj(b)(w)(h3:0<=b)(h4:b<4):
  qC 77 #[qI b] w fun e w'=>e=qT #[qP w.heap.size,.nilIface]/\w'=w.alloc (.cells #[qI 0,qI b] 128):=by
 go_enter func77,ntmps77;go_wp2;go_ret2;exact kh6
structure Clk (pb:Nat) (T b:Int) (w:qW):Prop where
 t:w.cell? (qB pb)=some (qI T)
 b:w.cell? (qA pb 1)=some (qI b)
 f:w.frozen? (qB pb)=false
theorem Clk.lt{pb}{T b}{w}(h:Clk pb T b w):pb<w.heap.size:=uP w (qB pb) h.t
theorem Clk.later{pb}{T b}{w w'}(h:Clk pb T b w)(hb:qL w w'):Clk pb T b w':=
 ⟨cell_later hb h.t,cell_later hb h.b,(hb.frozen (p:=(qB pb)) h.lt).trans h.f⟩
theorem Clk.set{pb}{T b}{w}(h:Clk pb T b w)(T'):Clk pb T' b (w.setCell (qB pb) (qI T')):=
 ⟨YM _ _ _ h.t,(Zs _ _ _ _ zq).trans h.b,by rw [Zu];exact h.f⟩
theorem QW(pb)(T c)(w)(eb)(hg:w.cell? (qB 7)=some eb)(hC:Clk pb T c w)(hT:1073741824<=T):
  qC 356 #[qP pb] w (qR (.tuple #[.agg #[qI 0,qI 0],eb]) w):=by
 obtain ⟨k0,k1,kf⟩:=hC;have hz:7<w.heap.size:=uP w (qB 7) hg;have hp:pb<w.heap.size:=uP w (qB pb) k0;go_enter func356,ntmps356;go_wp2;go_region
 all_goals try go_wp2
 exact bodyPost_ret (v:=.tuple #[.agg #[qI 0,qI 0],eb]) uv rfl ⟨rfl,(zh _ _).drew⟩
theorem Xo(pb)(T c)(w)(hC:Clk pb T c w)(h0:0<=T)(hT:T<1073741824):
  qC 356 #[qP pb] w fun e w'=>e= .returned (.tuple #[.agg #[qI (T+1),qI c],.nilIface])/\But pb w w'/\Clk pb (T+1) c w':=by
 obtain ⟨k0,k1,kf⟩:=hC;have hp:pb<w.heap.size:=uP w (qB pb) k0;go_enter func356,ntmps356;go_wp2
 exact bodyPost_ret (v:=.tuple #[.agg #[qI (T+1),qI c],.nilIface]) uv rfl
  ⟨rfl,((But.y (uO _ _)).setCell _).later (zh _ _),(Clk.set (T:=T) ⟨k0,k1,kf⟩ (T+1)).later (zh _ _)⟩
end