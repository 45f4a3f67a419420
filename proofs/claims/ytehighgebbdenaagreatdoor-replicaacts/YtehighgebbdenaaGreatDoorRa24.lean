import Derived.Test.YtehighgebbdenaaGreatDoorRa23
set_option maxRecDepth 100000
set_option maxHeartbeats 64000000
namespace Go.Proofs.YtehighgebbdenaaGreatDoor
open Go.Proofs.Tryz
variable {S T l xs ys:List OpX} {g i n o:Nat} {x:OpX} {v:Value} {w:World}
section
open Go
theorem rR (a b:Int×Int):bL a.1 a.2 b.1 b.2=true↔CLt a b:=by
 unfold bL CLt;split<;>simp<;>omega
def SiftAt (S l:List OpX) (i:Nat) (fresh:List OpX):Prop:=bp S 0 [] l=bp S i fresh (l.drop i)/\FreshK S fresh/\fresh.length<=i
theorem SiftAt.start (S l:List OpX):SiftAt S l 0 []:=⟨rfl,dV S,vM _⟩
theorem drop_one (hx:l[i]? =some x):l.drop i=x::l.drop (i+1):=by
 have hi:=(vL.1 hx).1;rw [uQ hi,(vL.1 hx).2]
theorem SiftAt.bad {fresh:List OpX} (h:SiftAt S l i fresh) (hx:l[i]? =some x) (he:an x≠0):aB S l (.inl ((i:Int),an x)):=by
 unfold aB;rw [h.1,drop_one hx,gM he]
theorem SiftAt.other {fresh:List OpX} {y:OpX} (h:SiftAt S l i fresh) (hx:l[i]? =some x) (he:an x=0) (hl:av (S++fresh) (byO x) (ar x)=some y) (hy:y≠x):aB S l (.inl ((i:Int),7)):=by
 unfold aB;rw [h.1,drop_one hx,dR he hl hy]
theorem SiftAt.same {fresh:List OpX} (h:SiftAt S l i fresh) (hx:l[i]? =some x) (he:an x=0) (hl:av (S++fresh) (byO x) (ar x)=some x):SiftAt S l (i+1) fresh:=by
 refine ⟨?_,h.2.1,by have:=h.2.2;omega⟩;rw [h.1,drop_one hx,dL he hl]
theorem SiftAt.more {fresh:List OpX} (h:SiftAt S l i fresh) (hx:l[i]? =some x) (he:an x=0) (hl:av (S++fresh) (byO x) (ar x)=none):SiftAt S l (i+1) (fresh++ [x]):=by
 refine ⟨?_,h.2.1.snoc he hl,by have:=h.2.2;simp;omega⟩;rw [h.1,drop_one hx,fI he hl]
theorem SiftAt.all {fresh:List OpX} (h:SiftAt S l i fresh) (hi:l.length<=i):bp S 0 [] l= .inr fresh:=by
 rw [h.1,Yd hi];rfl
theorem nG {fresh:List OpX} (h1:∀x∈S,∀y∈S,byO x=byO y->ar x=ar y->x=y) (hF:FreshK S fresh):∀x∈S++fresh,∀y∈S++fresh,byO x=byO y->ar x=ar y->x=y:=by
 intro x hx y hy e1 e2
 rcases vW.1 hx with hx | hx<;>rcases vW.1 hy with hy | hy
 ·exact h1 x hx y hy e1 e2
 ·exact absurd ⟨e1,e2⟩ (hF.off y hy x hx)
 ·exact absurd ⟨e1.symm,e2.symm⟩ (hF.off x hx y hy)
 obtain ⟨i,hi,rfl⟩:=List.mem_iff_getElem.1 hx;obtain ⟨j,hj,rfl⟩:=List.mem_iff_getElem.1 hy
 rcases ZM i j with q | q | q
 ·exact absurd ⟨e1,e2⟩ (ud.1 hF.one i j hi hj q)
 ·subst q;rfl
 exact absurd ⟨e1.symm,e2.symm⟩ (ud.1 hF.one j i hj hi q)
def rd (T:List OpX) (x:OpX):Bool:=decide (ar x≠1) &&(av T (byO x) (ar x - 1)).isNone
def fE (T:List OpX) (x:OpX):Bool:=decide (ar x≠1) &&(match av T (byO x) (ar x - 1) with
 | some o=> !bL o.1 o.2.1 x.1 x.2.1
 | none=>false)
theorem gapB_iff :T.any (rd T)=true↔Gap T:=by
 rw [ZQ];unfold Gap rd;constructor
 ·rintro ⟨x,hx,h⟩;rw [uB,decide_eq_true_eq,Option.isNone_iff_eq_none] at h;refine ⟨x,hx,h.1,fun ⟨y,hy,e1,e2⟩=>lookK_none.1 h.2 y hy ⟨e1,zo⟩⟩
 rintro ⟨x,hx,h1,h2⟩;refine ⟨x,hx,?_⟩;rw [uB,decide_eq_true_eq,Option.isNone_iff_eq_none];exact ⟨h1,lookK_none.2 (fun y hy q=>h2 ⟨y,hy,q.1,zo⟩)⟩
theorem pS (h1:∀x∈T,∀y∈T,byO x=byO y->ar x=ar y->x=y) (hok:∀x∈T,an x=0):T.any (fE T)=true↔Falls T:=by
 rw [ZQ];unfold Falls fE;constructor
 ·rintro ⟨x,hx,h⟩;rw [uB,decide_eq_true_eq] at h
  cases hl:av T (byO x) (ar x - 1) with
  | none=>rw [hl] at h;cases h.2
  | some o=>
   rw [hl] at h;obtain ⟨ho,e1,e2⟩:=eE hl;refine ⟨o,ho,x,hx,e1,zo,fun q=> ?_⟩;have:=(rR (stO o) (stO x)).2 q;have h2:(!bL o.1 o.2.1 x.1 x.2.1)=true:=h.2;unfold stO at this;dsimp only at this;rw [this] at h2
   cases h2
 rintro ⟨x,hx,y,hy,e1,e2,e3⟩;refine ⟨y,hy,?_⟩;have hn:=oh (hok x hx)
 have hl:av T (byO y) (ar y - 1)=some x:=by
  have:=oq h1 hx;rw [e1,show ar x=ar y - 1 by omega] at this;exact this
 rw [uB,decide_eq_true_eq,hl];refine ⟨zo,?_⟩
 have:bL x.1 x.2.1 y.1 y.2.1=false:=by
  cases hb:bL x.1 x.2.1 y.1 y.2.1 with
  | false=>rfl
  | true=>exact absurd ((rR (stO x) (stO y)).1 hb) e3
 show (!bL x.1 x.2.1 y.1 y.2.1)=true
 rw [this];rfl
def re (T:List OpX) (x:OpX):Bool:=((decide (kdO x=109) &&decide (idO x=aL x)) ||bT T (aL x)) &&((!decide (kdO x=109) ||kP T (aJ x)) &&(!((decide (kdO x=105) &&decide (0<aJ x)) ||decide (kdO x=100)) ||fJ T (aL x) (aJ x)))
theorem plcB_iff {nd:Int} :kP T nd=true↔(nd=0\/nd=1\/KnownN T nd):=by
 unfold kP;rw [Zz,Zz,decide_eq_true_eq,decide_eq_true_eq,knownB_iff]
theorem refB_iff :re T x=true↔RefOk T x:=by
 unfold re RefOk;rw [uB,uB,Zz,Zz,Zz,uB,knownB_iff,plcB_iff,sr];simp only [decide_eq_true_eq,Bool.not_eq_true',decide_eq_false_iff_not,Bool.or_eq_false_iff,Bool.and_eq_false_iff];refine and_congr Iff.rfl (and_congr ?_ ?_)
 ·constructor
  ·rintro (h | h) q
   ·exact absurd q h
   exact h
  intro h;by_cases q:kdO x=109
  ·exact .inr (h q)
  exact .inl q
 constructor
 ·rintro (h | h) q
  ·rcases q with ⟨q1,q2⟩ | q
   ·rcases h.1 with r | r
    ·exact absurd q1 r
    exact absurd q2 r
   exact absurd q h.2
  exact h
 intro h;by_cases q:(kdO x=105/\0<aJ x)\/kdO x=100
 ·exact .inr (h q)
 refine .inl ⟨?_,fun r=>q (.inr r)⟩;by_cases r:kdO x=105
 ·exact .inr (fun t=>q (.inl ⟨r,t⟩))
 exact .inl r
end
section
open Go.Shelf Go.RowKit Go.Lib Go.Sort
theorem BF (w:World) (v:Value) (xs:List OpX) (h:OpsAt w v xs) (hn:xs.length<=1000):
  Calls prog 11 #[v] w fun e w'=>∃v',e= .returned v'/\OpsAt w' v' xs/\Below w.heap.size w w':=by
 rcases h with ⟨rfl,rfl⟩ | ⟨blk,off,cap,rfl,hc⟩
 ·exact kn8
 obtain ⟨i0,hi,hz0,hz1,hz2⟩:=info_parts dX;have A:Aside (∀j u,(cellsOf xs)[j]? =some u->w.cell? ⟨blk,off+j,none⟩=some u):=hc;clear hc;go_enter func11,ntmps11;go_wp2_with (at_builtin;refine wpList_append_own _ rfl _ _ 32 rfl w.heap.size 38 i0 _ 8 80 underlying32 hi hz0 hz1 hz2 rfl zo _ _ _ rfl (un w _ _ _) ⟨blk,off,none⟩ xs.length cap (cellsOf xs) rfl ?qc1 ?qc2 ?qc3 ?qc4 ?qc5 ?qc6 ?_)
 case qc1=>exact aH xs
 case qc2=>
  intro j u hj;rw [Addr.add_lit];exact A.o j u hj
 case qc3=>exact bH xs
 case qc4=>rw [vY];simp only [maxLen];omega
 case qc5=>rw [vY];omega
 case qc6=>simp
 intro v' w1 hown hgrow hnil
 have F:Aside (OpsAt w1 v' xs/\Below w.heap.size w w1):=⟨dI qy,(vP _ w).grown hgrow zg zN⟩
 clear hown hgrow hnil A;go_wp2;go_ret;exact ⟨v',rfl,F.o.1,F.o.2⟩
end
section
open Go.Shelf Go.RowKit Go.Lib Go.Sort
theorem Dv {P:Program} (k:Nat) (L:STy P k) (hF:P.funcs[(22:Nat)]? =some f22) (en:Nat->Array Value) (b off cap b' off' cap' n:Nat) (w:World)
  (l1:∀i q os,i<n->Sem.run P (loadCellsFrom ⟨b,off+i*k,none⟩ 0 k #[]) (grow (w.drewN q) os)= .ok (en i) (grow (w.drewN q) os))
  (l2:∀i q os,i<n->Sem.run P (loadCellsFrom ⟨b',off'+i*k,none⟩ 0 k #[]) (grow (w.drewN q) os)= .ok (en i) (grow (w.drewN q) os))
  (hE:(∀i w,(binOp .neq 38 (.agg (en i)) (.agg (en i))).run P w= .ok (.bool false) w)) (hGd:∀(op:BinOp) (a b:Operand) (x y:Array Value) (w:World),Sem.run P (eqGuard op 38 a b (.agg x) (.agg y)) w= .ok () w) (hn:n<4611686018427387904):
  Calls P 22 #[.slice (some ⟨b,off,none⟩) n cap,.slice (some ⟨b',off',none⟩) n cap'] w fun e w'=>e= .returned (.bool true)/\∃q os,w'=grow (w.drewN q) os:=by
 have mixed:=L.mixed;have t0:=L.t0;have a0:=L.a0;have z0:=L.z0;have v0:=L.v0;have t3:=L.t3;have a3:=L.a3;have z3:=L.z3;have v3:=L.v3;have t4:=L.t4;have a4:=L.a4;have z4:=L.z4;have v4:=L.v4;have tS:=L.tS;have aS:=L.aS;have zS:=L.zS;have vS:=L.vS;have tC:=L.tC;have aC:=L.aC;have zC:=L.zC;have vC:=L.vC;have tU:=L.tU;have aU:=L.aU;have zU:=L.zU;have vU:=L.vU;have aE:=L.aE;have zE:=L.zE;have L1:Aside (∀i q os,i<n->Sem.run P (loadCellsFrom ⟨b,off+i*k,none⟩ 0 k #[]) (grow (w.drewN q) os)= .ok (en i) (grow (w.drewN q) os)):=l1;have L2:Aside (∀i q os,i<n->Sem.run P (loadCellsFrom ⟨b',off'+i*k,none⟩ 0 k #[]) (grow (w.drewN q) os)= .ok (en i) (grow (w.drewN q) os)):=l2;have HE:Aside (∀i w,(binOp .neq 38 (.agg (en i)) (.agg (en i))).run P w= .ok (.bool false) w):=hE;clear l1 l2 hE;go_enter hF,ntmps22;go_wp2;go_loopg [5] n (fun kx s5 wr=>∃(i:Nat),s5= .int .i64 (i:Int)/\i<=n/\n - i<=kx/\Aside (∃q os,wr=grow (w.drewN q) os))
 case atStart=>exact ⟨0,rfl,vV _,vM _,⟨0,#[],by rw [grow_empty];rfl⟩⟩
 case round=>
  obtain ⟨i,rfl,hi,hkx,W⟩:=hrel;by_cases hlt:i<n
  ·have hltz:decide ((i:Int)<(n:Int))=true:=by simp;omega
   have ex:((i:Int)).toNat=i:=zo;have px:(0:Int)<=(i:Int):=zo;have bx:(i:Int)<(n:Int):=zo
   have hG:∀q os,∃q' os',grow (wr.drewN q) os=grow (w.drewN q') os':=fun q os=>dw W.o ⟨q,os,rfl⟩
   have lx:∀q os,Sem.run P (loadCellsFrom ⟨b,off+i*k,none⟩ 0 k #[]) (grow (wr.drewN q) os)= .ok (en i) (grow (wr.drewN q) os):=fun q os=>by obtain ⟨q',os',e⟩:=hG q os;rw [e];exact L1.o i q' os' hlt
   have ly:∀q os,Sem.run P (loadCellsFrom ⟨b',off'+i*k,none⟩ 0 k #[]) (grow (wr.drewN q) os)= .ok (en i) (grow (wr.drewN q) os):=fun q os=>by obtain ⟨q',os',e⟩:=hG q os;rw [e];exact L2.o i q' os' hlt
   have hq:=fun w=>HE.o i w
   have HG:Aside (∀q os,∃q' os',grow (wr.drewN q) os=grow (w.drewN q') os'):=hG;clear hG W;go_wp2_with fail;go_quiet_grown (fail);have W2:Aside (∃q os,grow (wr.drewN nq) osq=grow (w.drewN q) os):=HG.o nq osq;clear lx ly hq HG
   generalize grow (wr.drewN nq) osq=w2 at W2 |-
   go_wp2;go_roundg (n - (i+1))
   case measure=>omega
   case rel=>exact ⟨i+1,zD,zo,vM _,W2⟩
  have hltz:decide ((i:Int)<(n:Int))=false:=zr;go_wp2;go_ret;exact ⟨rfl,W.o⟩
end
section
open Go.Shelf Go.RowKit Go.Lib Go.Sort
theorem Hs (x:OpX) (w:World):(binOp .neq 38 (.agg (au x).toArray) (.agg (au x).toArray)).run prog w= .ok (.bool false) w:=by
 obtain ⟨t,b,n,k,node,other,name,value⟩:=x
 show Sem.run prog (binOp .neq 38 (.agg #[.int .i64 t,.int .i64 b,.int .i64 n,.int .u8 (k:Int),.int .i64 node,.int .i64 other,.string name,.string value]) (.agg #[.int .i64 t,.int .i64 b,.int .i64 n,.int .u8 (k:Int),.int .i64 node,.int .i64 other,.string name,.string value])) w=_
 go_simp
theorem Gx (op:BinOp) (a b:Operand) (x y:Array Value) (w:World):Sem.run prog (eqGuard op 38 a b (.agg x) (.agg y)) w= .ok () w:=run_eqGuard_agg w op 38 a b x y zq
theorem Dm {b off:Nat} (hc:∀j u,(cellsOf xs)[j]? =some u->w.cell? ⟨b,off+j,none⟩=some u) (i q:Nat) (os:Array Obj) (hi:i<xs.length):
  Sem.run prog (loadCellsFrom ⟨b,off+i*8,none⟩ 0 8 #[]) (grow (w.drewN q) os)= .ok (au xs[i]!).toArray (grow (w.drewN q) os):=
 run_loadCellsFrom_list prog _ _ (au xs[i]!) 8 (bE _) (fun c v hcv=>by
  have h8:c<8:=by have:=(vL.1 hcv).1;rwa [bE] at this
  have e:=bO xs i c hi h8
  have h1:=hc (i*8+c) v (by rw [e,<-hcv,vN yT,getElem!_pos _ c yT])
  rw [Addr.add_lit,Zc]
  exact aT (below_grow ⟨rfl,rfl,rfl,vM _,fun _ _=>rfl⟩ zg) h1)
theorem mD (p p':Option Addr) (c c':Nat) (w:World):Calls prog 22 #[.slice p 0 c,.slice p' 0 c'] w fun e w'=>e= .returned (.bool true)/\w'=w:=by
 go_enter func22,ntmps22;go_wp2;refine wp_loop_rounds 1 ?_;rw [rounds_succ];exact kb4
theorem AM (w:World) (v v':Value) (xs:List OpX) (h:OpsAt w v xs) (h':OpsAt w v' xs) (hn:xs.length<=1000):
  Calls prog 22 #[v,v'] w fun e w'=>e= .returned (.bool true)/\Below w.heap.size w w':=by
 rcases h with ⟨rfl,rfl⟩ | ⟨b,off,c,rfl,hc⟩
 ·rcases h' with ⟨rfl,_⟩ | ⟨b',off',c',rfl,_⟩
  ·refine (mD none none 0 0 w).mono ?_;exact kk5
  refine (mD none (some ⟨b',off',none⟩) 0 c' w).mono ?_;exact kk5
 rcases h' with ⟨rfl,rfl⟩ | ⟨b',off',c',rfl,hc'⟩
 ·refine (mD (some ⟨b,off,none⟩) none c 0 w).mono ?_;exact kk5
 refine (Dv 8 wd func22 (fun i=>(au xs[i]!).toArray) b off c b' off' c' xs.length w (fun i q os hi=>Dm hc i q os hi) (fun i q os hi=>Dm hc' i q os hi) (fun i w=>Hs _ w) Gx zo).mono ?_;rintro e w' ⟨rfl,q,os,rfl⟩;exact ⟨rfl,below_grow ⟨rfl,rfl,rfl,vM _,fun _ _=>rfl⟩ zg⟩
end
section
open Go.Shelf Go.RowKit Go.Lib Go.Sort
end
section
open Go.Shelf Go.RowKit Go.Lib Go.Sort
end
section
open Go.Shelf Go.RowKit Go.Lib Go.Sort
def InsOf (xs:List OpX) (i:Nat) (ys:List OpX):Prop:=∃D:List (OpX×Nat),D.Perm (xs.take i).zipIdx/\D.Pairwise (fun u v=>slt ltX v u=false)/\ys=D.map Prod.fst
theorem InsOf.zero (xs:List OpX):InsOf xs 0 []:=⟨[],zv,List.Pairwise.nil,rfl⟩
theorem InsOf.len (h:InsOf xs i ys) (hi:i<=xs.length):ys.length=i:=by
 obtain ⟨D,hp,_,rfl⟩:=h;rw [uz,hp.length_eq,List.length_zipIdx,ug];omega
theorem InsOf.next {k:Nat} (h:InsOf xs i ys) (hi:i<xs.length) (hk:k<=ys.length) (h1:0<k->ltX xs[i]! ys[k - 1]! =false) (h2:∀p,k<=p->p<ys.length->ltX xs[i]! ys[p]! =true):
  InsOf xs (i+1) (ys.take k++xs[i]! ::ys.drop k):=by
 obtain ⟨D,hp,hs,rfl⟩:=h;rw [uz] at hk h2;refine ⟨D.take k++(xs[i]!,i)::D.drop k,?_,?_,zv⟩
 ·have e:(xs.take (i+1)).zipIdx=(xs.take i).zipIdx++ [(xs[i]!,i)]:=by
   rw [uS,vN hi,getElem!_pos xs i hi,List.zipIdx_append];simp;omega
  rw [e];refine (List.perm_middle.trans ?_);rw [ur];exact (List.Perm.cons _ hp).trans (List.perm_append_singleton _ _).symm
 refine Fc tG D (xs[i]!,i) k hk hs ?_ ?_ ?_
 ·intro u hu;have:=hp.mem_iff.1 hu;obtain ⟨a,n⟩:=u;rw [List.mem_zipIdx_iff_getElem?] at this;have h3:=(vL.1 this).1;rw [ug] at h3
  show n<i
  omega
 ·intro u hu hk0;have h3:=h1 hk0;have h4:=(vL.1 hu).1;rw [getElem!_pos (D.map Prod.fst) (k - 1) (by rw [uz];exact h4)] at h3;rw [<-(vL.1 hu).2];simpa using h3
 intro u hu;obtain ⟨p,hp1,rfl⟩:=List.mem_iff_getElem.1 hu;rw [uy] at hp1;have h3:=h2 (k+p) zo zo;rw [getElem!_pos (D.map Prod.fst) (k+p) (by rw [uz];omega)] at h3;simpa using h3
theorem InsOf.all (h:InsOf xs xs.length ys):bW xs ys:=by
 obtain ⟨D,hp,hs,rfl⟩:=h;rw [Zu] at hp
 have hl:D.length=xs.length:=by rw [hp.length_eq,List.length_zipIdx]
 refine ⟨D.toArray,⟨⟨by rw [bQ];simpa using hl,?_,?_⟩,?_⟩,zv⟩
 ·intro j hj;have h1:¬j<D.toArray.size:=zr;have h2:¬j<(cj xs).size:=js;rw [getElem!_neg D.toArray j h1,getElem!_neg (cj xs) j h2]
 ·have e1:(D.toArray.extract 0 xs.length).toList=D:=by simp [<-hl]
  have e2:((cj xs).extract 0 xs.length).toList=xs.zipIdx:=by simp [cj];exact uc zv
  rw [e1,e2];exact hp
 intro a b _ hab hb;have h:=ud.1 hs a b zo zo hab;rw [getElem!_pos D.toArray a zr,getElem!_pos D.toArray b zr];simpa using h
end
section
open Go.Shelf Go.RowKit Go.Lib Go.Sort
theorem sN (t b t' b':Int) (w:World):
  Calls prog 57 #[.agg #[.int .i64 t,.int .i64 b],.agg #[.int .i64 t',.int .i64 b']] w fun e w'=>e= .returned (.bool (bL t b t' b'))/\∃q os,w'=grow (w.drewN q) os:=by
 unfold bL;by_cases h:t=t'
 ·have hl:decide (t<t')=false:=by simp;omega
  have hd:(t==t')=true:=xQ;rw [if_pos h];clear h;go_enter func57,ntmps57;go_wp2;exact kf3
 by_cases hlt:t<t'
 ·have hl:decide (t<t')=true:=by simp;omega
  rw [if_neg h,hl];clear h;go_enter func57,ntmps57;go_wp2;exact kf3
 have hl:decide (t<t')=false:=zr;have hd:(t==t')=false:=xQ;rw [if_neg h,hl];clear h;go_enter func57,ntmps57;go_wp2;exact kf3
theorem fy (t b t' b':Int) (z:Bool) (w:World) (hz:bL t b t' b'=z):
  Calls prog 57 #[.agg #[.int .i64 t,.int .i64 b],.agg #[.int .i64 t',.int .i64 b']] w fun e w'=>e= .returned (.bool z)/\∃q os,w'=grow (w.drewN q) os:=by rw [<-hz];exact sN t b t' b' w
theorem Hu (t b t' b':Int) (z:Bool) (w:World) (hz:bL t b t' b'=z):
  Calls prog 57 #[.agg #[.int .i64 t,.int .i64 b],.agg #[.int .i64 t',.int .i64 b']] w fun e w'=>e= .returned (.bool z)/\Below w.heap.size w w':=
 (fy t b t' b' z w hz).mono fun _ _ h=>⟨h.1,aI h.2⟩
def Four (u:World) (g1 p1 g2 p2:Nat) (t b t' b':Int) (w':World):Prop:=w'.cell? ⟨g1,p1,none⟩=some (.int .i64 t)/\w'.cell? ⟨g1,p1+1,none⟩=some (.int .i64 b)/\w'.cell? ⟨g2,p2,none⟩=some (.int .i64 t')/\w'.cell? ⟨g2,p2+1,none⟩=some (.int .i64 b')/\Below u.heap.size u w'
theorem Four.later {u w':World} {g1 p1 g2 p2:Nat} {t b t' b':Int} (h:Four u g1 p1 g2 p2 t b t' b' w) (hb:Below w.heap.size w w'):Four u g1 p1 g2 p2 t b t' b' w':=
 ⟨aT hb h.1,aT hb h.2.1,aT hb h.2.2.1,aT hb h.2.2.2.1,zj h.2.2.2.2 hb⟩
def OutAt (w:World) (v:Value) (ys:List OpX):Prop:=
 (v= .slice none 0 0/\ys= [])\/∃g o c,v= .slice (some ⟨g,o,none⟩) ys.length c/\ys.length<=c/\∀j u,(cellsOf ys)[j]? =some u->w.cell? ⟨g,o+j,none⟩=some u
theorem OutAt.ops (h:OutAt w v ys):OpsAt w v ys:=by
 rcases h with h | ⟨g,o,c,h1,_,h2⟩
 ·exact .inl h
 exact .inr ⟨g,o,c,h1,h2⟩
theorem ot {base:Nat} {cs:List Value} (h:w.ownsRow base 38 8 v n cs) (hn:n=ys.length) (hc:cs=cellsOf ys):OutAt w v ys:=by
 subst hn hc;have h':=h
 rcases h.2 with ⟨h1,h2⟩ | ⟨g,cap,cur,rfl,_,_,hr,_⟩
 ·exact kq1
 refine .inr ⟨g,0,cap,rfl,hr,fun j u hj=> ?_⟩;have hl:j<(cellsOf ys).length:=(vL.1 hj).1;rw [aH] at hl;exact kq4
theorem lD (ys:List OpX) (k:Nat) (x:OpX):cellsOf (ys.take k)++au x++cellsOf (ys.drop k)=cellsOf (ys.take k++x::ys.drop k):=by
 rw [cM,eX,ux]
theorem gZ (k:Nat) (h:∀j u,(cellsOf ys)[j]? =some u->w.cell? ⟨g,o+j,none⟩=some u) (j:Nat) (u:Value) (hj:(cellsOf (ys.take k))[j]? =some u):w.cell? ((⟨g,o,none⟩:Addr).add j)=some u:=by
 rw [Addr.add_lit];refine h j u ?_;have e:cellsOf ys=cellsOf (ys.take k)++cellsOf (ys.drop k):=qD;exact kr9
theorem gR (k:Nat) (hk:k<=ys.length) (h:∀j u,(cellsOf ys)[j]? =some u->w.cell? ⟨g,o+j,none⟩=some u) (j:Nat) (u:Value) (hj:(cellsOf (ys.drop k))[j]? =some u):w.cell? ((⟨g,o+k*8,none⟩:Addr).add j)=some u:=by
 rw [Addr.add_lit,Zc];refine h _ u ?_;have e:cellsOf ys=cellsOf (ys.take k)++cellsOf (ys.drop k):=qD
 have hl:(cellsOf (ys.take k)).length=k*8:=by rw [aH,ug];congr 1;omega
 exact kr4
theorem cH {p:Nat} (h:w.cell? ⟨g,p,none⟩=some v) (q:Nat) (os:Array Obj):(grow (w.drewN q) os).cell? ⟨g,p,none⟩=some v:=
 aT (below_grow ⟨rfl,rfl,rfl,vM _,fun _ _=>rfl⟩ zg) h
theorem iB (ao:Option Addr) (cap:Nat) (w:World):
  Calls prog 59 #[.slice ao 0 cap] w fun e w'=>e= .returned (.slice none 0 0)/\w'=w:=by
 go_enter func59,ntmps59;go_wp2;refine wp_loop_rounds 1 ?_;rw [rounds_succ];exact kb4
end
section
open Go.Shelf Go.RowKit Go.Lib Go.Sort
theorem ni (w:World) (blk off cap:Nat) (xs:List OpX) (hc:∀j u,(cellsOf xs)[j]? =some u->w.cell? ⟨blk,off+j,none⟩=some u) (hn:xs.length<=1000):
  Calls prog 59 #[.slice (some ⟨blk,off,none⟩) xs.length cap] w fun e w'=>∃v' ys,e= .returned v'/\OpsAt w' v' ys/\bW xs ys/\Below w.heap.size w w':=by
 obtain ⟨i0,hi,hz0,hz1,hz2⟩:=info_parts dX;have HC:Aside (∀j u,(cellsOf xs)[j]? =some u->w.cell? ⟨blk,off+j,none⟩=some u):=hc;clear hc;go_enter func59,ntmps59;go_wp2;go_loopg [3,4] xs.length (fun kx s3 s4 wr=>∃(i:Nat) (ys:List OpX) (ov:Value),ov=s3/\s4= .int .i64 (i:Int)/\i<=xs.length/\xs.length - i<=kx/\Aside (InsOf xs i ys/\OutAt wr ov ys/\Below w.heap.size w wr))
 case atStart=>exact ⟨0,[],_,rfl,rfl,vV _,vM _,⟨InsOf.zero xs,.inl ⟨rfl,rfl⟩,vP _ _⟩⟩
 case round=>
  obtain ⟨i,ys,ov,rfl,rfl,hix,hkx,A⟩:=hrel;by_cases hlt:i<xs.length
  ·have hltz:decide ((i:Int)<(xs.length:Int))=true:=by simp;omega
   have ex:((i:Int)).toNat=i:=zo;have px:(0:Int)<=(i:Int):=zo;have bx:(i:Int)<(xs.length:Int):=zo;obtain ⟨u,hu⟩:=zc wr;subst hu
   obtain ⟨⟨t,b,m,kd,node,other,name,value⟩,hx⟩:∃x,xs[i]! =x:=⟨_,rfl⟩
   have HX:=Lib.hid hx;have E8:Aside (Eight u blk (off+i*8) t b m kd node other name value):=iZ (fun j v hj=>aT A.o.2.2 (HC.o j v hj)) i hlt hx;clear hx;have HL:Aside (ys.length=i):=A.o.1.len zo
   rcases A.o.2.1 with ⟨rfl,rfl⟩ | ⟨g,o,c,rfl,hcap,hg⟩
   ·go_wp2;go_loopg [5] 1 (fun ky s5 wr=>s5= .int .i64 0/\ky=ky/\Aside (Below u.heap.size u wr))
    case atStart=>exact ⟨rfl,rfl,vP _ _⟩
    case round=>
     obtain ⟨rfl,-,Wr⟩:=hrel;have B0:Below u.heap.size u wr:=Wr.o;go_wp2_with fail;refine wp_region_quiet_grown zq zq ?_
     repeat (go_big_quiet_step (fail))
     refine wpQuiet_nil ?_;intro _ hw';obtain ⟨⟨nq,osq⟩,hw''⟩:=hw';change _=grow (wr.drewN nq) osq at hw'';subst hw'';have W0:Aside (Below u.heap.size u (grow (wr.drewN nq) osq)):=B0.trans ((aI ⟨nq,osq,rfl⟩).mono B0.size)
     generalize grow (wr.drewN nq) osq=u1 at W0 |-
     clear B0 Wr;obtain ⟨f0,f1,f2,f3,f4,f5,f6,f7⟩:=E8.o.later W0.o;go_wp2_with (at_builtin;refine wpList_append_own _ rfl _ _ 32 rfl u.heap.size 38 i0 _ 8 80 underlying32 hi hz0 hz1 hz2 rfl zo _ _ _ rfl (un (u1.alloc _) _ _ _) ⟨u1.heap.size,0,none⟩ 1 1 [.int .i64 t,.int .i64 b,.int .i64 m,.int .u8 (kd:Int),.int .i64 node,.int .i64 other,.string name,.string value] rfl ?qb1 ?qb2 ?qb3 ?qb4 ?qb5 ?qb6 ?_)
     case qb1=>rfl
     case qb2=>exact eD u1 _ rfl
     case qb3=>exact fP ((t,b,m,kd,node,other,name,value),0)
     case qb4=>simp only [maxLen];omega
     case qb5=>omega
     case qb6=>have:=W0.o.size;simp;omega
     intro v2 u2 hown hgrow hnil;clear f0 f1 f2 f3 f4 f5 f6 f7;have W2:Aside (Below u.heap.size u u2):=(W0.o.alloc W0.o.size _).grown hgrow (by have:=W0.o.size;simp;omega) zN;have O2:Aside (u2.ownsRow u.heap.size 38 8 v2 1 (au (t,b,m,kd,node,other,name,value))):=hown;clear hown hgrow hnil W0
     have R3:Aside (InsOf xs (i+1) [xs[i]!]/\OutAt u2 v2 [xs[i]!]/\Below w.heap.size w u2):=by
      refine ⟨?_,?_,?_⟩
      ·exact km9
      ·rw [HX.o];exact ot O2.o rfl xC
      exact zj A.o.2.2 W2.o
     obtain ⟨g2,c2,rfl,hc2⟩:∃g2 c2,v2= .slice (some ⟨g2,0,none⟩) 1 c2/\1<=c2:=by
      rcases O2.o.2 with ⟨_,h⟩ | ⟨g2,c2,_,h,_,_,hr,_⟩
      ·exact absurd h zo
      exact ⟨g2,c2,h,hr⟩
     clear O2 W2;go_wp2;go_roundg (xs.length - (i+1))
     case measure=>omega
     case rel=>exact ⟨i+1,_,_,rfl,zD,zo,vM _,R3⟩
   have HG0:Aside (∀j v,(cellsOf ys)[j]? =some v->u.cell? ⟨g,o+j,none⟩=some v):=hg;clear hg
   have hyl:ys.length<=1000:=by rw [HL.o];omega
   go_wp2;go_loopg [5] ys.length (fun ky s5 wr=>∃(k:Nat),s5= .int .i64 (k:Int)/\k<=ys.length/\k<=ky/\Aside ((∀p,k<=p->p<ys.length->ltX xs[i]! ys[p]! =true)/\Below u.heap.size u wr))
   case atStart=>exact ⟨ys.length,rfl,vM _,vM _,⟨fun p h1 h2=>zo,vP _ _⟩⟩
   case round=>
    obtain ⟨k,rfl,hk,hky,K0⟩:=hrel
    rcases ZK k with hk0 | hk0
    ·subst hk0;go_wp2_with fail;refine wp_region_quiet_grown zq zq ?_
     repeat (go_big_quiet_step (fail))
     refine wpQuiet_nil ?_;intro _ hw';obtain ⟨⟨nq,osq⟩,hw''⟩:=hw';change _=grow (wr.drewN nq) osq at hw'';subst hw''
     have K:Aside ((∀p,0<=p->p<ys.length->ltX xs[i]! ys[p]! =true)/\Below u.heap.size u (grow (wr.drewN nq) osq)):=⟨K0.o.1,K0.o.2.trans ((aI ⟨nq,osq,rfl⟩).mono K0.o.2.size)⟩
     clear K0
     generalize grow (wr.drewN nq) osq=u0 at K |-
     obtain ⟨uo,huo⟩:=zc u;subst huo;obtain ⟨u,hu⟩:=zc u0;subst hu;have E8o:=E8;clear E8;have E8:Aside (Eight u blk (off+i*8) t b m kd node other name value):=E8o.o.later K.o.2
     have HG:Aside (∀j v,(cellsOf ys)[j]? =some v->u.cell? ⟨g,o+j,none⟩=some v):=fun j v hj=>aT K.o.2 (HG0.o j v hj)
     clear E8o HG0;have dk0:(0:Int)<=(0:Int):=zo;have dk1:(0:Int)<=(c:Int):=zo;have dk2:(0:Int)<=(ys.length:Int):=zo;have ek:((0:Int)).toNat=0:=zo;have hkl:(ys.take (0)).length=0:=ym;have hdl:(ys.drop (0)).length=ys.length - (0):=uy
     have HK:Aside ((ys.take (0)).length=0/\(ys.drop (0)).length=ys.length - (0)):=⟨hkl,hdl⟩
     clear hkl hdl;go_wp2_with (at_builtin;refine wpList_append_own _ rfl _ _ 32 rfl u.heap.size 38 i0 _ 8 80 underlying32 hi hz0 hz1 hz2 rfl zo _ _ _ rfl (un u _ _ _) ⟨g,o,none⟩ (0) c (cellsOf (ys.take (0))) rfl ?qa1 ?qa2 ?qa3 ?qa4 ?qa5 ?qa6 ?_)
     case qa1=>rw [aH,HK.o.1]
     case qa2=>exact gZ (0) HG.o
     case qa3=>exact bH _
     case qa4=>rw [vY];simp only [maxLen];omega
     case qa5=>rw [vY];omega
     case qa6=>exact vM _
     intro v1 u1 hown hgrow hnil;clear hnil;have B1:Below u.heap.size u u1:=(vP _ u).grown hgrow zg zN;have hown1:u1.ownsRow u.heap.size 38 8 v1 (0) (cellsOf (ys.take (0))):=qy;have O1:Aside (u1.ownsRow u.heap.size 38 8 v1 (0) (cellsOf (ys.take (0)))):=hown1;have W1:Aside (Below u.heap.size u u1):=B1;obtain ⟨f0,f1,f2,f3,f4,f5,f6,f7⟩:=E8.o.later B1;clear hown hown1 hgrow B1;go_wp2_with (at_builtin;refine wpList_append_own _ rfl _ _ 32 rfl u.heap.size 38 i0 _ 8 80 underlying32 hi hz0 hz1 hz2 rfl zo _ _ _ rfl (O1.o.alloc _) ⟨u1.heap.size,0,none⟩ 1 1 [.int .i64 t,.int .i64 b,.int .i64 m,.int .u8 (kd:Int),.int .i64 node,.int .i64 other,.string name,.string value] rfl ?qb1 ?qb2 ?qb3 ?qb4 ?qb5 ?qb6 ?_)
     case qb1=>rfl
     case qb2=>exact eD u1 _ rfl
     case qb3=>exact fP ((t,b,m,kd,node,other,name,value),0)
     case qb4=>simp only [maxLen];omega
     case qb5=>omega
     case qb6=>have:=W1.o.size;simp;omega
     intro v2 u2 hown hgrow hnil;clear hnil f0 f1 f2 f3 f4 f5 f6 f7;have W2:Aside (Below u.heap.size u u2):=(W1.o.alloc W1.o.size _).grown hgrow qp (fun k hk=>(O1.o.lt k hk).1);have O2:Aside (u2.ownsRow u.heap.size 38 8 v2 (0+1) (cellsOf (ys.take (0))++au (t,b,m,kd,node,other,name,value))):=hown;clear hown hgrow O1 W1;go_wp2_with (at_builtin;refine wpList_append_own _ rfl _ _ 32 rfl u.heap.size 38 i0 _ 8 80 underlying32 hi hz0 hz1 hz2 rfl zo _ _ _ rfl O2.o ⟨g,o+(0)*8,none⟩ (ys.length - (0)) (c - (0)) (cellsOf (ys.drop (0))) rfl ?qd1 ?qd2 ?qd3 ?qd4 ?qd5 ?qd6 ?_)
     case qd1=>rw [aH,HK.o.2]
     case qd2=>exact gR (0) zo (fun j v hj=>aT W2.o (HG.o j v hj))
     case qd3=>exact bH _
     case qd4=>simp only [maxLen];omega
     case qd5=>omega
     case qd6=>exact W2.o.size
     intro v3 u3 hown hgrow hnil;clear hnil
     have R3:Aside (InsOf xs (i+1) (ys.take (0)++xs[i]! ::ys.drop (0))/\OutAt u3 v3 (ys.take (0)++xs[i]! ::ys.drop (0))/\Below w.heap.size w u3):=by
      refine ⟨A.o.1.next hlt zo ?_ ?_,?_,?_⟩
      ·intro h0;omega
      ·exact K.o.1
      ·exact kd3
      exact kg0
     clear hown hgrow O2 W2 HK;go_wp2;go_roundg (xs.length - (i+1))
     case measure=>omega
     case rel=>exact ⟨i+1,_,_,rfl,zD,zo,vM _,R3⟩
    obtain ⟨q,hkq⟩:∃q,k=q+1:=⟨k - 1,zo⟩
    obtain ⟨s0,s1⟩:=ww (fun j v hj=>aT K0.o.2 (HG0.o j v hj)) q zo
    obtain ⟨t',b',hy1,hy2⟩:∃t' b',(ys[q]!).1=t'/\(ys[q]!).2.1=b':=⟨_,_,rfl,rfl⟩
    rw [hy1] at s0;rw [hy2] at s1;have f0:=cH (E8.o.later K0.o.2).c0;have f1:=cH (E8.o.later K0.o.2).c1;have r0:=cH s0;have r1:=cH s1;have eq1:((k:Int) - 1)=(q:Int):=zo;have hqy:q<ys.length:=zo;have HKQ:=Lib.hid hkq;clear hkq;have ezz:((q:Int)).toNat=q:=zo;have pz:(0:Int)<=(q:Int):=zo;have bz:(q:Int)<(ys.length:Int):=zo;have hgt:decide ((0:Int)<(k:Int))=true:=decide_eq_true zo;clear s0 s1
    cases hz:ltX xs[i]! ys[q]! with
    | true=>
     have hz':bL t b t' b'=true:=yR;have HZ:=Lib.hid hz'
     have K1:Aside (∀p,q<=p->p<ys.length->ltX xs[i]! ys[p]! =true):=fun p h1 h2=>by
      rcases Nat.eq_or_lt_of_le h1 with e | e
      ·rw [<-e];exact hz
      exact K0.o.1 p (by rw [HKQ.o];omega) h2
     clear hz hz' hy1 hy2;go_wp2_with fail;refine wp_region_quiet_grown zq zq ?_
     repeat (go_big_quiet_step (first | (go_at_call 57;refine Calls.grown_of (fy _ _ _ _ true _ HZ.o))))
     refine wpQuiet_nil ?_;intro _ hw';obtain ⟨⟨nq,osq⟩,hw''⟩:=hw';change _=grow (wr.drewN nq) osq at hw'';subst hw''
     have K:Aside ((∀p,q<=p->p<ys.length->ltX xs[i]! ys[p]! =true)/\Below u.heap.size u (grow (wr.drewN nq) osq)):=⟨K1.o,K0.o.2.trans ((aI ⟨nq,osq,rfl⟩).mono K0.o.2.size)⟩
     clear K0 K1 f0 f1 r0 r1
     generalize grow (wr.drewN nq) osq=u0 at K |-
     go_wp2;go_roundg q
     case measure=>rw [HKQ.o] at hky;omega
     case rel=>exact ⟨q,zD,zo,vM _,K⟩
    | false=>
     have hz':bL t b t' b'=false:=yR;have HZ:=Lib.hid hz';have HF:=Lib.hid hz;clear hz hz' hy1 hy2;go_wp2_with fail;refine wp_region_quiet_grown zq zq ?_
     repeat (go_big_quiet_step (first | (go_at_call 57;refine Calls.grown_of (fy _ _ _ _ false _ HZ.o))))
     refine wpQuiet_nil ?_;intro _ hw';obtain ⟨⟨nq,osq⟩,hw''⟩:=hw';change _=grow (wr.drewN nq) osq at hw'';subst hw''
     have K:Aside ((∀p,k<=p->p<ys.length->ltX xs[i]! ys[p]! =true)/\Below u.heap.size u (grow (wr.drewN nq) osq)):=⟨K0.o.1,K0.o.2.trans ((aI ⟨nq,osq,rfl⟩).mono K0.o.2.size)⟩
     clear K0 f0 f1 r0 r1 eq1 ezz pz bz hgt hqy
     generalize grow (wr.drewN nq) osq=u0 at K |-
     obtain ⟨uo,huo⟩:=zc u;subst huo;obtain ⟨u,hu⟩:=zc u0;subst hu;have E8o:=E8;clear E8;have E8:Aside (Eight u blk (off+i*8) t b m kd node other name value):=E8o.o.later K.o.2
     have HG:Aside (∀j v,(cellsOf ys)[j]? =some v->u.cell? ⟨g,o+j,none⟩=some v):=fun j v hj=>aT K.o.2 (HG0.o j v hj)
     clear E8o HG0;have dk0:(0:Int)<=(k:Int):=zo;have dk1:(k:Int)<=(c:Int):=zo;have dk2:(k:Int)<=(ys.length:Int):=zo;have ek:((k:Int)).toNat=k:=zo;have hkl:(ys.take (k)).length=k:=ym;have hdl:(ys.drop (k)).length=ys.length - (k):=uy
     have HK:Aside ((ys.take (k)).length=k/\(ys.drop (k)).length=ys.length - (k)):=⟨hkl,hdl⟩
     clear hkl hdl;go_wp2_with (at_builtin;refine wpList_append_own _ rfl _ _ 32 rfl u.heap.size 38 i0 _ 8 80 underlying32 hi hz0 hz1 hz2 rfl zo _ _ _ rfl (un u _ _ _) ⟨g,o,none⟩ (k) c (cellsOf (ys.take (k))) rfl ?qa1 ?qa2 ?qa3 ?qa4 ?qa5 ?qa6 ?_)
     case qa1=>rw [aH,HK.o.1]
     case qa2=>exact gZ (k) HG.o
     case qa3=>exact bH _
     case qa4=>rw [vY];simp only [maxLen];omega
     case qa5=>rw [vY];omega
     case qa6=>exact vM _
     intro v1 u1 hown hgrow hnil;clear hnil;have B1:Below u.heap.size u u1:=(vP _ u).grown hgrow zg zN;have hown1:u1.ownsRow u.heap.size 38 8 v1 (k) (cellsOf (ys.take (k))):=qy;have O1:Aside (u1.ownsRow u.heap.size 38 8 v1 (k) (cellsOf (ys.take (k)))):=hown1;have W1:Aside (Below u.heap.size u u1):=B1;obtain ⟨f0,f1,f2,f3,f4,f5,f6,f7⟩:=E8.o.later B1;clear hown hown1 hgrow B1;go_wp2_with (at_builtin;refine wpList_append_own _ rfl _ _ 32 rfl u.heap.size 38 i0 _ 8 80 underlying32 hi hz0 hz1 hz2 rfl zo _ _ _ rfl (O1.o.alloc _) ⟨u1.heap.size,0,none⟩ 1 1 [.int .i64 t,.int .i64 b,.int .i64 m,.int .u8 (kd:Int),.int .i64 node,.int .i64 other,.string name,.string value] rfl ?qb1 ?qb2 ?qb3 ?qb4 ?qb5 ?qb6 ?_)
     case qb1=>rfl
     case qb2=>exact eD u1 _ rfl
     case qb3=>exact fP ((t,b,m,kd,node,other,name,value),0)
     case qb4=>simp only [maxLen];omega
     case qb5=>omega
     case qb6=>have:=W1.o.size;simp;omega
     intro v2 u2 hown hgrow hnil;clear hnil f0 f1 f2 f3 f4 f5 f6 f7;have W2:Aside (Below u.heap.size u u2):=(W1.o.alloc W1.o.size _).grown hgrow qp (fun k hk=>(O1.o.lt k hk).1);have O2:Aside (u2.ownsRow u.heap.size 38 8 v2 (k+1) (cellsOf (ys.take (k))++au (t,b,m,kd,node,other,name,value))):=hown;clear hown hgrow O1 W1;by_cases hkc:k=c
     ·subst hkc;go_wp2_with (at_builtin;refine wpList_append_own _ rfl _ _ 32 rfl u.heap.size 38 i0 _ 8 80 underlying32 hi hz0 hz1 hz2 rfl zo _ _ _ rfl O2.o ⟨g,o,none⟩ 0 0 [] rfl ?qd1 ?qd2 ?qd3 ?qd4 ?qd5 ?qd6 ?_)
      case qd1=>rfl
      case qd2=>intro j v hj;simp at hj
      case qd3=>intro v hv;cases hv
      case qd4=>simp only [maxLen];omega
      case qd5=>omega
      case qd6=>exact W2.o.size
      intro v3 u3 hown hgrow hnil;clear hnil
      have R3:Aside (InsOf xs (i+1) (ys.take (k)++xs[i]! ::ys.drop (k))/\OutAt u3 v3 (ys.take (k)++xs[i]! ::ys.drop (k))/\Below w.heap.size w u3):=by
       refine ⟨A.o.1.next hlt zo ?_ ?_,?_,?_⟩
       ·exact kj9
       ·exact K.o.1
       ·exact kh8
       exact kg0
      clear hown hgrow O2 W2 HK;go_wp2;go_roundg (xs.length - (i+1))
      case measure=>omega
      case rel=>exact ⟨i+1,_,_,rfl,zD,zo,vM _,R3⟩
     have hne:¬c=k:=fun h=>hkc h.symm
     go_wp2_with (at_builtin;refine wpList_append_own _ rfl _ _ 32 rfl u.heap.size 38 i0 _ 8 80 underlying32 hi hz0 hz1 hz2 rfl zo _ _ _ rfl O2.o ⟨g,o+(k)*8,none⟩ (ys.length - (k)) (c - (k)) (cellsOf (ys.drop (k))) rfl ?qd1 ?qd2 ?qd3 ?qd4 ?qd5 ?qd6 ?_)
     case qd1=>rw [aH,HK.o.2]
     case qd2=>exact gR (k) zo (fun j v hj=>aT W2.o (HG.o j v hj))
     case qd3=>exact bH _
     case qd4=>simp only [maxLen];omega
     case qd5=>omega
     case qd6=>exact W2.o.size
     intro v3 u3 hown hgrow hnil;clear hnil
     have R3:Aside (InsOf xs (i+1) (ys.take (k)++xs[i]! ::ys.drop (k))/\OutAt u3 v3 (ys.take (k)++xs[i]! ::ys.drop (k))/\Below w.heap.size w u3):=by
      refine ⟨A.o.1.next hlt zo ?_ ?_,?_,?_⟩
      ·exact kj9
      ·exact K.o.1
      ·exact kd3
      exact kg0
     clear hown hgrow O2 W2 HK;go_wp2;go_roundg (xs.length - (i+1))
     case measure=>omega
     case rel=>exact ⟨i+1,_,_,rfl,zD,zo,vM _,R3⟩
  have hltz:decide ((i:Int)<(xs.length:Int))=false:=zr
  have R:Aside (OpsAt wr ov ys/\bW xs ys/\Below w.heap.size w wr):=by
   exact kq5
  clear A;go_wp2;go_ret;exact ⟨_,ys,rfl,R.o⟩
theorem kI (w:World) (v:Value) (xs:List OpX) (h:OpsAt w v xs) (hn:xs.length<=1000):
  Calls prog 59 #[v] w fun e w'=>∃v' ys,e= .returned v'/\OpsAt w' v' ys/\bW xs ys/\Below w.heap.size w w':=by
 rcases h with ⟨rfl,rfl⟩ | ⟨blk,off,cap,rfl,hc⟩
 ·refine (iB none 0 w).mono ?_;rintro e w' ⟨rfl,rfl⟩;exact ⟨_,[],rfl,.inl ⟨rfl,rfl⟩,(InsOf.zero []).all,vP _ _⟩
 exact ni w blk off cap xs hc hn
end
section
open Go Go.RowKit Go.Lib Go.Sort
theorem Br {base:Nat} {xs:List Value} (ho:w.ownsRow base 38 8 v n xs) (hn:n<=2000) (hbase:base<=w.heap.size) (ap:Option Addr) (c:Nat) (ys:List OpX) (hy:ys.length<=2000) (hap:OpsIn w ap ys) (hc:ap=none->c=0) (ty:TypeId):
  ∃v' w',(Builtin.append_ #[32,32] ty #[v,.slice ap ys.length c]).run prog w= .ok v' w'/\w'.ownsRow base 38 8 v' (n+ys.length) (xs++cellsOf ys)/\w.grownBy w' v.ownBlock:=by
 obtain ⟨i0,hi,hz0,hz1,hz2⟩:=info_parts dX
 cases ap with
 | none=>
  have h0:ys= []:=by
   rcases hap with h | ⟨_,_,h,_⟩
   ·exact h
   cases h
  subst h0;rw [hc rfl];refine ⟨v,w,run_append_owned_none w base _ ty _ i0 8 underlying32 hi v n xs ho,by simpa [cellsOf] using ho,⟨rfl,rfl,rfl,vM _,fun _ _ _=>rfl⟩⟩
 | some a=>
  have hl:(cellsOf ys).length=ys.length*8:=aH ys
  obtain ⟨v',w',h1,h2,h3,-⟩:=run_append_own (P:=prog) w base 32 ty 38 i0 _ 8 80 underlying32 hi hz0 hz1 hz2 rfl zo v n xs ho a ys.length c (cellsOf ys) hl (fun j u hj=>by
   rcases hap with h | ⟨b,o,h,hcell⟩
   ·subst h;simp [cellsOf] at hj
   ·cases h
    rw [Addr.add_lit]
    exact hcell j u hj) (fun u hu=>by
    obtain ⟨x,_,hx⟩:=List.mem_flatMap.1 hu
    simp only [au,vT,ZI,or_false] at hx
    rcases hx with rfl | rfl | rfl | rfl | rfl | rfl | rfl | rfl<;>rfl) zH zo hbase
  exact ⟨v',w',h1,h2,h3⟩
theorem ko (c:Int) (w:World):Calls prog 58 #[.int .i64 c] w fun e w'=>e= .returned (.agg #[.int .i64 c,.int .i64 (-1)])/\Aside (Below w.heap.size w w'):=by
 go_enter func58,ntmps58;go_wp2;refine bodyPost_ret (v:=.agg #[.int .i64 c,.int .i64 (-1)]) (by simp [results,results58,go_sem]) rfl ⟨rfl,zh _ _⟩
theorem GE (w:World):Calls prog 64 #[] w fun e w'=>e= .returned (.agg #[.int .i64 0,.int .i64 (-1)])/\Aside (Below w.heap.size w w'):=by
 go_enter func64,ntmps64;go_wp2;refine bodyPost_ret (v:=.agg #[.int .i64 0,.int .i64 (-1)]) (by simp [results,results64,go_sem]) rfl ⟨rfl,zh _ _⟩
theorem Av {fn:Func} {p u:Tmp} {ty:TypeId} (h:fn.results= #[.tmp u,.cell p ty]) (tmps:Array Value) (P:Program) (w:World):
  (results fn tmps).run P w=
   ((asAddr (tmps.getD p undef)).run P w).andThen fun a w1=>((loadVar ty a).run P w1).andThen fun v w2=>.ok (.tuple #[tmps.getD u undef,v]) w2:=by
 exact ko3
