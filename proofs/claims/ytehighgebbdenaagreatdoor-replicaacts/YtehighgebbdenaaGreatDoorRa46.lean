import Derived.Test.YtehighgebbdenaaGreatDoorRa35
import Derived.Test.YtehighgebbdenaaGreatDoorRa45
set_option linter.unusedVariables false
set_option linter.unusedSimpArgs false
set_option maxRecDepth 100000
set_option maxHeartbeats 64000000
namespace Go.Proofs.YtehighgebbdenaaGreatDoor
open Go.Proofs.Tryz
variable {t:ByteArray} {T ix:Int} {sf sf':List Nat} {A F S l ys:List OpX} {B B1 b br cap cd i j k m n r:Nat} {ad:Nat→Addr} {x y:OpX} {ao:Option Addr} {R R':Rws} {v:Value} {W W' w w' w2:World}
section
open Go Go.RowKit Go.Lib Go.Sort Go.Maps
open scoped Classical
structure SameO (R:Rws) (S:List OpX):Prop where
 perm:S.Perm (aR R)
 sort:S.Pairwise (fun a b=>CLt (stO a) (stO b))
theorem FM:SameO (fun _=>[]) []:=⟨List.Perm.refl _,List.Pairwise.nil⟩
theorem SameO.well {R:Rws} {S:List OpX} (h:SameO R S) (hR:RowsK R):WellK S:=hR.well.congr (fun x=>h.perm.mem_iff.symm)
theorem SameO.nodup (h:SameO R S):S.Nodup:=h.sort.imp (fun {a b} q e=>yu)
theorem kK {fresh:List OpX} (h:aB S l (.inr fresh)):FreshK S fresh/\WellK (S++fresh):=by
 unfold aB at h
 cases hs:bp S 0 [] l with
 | inl p=>
  obtain ⟨i,c⟩:=p;rw [hs] at h
  cases h
 | inr F=>
  rw [hs] at h;dsimp only at h;have hF:=(dE (dV S) hs).1
  rcases h with ⟨_,e⟩ | ⟨_,_,e⟩ | ⟨_,_,_,e⟩ | ⟨_,_,e⟩ | ⟨hw,_,e⟩
  ·cases e
  ·cases e
  ·cases e
  ·cases e
  cases e
  exact ⟨hF,hw⟩
theorem sg (hS:S.Nodup) (h:FreshK S F):(S++F).Nodup:=by
 rw [Ze];refine ⟨hS,h.one.imp (fun {a b} q e=>by subst e;exact q ⟨rfl,rfl⟩),fun a ha b hb e=> ?_⟩;subst e;exact h.off a hb a ha ⟨rfl,rfl⟩
theorem SameO.next {S':List OpX} (h:SameO R S) (hR':RowsK R') (hF:FreshK S F) (hW:WellK (S++F)) (hm:∀x,x∈aR R'↔x∈aR R++F) (hp:S'.Perm (S++F)) (hs:S'.Pairwise (fun a b=>¬CLt (stO b) (stO a))):SameO R' S'/\S'.length=S.length+F.length:=by
 have hnd:(S++F).Nodup:=sg h.nodup hF;have hnd':S'.Nodup:=hp.nodup_iff.2 hnd;refine ⟨⟨?_,?_⟩,by rw [hp.length_eq,ub]⟩
 ·refine (List.perm_ext_iff_of_nodup hnd' hR'.num.nodup).2 (fun x=> ?_);rw [hp.mem_iff,hm x,vW,vW,h.perm.mem_iff]
 refine iq hs ?_;rw [ud];intro i j hi hj hij e;have:=hW.stamp (hp.mem_iff.1 (uR hi)) (hp.mem_iff.1 (uR hj)) e;exact km4
theorem SameO.join (h:SameO R S) (hR:RowsK R) {a a':(Int×Nat)⊕List OpX} (h1:aB (aR R) l a) (h2:aB S l a'):a=a':=
 Bj (su hR.well.one h.perm.symm h1) h2
theorem mX (h:SameO R S) (hR:RowsK R) (hi:i<4):ae S i=(R i).length:=by
 unfold ae;rw [h.perm.countP_eq]
 have hc:∀j,j<4->(R j).countP (fun x=>decide (byO x=(i:Int)))=if j=i then (R j).length else 0:=fun j hj=>by
  by_cases e:j=i
  ·subst e;rw [if_pos rfl,List.countP_eq_length];intro x hx;obtain ⟨k,_,q,_⟩:=hR.num.get hj hx;exact decide_eq_true q
  rw [if_neg e,List.countP_eq_zero];intro x hx;obtain ⟨k,_,q,_⟩:=hR.num.get hj hx;simp [q];omega
 unfold aR;rw [List.countP_append,List.countP_append,List.countP_append,hc 0 zo,hc 1 zo,hc 2 zo,hc 3 zo];have h4:i=0\/i=1\/i=2\/i=3:=zo
 rcases h4 with rfl | rfl | rfl | rfl<;>simp
theorem rz (h:SameO R S) (hR:RowsK R) (hT:du (aR R) T):eu S=T:=by
 have hT':du S T:=⟨fun x hx=>hT.1 x (h.perm.mem_iff.1 hx),hT.2.1.imp id (fun ⟨x,hx,e⟩=>⟨x,h.perm.mem_iff.2 hx,e⟩),hT.2.2⟩
 refine bJ ?_ hT';unfold eu
 rcases List.eq_nil_or_concat S with e | ⟨L,x,e⟩
 ·subst e;exact lN
 have e2:S=L++ [x]:=by rw [e,List.concat_eq_append]
 rw [e2,List.getLast?_append];simp only [List.getLast?_singleton,Option.some_or,Zs,ZP];have hs:=h.sort;rw [e2,uY] at hs
 have hx1:1<=x.1:=by
  have:=(h.well hR).ok x (by rw [e2];simp);exact (aq this).1
 refine ⟨fun y hy=> ?_,.inr ⟨x,zv,rfl⟩,zo⟩
 rcases vW.1 hy with q | q
 ·have:=hs.2.2 y q x zv;unfold CLt stO at this;dsimp only at this;omega
 rw [uq] at q;rw [q];exact Int.le_refl _
theorem lj (h:SameO R S) (hR:RowsK R) (hs:bW (aR R) ys):ys=S:=by
 have hp:=cr hs;have hnd:ys.Nodup:=hp.1.nodup_iff.2 hR.num.nodup
 have hst:ys.Pairwise (fun a b=>CLt (stO a) (stO b)):=by
  refine iq hp.2 ?_;rw [ud];intro i j hi hj hij e;have:=hR.well.stamp (hp.1.mem_iff.1 (uR hi)) (hp.1.mem_iff.1 (uR hj)) e;exact absurd this (ud.1 hnd i j hi hj hij)
 exact ri hst h.sort (fun x=>by rw [hp.1.mem_iff,h.perm.mem_iff])
theorem nt {ok:Bool} (h:(y,0)=fY ok x) (hx:x.1<=1073741824->True):ok=true/\an x=0/\y=x:=by
 obtain ⟨h1,h2,h3⟩:=gY h rfl;refine ⟨h1,?_,h3⟩;unfold dJ at h2;split at h2
 ·cases h2
 exact h2
theorem Dl (h:dJ x=0):an x=0:=by
 unfold dJ at h;split at h
 ·cases h
 exact h
theorem Ep (hR:RowsK R) (h:MkIs (aR R) T i (R i).length x (y,0)):NextOp R i T y:=by
 have up:∀ {nd:Int},KnownN (aR R) nd->KnownN (y::aR R) nd:=fun q=>q.mono (fun z hz=>ul _ hz)
 rcases h with ⟨_,_,h⟩ | ⟨_,_,ms,_,_,h⟩ | ⟨_,b,hb,h⟩ | ⟨_,b,hb,h⟩ | ⟨_,_,_,h⟩
 ·obtain ⟨h1,h2,rfl⟩:=nt h (fun _=>trivial);refine iN h2 ⟨.inl ⟨rfl,rfl⟩,fun _=>(plcB_iff.1 h1).imp id (fun q=>q.imp id up),fun q=> ?_⟩
  rcases q with ⟨q,_⟩ | q<;>exact absurd q (by show ¬(109=_);decide)
 ·rcases h with ⟨_,e⟩ | ⟨_,q,e⟩ | ⟨_,_,_,e⟩ | ⟨h1,h2,_,e⟩
  ·cases e
  ·have:=congrArg Prod.snd e;exact absurd this.symm q
  ·cases e
  cases e
  rw [uB,knownB_iff,plcB_iff] at h1;have hnd:=fo hR.well.ok h1.1;refine iN (Dl h2) ⟨.inr ?_,fun _=>h1.2.imp id (fun q=>q.imp id (fun q=>q.mono (fun z hz=>ul _ hz))),fun q=> ?_⟩
  ·rw [iA zo];exact h1.1.mono (fun z hz=>ul _ hz)
  rcases q with ⟨q,_⟩ | q<;>exact absurd q (by show ¬(109=_);decide)
 ·obtain ⟨h1,h2,rfl⟩:=nt h (fun _=>trivial)
  have hkl:KnownN (aR R) (aL x)/\(0<b.1->LetterN (aR R) (aL x) b.1):=by
   rcases hb with ⟨_,q2,q3⟩ | ⟨_,a1,a2⟩
   ·exact ⟨q3.1 h1,fun q=>zo⟩
   have hk:KnownN (aR R) (aL x):=by
    by_cases hk:KnownN (aR R) (aL x)
    ·exact hk
    rw [a1 hk] at h1;cases h1
   obtain ⟨L,hL,ea⟩:=a2 hk;exact ⟨hk,fun _=>hL.mem.1 (wF (n:=aJ x - 1) (by rw [<-ea,<-h1]))⟩
  have hnd:=fo hR.well.ok hkl.1;refine iN h2 ⟨.inr ?_,fun q=>absurd q (by show ¬(105=_);decide),fun q=> ?_⟩
  ·rw [iA zo];exact hkl.1.mono (fun z hz=>ul _ hz)
  rw [iA zo];refine (hkl.2 ?_).mono (fun z hz=>ul _ hz)
  rcases q with ⟨_,q⟩ | q
  ·exact q
  exact absurd q (by show ¬(105=_);decide)
 ·obtain ⟨h1,h2,rfl⟩:=nt h (fun _=>trivial)
  have hk:KnownN (aR R) (aL x):=by
   by_cases hk:KnownN (aR R) (aL x)
   ·exact hk
   rw [hb.1 hk] at h1;cases h1
  obtain ⟨L,hL,ea⟩:=hb.2 hk;have hl:LetterN (aR R) (aL x) b.1:=hL.mem.1 (wF (n:=aJ x) (by rw [<-ea,<-h1]));have hnd:=fo hR.well.ok hk;refine iN h2 ⟨.inr ?_,fun q=>absurd q (by show ¬(100=_);decide),fun _=> ?_⟩
  ·exact kr5
  rw [iA zo];exact hl.mono (fun z hz=>ul _ hz)
 obtain ⟨h1,h2,rfl⟩:=nt h (fun _=>trivial);have hk:=knownB_iff.1 h1;have hnd:=fo hR.well.ok hk;refine iN h2 ⟨.inr ?_,fun q=>absurd q (by show ¬(115=_);decide),fun q=> ?_⟩
 ·exact kr5
 rcases q with ⟨q,_⟩ | q<;>exact absurd q (by show ¬(115=_);decide)
theorem Fr (hR:RowsK R) (hi:i<4) (h:NextOp R i T y) (hT:du (aR R) T) (hn:(aR R).length<=300) {a:(Int×Nat)⊕List OpX} (ha:aB (aR R) [y] a):a= .inr [y]:=by
 have hw:=h.well hR hi hT.1
 have hxn:y∉aR R:=fun q=>by have:=hw.2 y q rfl;omega
 obtain ⟨F,h1,h2,h3,_⟩:=pO hR hw.1 (mh h hR hi hT.1) (l:=[y]) (fun z hz=>by simp at hz;rw [hz];exact uv) (fun z hz=>by rcases vT.1 hz with q | q;exact .inr (by simp [q]);exact .inl q) zr;rw [h1 a ha,Ct h2 h3 hxn]
theorem EF (h:SameO R S) (hA:A.Perm (aR R)) {nd:Int} {s:ByteArray} (h1:mT A nd s) (h2:mT S nd t):s=t:=by
 have hp:A.Perm S:=hA.trans h.perm.symm;have hk:=df hp nd
 rcases h1 with ⟨q1,q2⟩ | ⟨q1,L,q2,q3⟩<;>rcases h2 with ⟨r1,r2⟩ | ⟨r1,M,r2,r3⟩
 ·rw [q2,r2]
 ·exact absurd (hk.2 r1) q1
 ·exact absurd (hk.1 q1) r1
 refine gL ?_;rw [q3,r3,(q2.perm hp).unique r2]
theorem EA (hok:∀x∈S,an x=0) (v:Nat->Int):S.filter (fun x=> !ij v x)=cl (v 0) (v 1) (v 2) (v 3) S:=by
 unfold cl;refine List.filter_congr (fun x hx=> ?_);have hb:=(aq (hok x hx)).2.2;have h0:0<=byO x:=hb.1;have h4:byO x<4:=hb.2.1
 have e:ij v x=decide (ar x<=vAt (v 0) (v 1) (v 2) (v 3) (byO x)):=by
  have c:byO x=0\/byO x=1\/byO x=2\/byO x=3:=zo;unfold ij vAt
  show decide (ar x<=v (byO x).toNat)=_
  rcases c with e | e | e | e<;>rw [e]<;>rfl
 rw [e];by_cases q:ar x<=vAt (v 0) (v 1) (v 2) (v 3) (byO x)
 ·rw [decide_eq_true q,decide_eq_false zo];rfl
 rw [decide_eq_false q,decide_eq_true zo];rfl
end
section
open Go.RowKit Go.Lib Go.Sort Go.Maps
theorem Hr {B:Nat} {ad:Nat->Addr} (w:World) (c:Nat->Nat) (br:Nat) (i:Nat) (R:Rws) (x:OpX) (h:RepOwn B w c br (i:Int) R) (hE:EnvT B ad w) (hcy:Aside (Cyc ad)) (hi:i<4) (T:Int) (hT:du (aR R) T) (hm:T<=1073741824) (hn:(aR R).length<=140)
  (hs1:x.2.2.2.2.2.2.1.size<=1000000) (hs2:x.2.2.2.2.2.2.2.size<=1000000) (hk:x.2.2.2.1<256) (h2: -9223372036854775808<=aL x/\aL x<=9223372036854775807) (h4: -9223372036854775808<=aJ x/\aJ x<=9223372036854775807):
  Calls prog 14 #[.pointer (some ⟨br,0,none⟩),aD x] w (MkOut ad w (fun y cd=>MkIs (aR R) T i (R i).length x (y,cd))):=by
 obtain ⟨t,b,m,kd,nd,o,s,v⟩:=x;dsimp only at hs1 hs2 hk h2 h4;obtain ⟨S,hS⟩:=zc w.heap.size;obtain ⟨U,hU⟩:=zc ((w.alloc (.cells #[.int .i64 t,.int .i64 b,.int .i64 m,.int .u8 (kd:Int),.int .i64 nd,.int .i64 o,.string s,.string v] 38)).alloc (.cells #[.int .i64 0,.int .i64 0,.int .i64 0,.int .u8 0,.int .i64 0,.int .i64 0,.string ⟨#[]⟩,.string ⟨#[]⟩] 38));have hbU:Below w.heap.size w U:=zP
 have O0:OpBlk U S (t,b,m,kd,nd,o,s,v):=by rw [hU,hS];exact (vZ _ _ _ zv).trans (OpBlk.new w (t,b,m,kd,nd,o,s,v))
 have Z0:OpBlk U (S+1) aV:=by
  rw [hU,hS];have:=OpBlk.new (w.alloc (.cells #[.int .i64 t,.int .i64 b,.int .i64 m,.int .u8 (kd:Int),.int .i64 nd,.int .i64 o,.string s,.string v] 38)) aV;exact ki3
 obtain ⟨j0,j1,j2,j3,j4,j5,j6,j7,-⟩:=O0.cells;dsimp only at j0 j1 j2 j3 j4 j5 j6 j7;have hR:=h.later hbU;have hEU:=hE.later hbU;have c1:=Kd U c br i R T o s hR hEU hi hT hm hn hs1 h4.1 h4.2;have c2:=KZ U c br i R T nd o s hR hEU hcy hi hT hm hn hs1 h2.1 h2.2 h4.1 h4.2
 have c3:=fun ch=>JT U c br i R T nd o ch hR hEU hi hT hm hn h2.1 h2.2 h4.1 h4.2
 have c4:=JY U c br i R T nd o hR hEU hi hT hm hn h2.1 h2.2 h4.1 h4.2;have c5:=Km U c br i R T nd s v hR hEU hi hT hm hn hs1 hs2 h2.1 h2.2
 have H0:Aside (U=(w.alloc (.cells #[.int .i64 t,.int .i64 b,.int .i64 m,.int .u8 (kd:Int),.int .i64 nd,.int .i64 o,.string s,.string v] 38)).alloc (.cells #[.int .i64 0,.int .i64 0,.int .i64 0,.int .u8 0,.int .i64 0,.int .i64 0,.string ⟨#[]⟩,.string ⟨#[]⟩] 38)/\OpBlk U (S+1) aV/\Below w.heap.size w U/\S=w.heap.size):=⟨hU,Z0,hbU,hS⟩
 have HC1:=Lib.hid c1;have HC2:=Lib.hid c2;have HC3:=Lib.hid c3;have HC4:=Lib.hid c4;have HC5:=Lib.hid c5;clear hU Z0 hbU hS O0 hR hEU h hE c1 c2 c3 c4 c5 h2 h4;unfold aD;dsimp only;go_enter func14,ntmps14;go_upto_region 1 with fail;rw [<-H0.o.1,<-H0.o.2.2.2];by_cases k1:kd=109
 ·have d1:((kd:Int)==109)=true:=by simp;omega
  by_cases k0:nd=0
  ·have d0:(nd==0)=true:=by simp [k0]
   have HKK:=Lib.hid (And.intro k1 k0);clear k1 k0;go_wp2_with fail;refine HC1.o.mono ?_;rintro e w2 ⟨y,cd,rfl,H2⟩;obtain ⟨t',b',m',kd',nd',o',s',v'⟩:=y;obtain ⟨er,her⟩:=zc (eV ad cd);rw [<-her];unfold aD;dsimp only;obtain ⟨z0,z1,z2,z3,z4,z5,z6,z7,zf⟩:=(H0.o.2.1.later H2.o.1).cells;unfold aV at z0 z1 z2 z3 z4 z5 z6 z7;dsimp only at z0 z1 z2 z3 z4 z5 z6 z7
   have HER:Aside (er=eV ad cd/\Below w.heap.size w w2):=⟨her,zj H0.o.2.2.1 H2.o.1⟩
   clear her;go_wp2;(try simp only [Exit.inBlock,Exit.then]);refine bodyPost_ret (v:=.tuple #[.agg #[.int .i64 t',.int .i64 b',.int .i64 m',.int .u8 (kd':Int),.int .i64 nd',.int .i64 o',.string s',.string v'],er]) ?_ rfl ⟨(t',b',m',kd',nd',o',s',v'),cd,by rw [<-HER.o.1];rfl,?_,(.inl ⟨HKK.o.1,HKK.o.2,H2.o.2⟩)⟩
   ·exact ke7
   exact kb5
  have d0:(nd==0)=false:=by simp [k0]
  have HKK:=Lib.hid (And.intro k1 k0);clear k1 k0;go_wp2_with fail;refine HC2.o.mono ?_;rintro e w2 ⟨y,cd,rfl,H2⟩;obtain ⟨t',b',m',kd',nd',o',s',v'⟩:=y;obtain ⟨er,her⟩:=zc (eV ad cd);rw [<-her];unfold aD;dsimp only;obtain ⟨z0,z1,z2,z3,z4,z5,z6,z7,zf⟩:=(H0.o.2.1.later H2.o.1).cells;unfold aV at z0 z1 z2 z3 z4 z5 z6 z7;dsimp only at z0 z1 z2 z3 z4 z5 z6 z7
  have HER:Aside (er=eV ad cd/\Below w.heap.size w w2):=⟨her,zj H0.o.2.2.1 H2.o.1⟩
  clear her;go_wp2;(try simp only [Exit.inBlock,Exit.then]);refine bodyPost_ret (v:=.tuple #[.agg #[.int .i64 t',.int .i64 b',.int .i64 m',.int .u8 (kd':Int),.int .i64 nd',.int .i64 o',.string s',.string v'],er]) ?_ rfl ⟨(t',b',m',kd',nd',o',s',v'),cd,by rw [<-HER.o.1];rfl,?_,(.inr (.inl ⟨HKK.o.1,HKK.o.2,H2.o.2⟩))⟩
  ·exact ke7
  exact kb5
 have d1:((kd:Int)==109)=false:=zr;by_cases k2:kd=105
 ·have d2:((kd:Int)==105)=true:=by simp;omega
  have HKK:=Lib.hid k2;clear k1 k2;by_cases kv0:v.size=0
  ·have he:=fG kv0;have HV0:=Lib.hid kv0;go_wp2_with fail;refine (HC3.o 0).mono ?_;rintro e w2 ⟨y,cd,rfl,H2⟩;obtain ⟨t',b',m',kd',nd',o',s',v'⟩:=y;obtain ⟨er,her⟩:=zc (eV ad cd);rw [<-her];unfold aD;dsimp only;obtain ⟨z0,z1,z2,z3,z4,z5,z6,z7,zf⟩:=(H0.o.2.1.later H2.o.1).cells;unfold aV at z0 z1 z2 z3 z4 z5 z6 z7;dsimp only at z0 z1 z2 z3 z4 z5 z6 z7
   have HER:Aside (er=eV ad cd/\Below w.heap.size w w2):=⟨her,zj H0.o.2.2.1 H2.o.1⟩
   clear her;go_wp2;(try simp only [Exit.inBlock,Exit.then]);refine bodyPost_ret (v:=.tuple #[.agg #[.int .i64 t',.int .i64 b',.int .i64 m',.int .u8 (kd':Int),.int .i64 nd',.int .i64 o',.string s',.string v'],er]) ?_ rfl ⟨(t',b',m',kd',nd',o',s',v'),cd,by rw [<-HER.o.1];rfl,?_,(.inr (.inr (.inl ⟨HKK.o,by show ∃b,WriteAt _ nd o b/\_=fY b.2 (bN T i (R i).length 105 nd b.1 ⟨#[]⟩ ⟨#[chO v]⟩);rw [AR HV0.o];exact H2.o.2⟩)))⟩
   ·exact ke7
   exact kb5
  have he:=gm kv0;have hch:=Fx v kv0;go_wp2_with fail;refine (HC3.o (chO v)).mono ?_;rintro e w2 ⟨y,cd,rfl,H2⟩;obtain ⟨t',b',m',kd',nd',o',s',v'⟩:=y;obtain ⟨er,her⟩:=zc (eV ad cd);rw [<-her];unfold aD;dsimp only;obtain ⟨z0,z1,z2,z3,z4,z5,z6,z7,zf⟩:=(H0.o.2.1.later H2.o.1).cells;unfold aV at z0 z1 z2 z3 z4 z5 z6 z7;dsimp only at z0 z1 z2 z3 z4 z5 z6 z7
  have HER:Aside (er=eV ad cd/\Below w.heap.size w w2):=⟨her,zj H0.o.2.2.1 H2.o.1⟩
  clear her;go_wp2;(try simp only [Exit.inBlock,Exit.then]);refine bodyPost_ret (v:=.tuple #[.agg #[.int .i64 t',.int .i64 b',.int .i64 m',.int .u8 (kd':Int),.int .i64 nd',.int .i64 o',.string s',.string v'],er]) ?_ rfl ⟨(t',b',m',kd',nd',o',s',v'),cd,by rw [<-HER.o.1];rfl,?_,(.inr (.inr (.inl ⟨HKK.o,H2.o.2⟩)))⟩
  ·exact ke7
  exact kb5
 have d2:((kd:Int)==105)=false:=zr;by_cases k3:kd=100
 ·have d3:((kd:Int)==100)=true:=by simp;omega
  have HKK:=Lib.hid (And.intro k1 (And.intro k2 k3));clear k1 k2 k3;go_wp2_with fail;refine HC4.o.mono ?_;rintro e w2 ⟨y,cd,rfl,H2⟩;obtain ⟨t',b',m',kd',nd',o',s',v'⟩:=y;obtain ⟨er,her⟩:=zc (eV ad cd);rw [<-her];unfold aD;dsimp only;obtain ⟨z0,z1,z2,z3,z4,z5,z6,z7,zf⟩:=(H0.o.2.1.later H2.o.1).cells;unfold aV at z0 z1 z2 z3 z4 z5 z6 z7;dsimp only at z0 z1 z2 z3 z4 z5 z6 z7
  have HER:Aside (er=eV ad cd/\Below w.heap.size w w2):=⟨her,zj H0.o.2.2.1 H2.o.1⟩
  clear her;go_wp2;(try simp only [Exit.inBlock,Exit.then]);refine bodyPost_ret (v:=.tuple #[.agg #[.int .i64 t',.int .i64 b',.int .i64 m',.int .u8 (kd':Int),.int .i64 nd',.int .i64 o',.string s',.string v'],er]) ?_ rfl ⟨(t',b',m',kd',nd',o',s',v'),cd,by rw [<-HER.o.1];rfl,?_,(.inr (.inr (.inr (.inl ⟨HKK.o.2.2,H2.o.2⟩))))⟩
  ·exact ke7
  exact kb5
 have d3:((kd:Int)==100)=false:=zr;have HKK:=Lib.hid (And.intro k1 (And.intro k2 k3));clear k1 k2 k3;go_wp2_with fail;refine HC5.o.mono ?_;rintro e w2 ⟨y,cd,rfl,H2⟩;obtain ⟨t',b',m',kd',nd',o',s',v'⟩:=y;obtain ⟨er,her⟩:=zc (eV ad cd);rw [<-her];unfold aD;dsimp only;obtain ⟨z0,z1,z2,z3,z4,z5,z6,z7,zf⟩:=(H0.o.2.1.later H2.o.1).cells;unfold aV at z0 z1 z2 z3 z4 z5 z6 z7;dsimp only at z0 z1 z2 z3 z4 z5 z6 z7
 have HER:Aside (er=eV ad cd/\Below w.heap.size w w2):=⟨her,zj H0.o.2.2.1 H2.o.1⟩
 clear her;go_wp2;(try simp only [Exit.inBlock,Exit.then]);refine bodyPost_ret (v:=.tuple #[.agg #[.int .i64 t',.int .i64 b',.int .i64 m',.int .u8 (kd':Int),.int .i64 nd',.int .i64 o',.string s',.string v'],er]) ?_ rfl ⟨(t',b',m',kd',nd',o',s',v'),cd,by rw [<-HER.o.1];rfl,?_,(.inr (.inr (.inr (.inr ⟨HKK.o.1,HKK.o.2.1,HKK.o.2.2,H2.o.2⟩))))⟩
 ·exact ke7
 exact kb5
end
section
open Go.RowKit Go.Extern.Stop Go.Stop Go.Extern
theorem Cl (c:Int) (w:World):Calls prog 8 #[.nilIface,.int .i64 c] w fun e w'=>e= .returned (.bool (0==c))/\w'=w:=by
 by_cases hc:(0:Int)=c
 ·have hb:((0:Int)==c)=true:=by simp [hc]
  exact kj2
 have hb:((0:Int)==c)=false:=by simp [hc]
 exact kj2
theorem nJ (w:World) (h:Errs B ad w) (k:Nat) (hk:k<12) (c:Int):
  Calls prog 8 #[.iface 399 (.pointer (some (ad k))),.int .i64 c] w fun e w'=>e= .returned (.bool (dY k==c))/\Below w.heap.size w w':=by
 by_cases hc:dY k=c
 ·have hb:(dY k==c)=true:=by simp [hc]
  exact kj4
 have hb:(dY k==c)=false:=by simp [hc]
 exact kj4
end
section
open Go.RowKit Go.Lib Go.Sort Go.Maps
open scoped Classical
def Lw (br:Nat->Nat) (n:Nat):List Value:=(List.range n).map fun r=>.pointer (some ⟨br r,0,none⟩)
theorem Fa (br:Nat->Nat) (h:r<n):(Lw br n)[r]? =some (.pointer (some ⟨br r,0,none⟩)):=by unfold Lw;rw [Zf,List.getElem?_range h];rfl
theorem Folk.congr {c:Nat->Nat->Nat} {br:Nat->Nat} {by_ by':Nat->Int} {R:Nat->Rws} (h:Folk B w n c br by_ R) (e:∀r,r<n->by_ r=by' r):Folk B w n c br by' R:=⟨fun r hr=>by rw [<-e r hr];exact h.rep r hr,h.apart⟩
def KS (i:Nat) (K:Nat->Rws):Prop:=∃H:List OpX,H.length<=i/\∀r,r<4->∀x∈aR (K r),x∈H/\x.1<=(i:Int)
structure Crowd (B:Nat) (w:World) (g cap:Nat) (br:Nat->Nat) (K:Nat->Rws) (i:Nat) (sf:List Nat) (wr:World):Prop where
 folk:∃c,Folk B wr 4 c br (fun r=>(r:Int)) K/\∀r,r<4->∀k∈g::sf,c r k=0
 row:wr.ownsRow B 25 1 (.slice (some ⟨g,0,none⟩) 4 cap) 4 (Lw br 4)
 below:Below B w wr
 base:B<=w.heap.size
 kin:FolkK 4 (fun r=>aR (K r))
 hist:KS i K
 safe:∀k∈sf,k<wr.heap.size
section
variable {B:Nat} {w:World} {g cap:Nat} {br:Nat→Nat} {K:Nat→Rws} {i:Nat} {sf:List Nat} {wr:World}
theorem Crowd.later {w':World} (h:Crowd B w g cap br K i sf wr) (hb:Below wr.heap.size wr w'):Crowd B w g cap br K i sf w':=by
 obtain ⟨c,hf,hc⟩:=h.folk;exact ⟨⟨c,hf.later hb,hc⟩,dP h.row (fun k hk=>hb.block k (h.row.lt k hk).2),h.below.trans (hb.mono (uf h.base h.below.size)),h.base,h.kin,h.hist,fun k hk=>um (h.safe k hk) hb.size⟩
theorem Crowd.rows (h:Crowd B w g cap br K i sf wr) (hr:r<4):RowsK (K r):=by
 obtain ⟨c,hf,_⟩:=h.folk;exact (hf.rep r hr).wellK
theorem Crowd.len (h:Crowd B w g cap br K i sf wr) (hr:r<4):(aR (K r)).length<=i:=by
 obtain ⟨H,h1,h2⟩:=h.hist;have:=ie (h.rows hr).num.nodup (fun x hx=>(h2 r hr x hx).1);omega
theorem Crowd.time (h:Crowd B w g cap br K i sf wr) (hr:r<4) (hT:du (aR (K r)) T):T<=(i:Int):=by
 obtain ⟨H,h1,h2⟩:=h.hist
 rcases hT.2.1 with q | ⟨x,hx,q⟩
 ·omega
 have:=(h2 r hr x hx).2;omega
theorem Crowd.cell (h:Crowd B w g cap br K i sf wr) {r:Nat} (hr:r<4):wr.cell? ⟨g,r,none⟩=some (.pointer (some ⟨br r,0,none⟩)):=by
 rw [h.row.cellAt r zo,Fa br hr]
theorem Crowd.glt (h:Crowd B w g cap br K i sf wr):g<wr.heap.size:=(h.row.lt g rfl).2
theorem Crowd.up (h:Crowd B w g cap br K i sf wr) (hij:i<=j):Crowd B w g cap br K j sf wr:=by
 obtain ⟨H,h1,h2⟩:=h.hist;exact ⟨h.folk,h.row,h.below,h.base,h.kin,⟨H,zo,fun r hr x hx=>⟨(h2 r hr x hx).1,by have:=(h2 r hr x hx).2;omega⟩⟩,h.safe⟩
theorem Crowd.act (h:Crowd B w g cap br K i sf wr) {a:Nat} (ha:a<4) {w':World} {c:Nat->Nat->Nat} (hf:Folk B wr 4 c br (fun r=>(r:Int)) K) (hg:∀r,r<4->∀k∈g::sf,c r k=0) {c':Nat->Nat} {R':Rws} (hA:Acts wr (c a) w' c') (hR:RepOwn B w' c' (br a) (a:Int) R') {j:Nat} (hkin:FolkK 4 (fun r=>aR (fx K a R' r))) (hh:KS j (fx K a R')):Crowd B w g cap br (fx K a R') j sf w'/\∀k∈sf,k<wr.heap.size->w'.heap[k]? =wr.heap[k]? :=by
 refine ⟨⟨⟨fx c a c',hf.act ha hA hR,fun r hr k hk=> ?_⟩,dP h.row (fun k hk=> ?_),h.below.trans ((hf.rep a ha).below hA (uf h.base h.below.size)),h.base,hkin,hh,fun k hk=>um (h.safe k hk) hA.keeps.size⟩,fun k hk hkl=>hA.keeps.block k hkl (fun q=>q (hg a ha k (ul _ hk)))⟩
 ·by_cases e:r=a
  ·subst e;rw [cx]
   have hkl:k<wr.heap.size:=by
    rcases vT.1 hk with e | hk
    ·rw [e];exact h.glt
    exact h.safe k hk
   rw [hA.hue k hkl];exact hg r hr k hk
  rw [bD _ _ e];exact hg r hr k hk
 have:k=g:=by simpa [Value.ownBlock] using hk.symm
 subst this;exact hA.keeps.block k h.glt (fun q=>q (hg a ha k uv))
theorem Crowd.guard (h:Crowd B w g cap br K i sf wr) (hb:Below wr.heap.size wr w') (hk:wr.heap.size<=k) (hk':k<w'.heap.size):Crowd B w g cap br K i (k::sf) w':=by
 obtain ⟨c,hf,hc⟩:=h.folk;have h':=h.later hb;refine ⟨⟨c,hf.later hb,fun r hr j hj=> ?_⟩,h'.row,h'.below,h'.base,h'.kin,h'.hist,fun j hj=> ?_⟩
 ·rcases vT.1 hj with e | hj
  ·exact hc r hr j (by rw [e];exact uv)
  rcases vT.1 hj with e | hj
  ·rw [e];exact (hf.rep r hr).high k hk
  exact hc r hr j (ul _ hj)
 rcases vT.1 hj with e | hj
 ·rw [e];exact hk'
 exact h'.safe j hj
theorem Crowd.less (h:Crowd B w g cap br K i sf wr) (hs:∀k,k∈sf'->k∈sf):Crowd B w g cap br K i sf' wr:=by
 obtain ⟨c,hf,hc⟩:=h.folk;exact ⟨⟨c,hf,fun r hr j hj=>hc r hr j (by rcases vT.1 hj with e | hj;exact vT.2 (.inl e);exact ul _ (hs j hj))⟩,h.row,h.below,h.base,h.kin,h.hist,fun j hj=>h.safe j (hs j hj)⟩
end
end
section
open scoped Classical
end
section
open Go.RowKit Go.Lib Go.Sort Go.Maps
open scoped Classical
structure Band (B:Nat) (w:World) (n:Nat) (br:Nat->Nat) (K:Nat->Rws) (sf:List Nat) (wr:World):Prop where
 folk:∃c,Folk B wr n c br (fun r=>(r:Int)) K/\∀r,r<n->∀k∈sf,c r k=0
 below:Below B w wr
 base:B<=w.heap.size
 safe:∀k∈sf,k<wr.heap.size
section
variable {B:Nat} {ad:Nat→Addr} {w:World} {n:Nat} {br:Nat→Nat} {K:Nat→Rws} {sf:List Nat} {wr:World}
theorem Band.none (hB:B<=w.heap.size) (br:Nat->Nat) (K:Nat->Rws):Band B w 0 br K [] w:=
 ⟨⟨fun _ _=>0,Folk.none _ _ _ _ _ _,fun r hr=>absurd hr zo⟩,vP _ _,hB,fun k hk=>jb⟩
theorem Band.size (h:Band B w n br K sf wr):B<=wr.heap.size:=uf h.base h.below.size
theorem Band.later {w':World} (h:Band B w n br K sf wr) (hb:Below wr.heap.size wr w'):Band B w n br K sf w':=by
 obtain ⟨c,hf,hc⟩:=h.folk;exact ⟨⟨c,hf.later hb,hc⟩,h.below.trans (hb.mono h.size),h.base,fun k hk=>um (h.safe k hk) hb.size⟩
theorem Band.rows (h:Band B w n br K sf wr) (hr:r<n):RowsK (K r):=by
 obtain ⟨c,hf,_⟩:=h.folk;exact (hf.rep r hr).wellK
theorem Band.guard (h:Band B w n br K sf wr) (hb:Below wr.heap.size wr w') (hk:wr.heap.size<=k) (hk':k<w'.heap.size):Band B w n br K (k::sf) w':=by
 obtain ⟨c,hf,hc⟩:=h.folk;refine ⟨⟨c,hf.later hb,fun r hr j hj=> ?_⟩,(h.later hb).below,h.base,fun j hj=> ?_⟩
 ·rcases vT.1 hj with e | hj
  ·rw [e];exact (hf.rep r hr).high k hk
  exact hc r hr j hj
 rcases vT.1 hj with e | hj
 ·rw [e];exact hk'
 exact (h.later hb).safe j hj
theorem Band.less (h:Band B w n br K sf wr) (hs:∀k,k∈sf'->k∈sf):Band B w n br K sf' wr:=by
 obtain ⟨c,hf,hc⟩:=h.folk;exact ⟨⟨c,hf,fun r hr k hk=>hc r hr k (hs k hk)⟩,h.below,h.base,fun k hk=>h.safe k (hs k hk)⟩
theorem Crowd.band {g:Nat} (h:Crowd B w g cap br K i sf wr):Band B w 4 br K (g::sf) wr:=by
 obtain ⟨c,hf,hc⟩:=h.folk;refine ⟨⟨c,hf,hc⟩,h.below,h.base,fun k hk=> ?_⟩
 rcases vT.1 hk with e | hk
 ·rw [e];exact h.glt
 exact h.safe k hk
theorem Band.add {w':World} (h:Band B w n br K sf wr) {c0:Nat->Nat} {br0:Nat} {R0:Rws} (h0:RepOwn wr.heap.size w' c0 br0 (n:Int) R0) (hb:Below wr.heap.size wr w'):Band B w (n+1) (fx br n br0) (fx K n R0) sf w':=by
 obtain ⟨c,hf,hc⟩:=h.folk;refine ⟨⟨fx c n c0,(hf.add h.size h0 hb).congr (fun r hr=> ?_),fun r hr k hk=> ?_⟩,(h.later hb).below,h.base,(h.later hb).safe⟩
 ·by_cases e:r=n
  ·subst e;rw [cx]
  rw [bD _ _ e]
 by_cases e:r=n
 ·subst e;rw [cx];by_cases e0:c0 k=0
  ·exact e0
  have:=h0.low k e0;have:=h.safe k hk;omega
 rw [bD _ _ e];exact hc r zo k hk
theorem Band.act (h:Band B w n br K sf wr) {a:Nat} (ha:a<n) {w':World} {c:Nat->Nat->Nat} (hf:Folk B wr n c br (fun r=>(r:Int)) K) (hg:∀r,r<n->∀k∈sf,c r k=0) {c':Nat->Nat} {R':Rws} (hA:Acts wr (c a) w' c') (hR:RepOwn B w' c' (br a) (a:Int) R'):Band B w n br (fx K a R') sf w'/\∀k∈sf,w'.heap[k]? =wr.heap[k]? :=by
 refine ⟨⟨⟨fx c a c',hf.act ha hA hR,fun r hr k hk=> ?_⟩,h.below.trans ((hf.rep a ha).below hA h.size),h.base,fun k hk=>um (h.safe k hk) hA.keeps.size⟩,fun k hk=>hA.keeps.block k (h.safe k hk) (fun q=>q (hg a ha k hk))⟩;by_cases e:r=a
 ·subst e;rw [cx,hA.hue k (h.safe k hk)];exact hg r hr k hk
 rw [bD _ _ e];exact hg r hr k hk
end
end
section
open Go.RowKit Go.Lib Go.Sort Go.Maps
def NewOps (w w':World) (ao:Option Addr) (cap:Nat) (ys:List OpX):Prop:=
 (ao=none/\cap=0/\ys= [])\/∃g,ao=some ⟨g,0,none⟩/\w.heap.size<=g/\g<w'.heap.size/\ys.length<=cap/\∀j u,(cellsOf ys)[j]? =some u->w'.cell? ⟨g,0+j,none⟩=some u
def SortedOut (w:World) (xs:List OpX) (e:Ending) (w':World):Prop:=∃ao cap ys,e= .returned (.slice ao ys.length cap)/\NewOps w w' ao cap ys/\bW xs ys/\Below w.heap.size w w'
theorem SortedOut.from_ {w1:World} {xs:List OpX} {e:Ending} (h:SortedOut w1 xs e w') (hb:Below w.heap.size w w1):SortedOut w xs e w':=by
 obtain ⟨ao,cap,ys,h1,h2,h3,h4⟩:=h;refine ⟨ao,cap,ys,h1,?_,h3,zj hb h4⟩
 rcases h2 with h2 | ⟨g,q1,q2,q3,q4,q5⟩
 ·exact .inl h2
 exact .inr ⟨g,q1,uf hb.size q2,q3,q4,q5⟩
end
section
open Go.RowKit Go.Lib Go.Sort Go.Maps
open scoped Classical
structure EnvP (B:Nat) (ad:Nat->Addr) (w:World):Prop where
 t:EnvT B ad w
 e:Errs B ad w
theorem EnvP.mono {B:Nat} {ad:Nat->Addr} {w w':World} (h:EnvP B ad w) (hb:Below B w w'):EnvP B ad w':=⟨h.t.mono hb,h.e.mono hb⟩
theorem EnvP.later {B:Nat} {ad:Nat->Addr} {w w':World} (h:EnvP B ad w) (hb:Below w.heap.size w w'):EnvP B ad w':=⟨h.t.later hb,h.e.later hb⟩
theorem EnvP.up {B B':Nat} {ad:Nat->Addr} {w:World} (h:EnvP B ad w) (hB:B<=B') (hs:B'<=w.heap.size):EnvP B' ad w:=
 ⟨h.t.up hB hs,⟨h.e.c0,h.e.c1,h.e.c2,h.e.c3,h.e.c4,h.e.c5,h.e.c6,h.e.c7,h.e.c8,h.e.c9,h.e.c10,h.e.c11,h.e.et,fun i hi=>um (h.e.lt i hi) hB,h.e.row,h.e.ne,uf h.e.big hB,hs⟩⟩
def OpsSf (w:World) (ao:Option Addr) (ys:List OpX) (sf:List Nat):Prop:=∀g,ao=some ⟨g,0,none⟩->g∈sf/\∀j u,(cellsOf ys)[j]? =some u->w.cell? ⟨g,0+j,none⟩=some u
theorem OpsSf.act (h:OpsSf w ao ys sf) (hk:∀k∈sf,w'.heap[k]? =w.heap[k]?):OpsSf w' ao ys sf:=fun g e=>
 ⟨(h g e).1,fun j u hj=>by rw [uk (a:=⟨g,0+j,none⟩) (hk g (h g e).1)];exact (h g e).2 j u hj⟩
theorem NewOps.at (h:NewOps w w' ao cap ys) (k:OpsSf W ao ys sf):OpsAt W (.slice ao ys.length cap) ys:=by
 rcases h with ⟨rfl,rfl,rfl⟩ | ⟨g,rfl,_⟩
 ·exact .inl ⟨rfl,rfl⟩
 exact .inr ⟨g,0,cap,rfl,(k g rfl).2⟩
section
variable {B:Nat} {ad:Nat→Addr} {w:World} {n:Nat} {br:Nat→Nat} {K:Nat→Rws} {sf:List Nat} {wr:World}
end
structure Trio (B:Nat) (w:World) (b0 b1 b2:Nat) (R0 R1 R2:Rws) (g:Nat) (ao:Option Addr) (ys:List OpX) (wr:World):Prop where
 band:∃br K sf,Band B w 3 br K sf wr/\br 0=b0/\br 1=b1/\br 2=b2/\K 0=R0/\K 1=R1/\K 2=R2/\g∈sf/\OpsSf wr ao ys sf
 cell:wr.cell? ⟨g,0,none⟩=some (.pointer (some ⟨b0,0,none⟩))
section
variable {B:Nat} {ad:Nat→Addr} {w:World} {b0 b1 b2:Nat} {R0 R1 R2:Rws} {g:Nat} {ao:Option Addr} {ys:List OpX} {wr:World}
theorem Trio.later {w':World} (h:Trio B w b0 b1 b2 R0 R1 R2 g ao ys wr) (hb:Below wr.heap.size wr w'):Trio B w b0 b1 b2 R0 R1 R2 g ao ys w':=by
 obtain ⟨br,K,sf,h1,e0,e1,e2,k0,k1,k2,hg,ho⟩:=h.band;refine ⟨⟨br,K,sf,h1.later hb,e0,e1,e2,k0,k1,k2,hg,ho.act (fun k hk=>hb.block k (h1.safe k hk))⟩,?_⟩;rw [uk (a:=⟨g,0,none⟩) (hb.block g (h1.safe g hg))];exact h.cell
theorem Trio.below (h:Trio B w b0 b1 b2 R0 R1 R2 g ao ys wr):Below B w wr:=by
 obtain ⟨br,K,sf,h1,_⟩:=h.band;exact h1.below
theorem Trio.at {w0 w0':World} {cp:Nat} (h:Trio B w b0 b1 b2 R0 R1 R2 g ao ys wr) (hn:NewOps w0 w0' ao cp ys):OpsAt wr (.slice ao ys.length cp) ys:=by
 obtain ⟨br,K,sf,h1,e0,e1,e2,k0,k1,k2,hg,ho⟩:=h.band;exact hn.at ho
theorem Trio.cells (h:Trio B w b0 b1 b2 R0 R1 R2 g ao ys wr):∀p,ao=some ⟨p,0,none⟩->∀j u,(cellsOf ys)[j]? =some u->wr.cell? ⟨p,0+j,none⟩=some u:=by
 obtain ⟨br,K,sf,h1,e0,e1,e2,k0,k1,k2,hg,ho⟩:=h.band
 exact fun p e=>(ho p e).2
def StText (A:List OpX) (X:ByteArray):Prop:=StateIs A X.data.toList
theorem StText.same {A B:List OpX} {X Y:ByteArray} (hA:WellK A) (e:A.Perm B) (h:StText A X) (k:StText B Y):X=Y:=gL (StateIs.same hA e h k)
end
end
section
open Go Go.RowKit Go.Lib Go.Sort Go.Maps
open scoped Classical
abbrev CI:=Bool×OpX×(Option Addr×Nat×List OpX)
def rt (a:CI):List Value:=.bool a.1::(au a.2.1++ [.slice a.2.2.1 a.2.2.2.2.length a.2.2.2.1])
theorem mC (a:CI):(rt a).length=10:=rfl
def ABlk (W:World) (b:Nat) (a:CI):Prop:=W.heap[b]? =some (.cells #[.bool a.1,.int .i64 a.2.1.1,.int .i64 a.2.1.2.1,.int .i64 a.2.1.2.2.1,.int .u8 (a.2.1.2.2.2.1:Int),.int .i64 a.2.1.2.2.2.2.1,.int .i64 a.2.1.2.2.2.2.2.1,.string a.2.1.2.2.2.2.2.2.1,.string a.2.1.2.2.2.2.2.2.2,.slice a.2.2.1 a.2.2.2.2.length a.2.2.2.1] 40 (0,0))
theorem ABlk.lt {a:CI} (h:ABlk W b a):b<W.heap.size:=(vO.1 h).1
theorem ABlk.later {a:CI} (h:ABlk W b a) (hb:Below W.heap.size W W'):ABlk W' b a:=(hb.block b h.lt).trans h
theorem ABlk.ends {a:CI} (h:ABlk W b a):W.cell? ⟨b,0,none⟩=some (.bool a.1)/\W.cell? ⟨b,9,none⟩=some (.slice a.2.2.1 a.2.2.2.2.length a.2.2.2.1):=by
 unfold ABlk at h;constructor<;>simp [World.cell?,h]
theorem ABlk.op {a:CI} (h:ABlk W b a):W.cell? ⟨b,1,none⟩=some (.int .i64 a.2.1.1)/\W.cell? ⟨b,2,none⟩=some (.int .i64 a.2.1.2.1)/\W.cell? ⟨b,3,none⟩=some (.int .i64 a.2.1.2.2.1)/\W.cell? ⟨b,4,none⟩=some (.int .u8 (a.2.1.2.2.2.1:Int))/\W.cell? ⟨b,5,none⟩=some (.int .i64 a.2.1.2.2.2.2.1)/\W.cell? ⟨b,6,none⟩=some (.int .i64 a.2.1.2.2.2.2.2.1)/\W.cell? ⟨b,7,none⟩=some (.string a.2.1.2.2.2.2.2.2.1)/\W.cell? ⟨b,8,none⟩=some (.string a.2.1.2.2.2.2.2.2.2):=by
 unfold ABlk at h;refine ⟨?_,?_,?_,?_,?_,?_,?_,?_⟩<;>simp [World.cell?,h]
theorem Ls (a0 a1 a2 a3:Int) (w:World):(Op.equalIn 10000 55 (.agg #[.int .i64 a0,.int .i64 a1,.int .i64 a2,.int .i64 a3]) (.agg #[.int .i64 a0,.int .i64 a1,.int .i64 a2,.int .i64 a3])).run prog w= .ok true w:=by
 have u3:=underlying3;have a3':=isAgg3;have z3:=sizeOf3;have c3:prog.cellsOf 3=1:=zq;have hS:prog.underlying 55=some (.array 4 3):=zq;obtain ⟨i,hi⟩:=info_of_underlying u3;rw [show (10000:Nat)=9999+1 from rfl,run_equalIn_array w 9999 _ _ hS hi,c3];simp only [show List.range 4= [0,1,2,3] from rfl,Op.eqItems];go_simp
structure EndS (B1:Nat) (w2:World) (c:Nat->Nat) (br m i:Nat) (ao:Option Addr) (cap:Nat) (R:Rws) (S:List OpX) (W:World):Prop where
 rep:RepOwn B1 W c br (i:Int) R
 mrp:MRp W m (i:Int) ao cap S
 below:Below B1 w2 W
 size:B1<=W.heap.size
theorem EndS.later {B1:Nat} {w2:World} {c:Nat->Nat} {br m i:Nat} {ao:Option Addr} {cap:Nat} {R:Rws} {S:List OpX} {W W':World} (h:EndS B1 w2 c br m i ao cap R S W) (hb:Below W.heap.size W W'):EndS B1 w2 c br m i ao cap R S W':=
 ⟨h.rep.later hb,h.mrp.later hb,h.below.trans (hb.mono h.size),uf h.size hb.size⟩
theorem tX {s:List UInt8} (hW:WellK S) (hp:S.Perm A) (h:StateIs A s) (k:StateIs S t.data.toList):t=⟨s.toArray⟩:=by
 have:=k.same hW hp h;refine gL ?_;rw [this]
def vOf (v0 v1 v2 v3:Int):Nat->Int:=fun n=>if n=0 then v0 else if n=1 then v1 else if n=2 then v2 else v3
theorem IA {B0:Nat} {v0 v1 v2 v3:Int} (hok:∀x∈S,an x=0) (h:(v= .slice none 0 0/\S= [])\/∃g cap,v= .slice (some ⟨g,0,none⟩) (S.filter (fun x=> !ij (vOf v0 v1 v2 v3) x)).length cap/\B0<=g/\OwnAt w g (S.filter (fun x=> !ij (vOf v0 v1 v2 v3) x))):OpsAt w v (cl v0 v1 v2 v3 S):=by
 have e:=EA hok (vOf v0 v1 v2 v3);have e2:cl (vOf v0 v1 v2 v3 0) (vOf v0 v1 v2 v3 1) (vOf v0 v1 v2 v3 2) (vOf v0 v1 v2 v3 3) S=cl v0 v1 v2 v3 S:=rfl;rw [e2] at e
 rcases h with ⟨h1,h2⟩ | ⟨g,cap,h1,_,h2⟩
 ·subst h2;exact .inl ⟨h1,rfl⟩
 rw [e] at h1 h2;exact .inr ⟨g,0,cap,h1,fun j u hj=>by rw [vY];exact h2.cell j u hj⟩
theorem Fs (v0 v1 v2 v3:Int) (S:List OpX):(cl v0 v1 v2 v3 S).length<=S.length:=Zd _ _
theorem KT (h:∀j,j< [x].length->lq ([x][j]!)) (j:Nat) (hj:j< [x].length):lq x:=h 0 zv
theorem At (h:∀j,j<l.length->lq (l[j]!)):∀x∈l,lq x:=fun x hx=>by
 obtain ⟨j,hj,rfl⟩:=uN hx;have:=h j hj;rwa [getElem!_pos l j hj] at this
def KdN (k:Nat):Nat:=if k=109\/k=105\/k=100 then k else 115
theorem CW (h:rX ad W v ix cd) (hk:Keeps (fun k=>k=m) W W') {a b:Value} {t:TypeId} {mk:Nat×Nat} (hm:W.heap[m]? =some (.cells #[a,b] t mk)) (ht:t≠198):rX ad W' v ix cd:=by
 rcases h with h | ⟨h0,g,hv,hg⟩
 ·exact .inl h
 refine .inr ⟨h0,g,hv,?_⟩
 have hne:g≠m:=fun e=>by
  rw [e] at hg;rw [hg] at hm
  cases hm
  exact ht rfl
 rw [hk.block g (vO.1 hg).1 hne];exact hg
theorem sS (h:rX ad W v ix cd) (hb:Below W.heap.size W W'):rX ad W' v ix cd:=by
 rcases h with h | ⟨h0,g,hv,hg⟩
 ·exact .inl h
 exact .inr ⟨h0,g,hv,(hb.block g (vO.1 hg).1).trans hg⟩
theorem oF {C:Nat} (h:OpBlk W C x):OpsIn W (some ⟨C,0,none⟩) [x]:=by
 obtain ⟨c0,c1,c2,c3,c4,c5,c6,c7,-⟩:=h.cells;refine .inr ⟨C,0,rfl,fun j u hj=> ?_⟩;rw [vY]
 match j,hj with
 | 0,hj=>rw [c0];exact hj
 | 1,hj=>rw [c1];exact hj
 | 2,hj=>rw [c2];exact hj
 | 3,hj=>rw [c3];exact hj
 | 4,hj=>rw [c4];exact hj
 | 5,hj=>rw [c5];exact hj
 | 6,hj=>rw [c6];exact hj
 | 7,hj=>rw [c7];exact hj
 | n+8,hj=>exact absurd hj (by simp [cellsOf,au])
theorem Ff (h:OpsAt W v l):∃la lc,v= .slice la l.length lc/\OpsIn W la l:=by
 rcases h with ⟨rfl,rfl⟩ | ⟨b,o,c,rfl,hc⟩
 ·exact kp2
 exact ⟨_,c,rfl,.inr ⟨b,o,rfl,hc⟩⟩
theorem Cr (hok:∀x∈A,an x=0) (h:du A T):0<=T/\T<=1073741824:=by
 refine ⟨h.2.2,?_⟩
 rcases h.2.1 with e | ⟨x,hx,e⟩
 ·omega
 have:=(aq (hok x hx)).2.1;omega
theorem Dp (x:OpX):dJ x<=12:=by
 have:=IY x;unfold dJ;split<;>omega
theorem ou (ok:Bool) (x:OpX):(fY ok x).2<=12:=by
 have:=Dp x;unfold fY;split
 ·show 6<=12;omega
 split
 ·show 0<=12;omega
 exact this
theorem Ac {fresh:List OpX} (h:aB S l (.inr fresh)):fresh.length<=l.length:=by
 unfold aB at h
 cases hs:bp S 0 [] l with
 | inl p=>
  obtain ⟨i,c⟩:=p;rw [hs] at h
  cases h
 | inr F=>
  rw [hs] at h;dsimp only at h;have hF:=(dE (dV S) hs).2.2.2.2
  rcases h with ⟨_,e⟩ | ⟨_,_,e⟩ | ⟨_,_,_,e⟩ | ⟨_,_,e⟩ | ⟨hw,_,e⟩
  ·cases e
  ·cases e
  ·cases e
  ·cases e
  cases e
  simpa using hF
theorem Ji {a:OpX×Nat} (h:MkIs A T i n x a):a.2<=12:=by
 rcases h with ⟨_,_,h⟩ | ⟨_,_,ms,_,_,h⟩ | ⟨_,b,_,h⟩ | ⟨_,b,_,h⟩ | ⟨_,_,_,h⟩
 ·rw [h];exact ou _ _
 ·rcases h with ⟨_,e⟩ | ⟨_,_,e⟩ | ⟨_,_,_,e⟩ | ⟨_,_,_,e⟩
  ·rw [e];show 6<=12;omega
  ·rw [e];exact Dp _
  ·rw [e];show 10<=12;omega
  rw [e];show 0<=12;omega
 ·rw [h];exact ou _ _
 ·rw [h];exact ou _ _
 rw [h];exact ou _ _
theorem IR (k:Nat):KdN k=109\/KdN k=105\/KdN k=100\/KdN k=115:=by
 unfold KdN;split
 ·rename_i h
  rcases h with h | h | h
  ·exact .inl h
  ·exact .inr (.inl h)
  exact .inr (.inr (.inl h))
 exact .inr (.inr (.inr rfl))
theorem FQ (ao:Option Addr) (cap:Nat) (w:World):
  Calls prog 11 #[.slice ao 0 cap] w fun e w'=>∃v',e= .returned v'/\OpsAt w' v' []/\Below w.heap.size w w':=by
 cases ao with
 | none=>
  exact kn8
 | some a=>
  obtain ⟨i0,hi,hz0,hz1,hz2⟩:=info_parts dX;go_enter func11,ntmps11;go_wp2_with (at_builtin;refine wpList_append_own _ rfl _ _ 32 rfl w.heap.size 38 i0 _ 8 80 underlying32 hi hz0 hz1 hz2 rfl zo _ _ _ rfl (un w _ _ _) a 0 cap [] rfl rfl (by intro j u hj;simp at hj) (by intro u hu;cases hu) zv zv zg ?_);intro v' w1 hown hgrow hnil
  have F:Aside (OpsAt w1 v' []/\Below w.heap.size w w1):=⟨dI (xs:=[]) (by simpa [cellsOf] using hown),(vP _ w).grown hgrow zg zN⟩
  clear hown hgrow hnil;go_wp2;go_ret;exact ⟨v',rfl,F.o.1,F.o.2⟩
theorem CB (w:World) (ao:Option Addr) (cap:Nat) (xs:List OpX) (h:OpsIn w ao xs) (hn:xs.length<=1000):
  Calls prog 11 #[.slice ao xs.length cap] w fun e w'=>∃v',e= .returned v'/\OpsAt w' v' xs/\Below w.heap.size w w':=by
 rcases h with e | ⟨b,o,e,hc⟩
 ·subst e;exact FQ ao cap w
 exact BF w _ xs (.inr ⟨b,o,cap,by rw [e],hc⟩) hn
structure RaSt (B1:Nat) (w2:World) (br m i j tot:Nat) (R:Rws) (S:List OpX) (W:World):Prop where
 pr:Pr B1 w2 br m i R S [] W
 same:SameO R S
 len:S.length=tot
 most:tot<=60+j
theorem RaSt.stay {tot:Nat} (h:RaSt B1 w2 br m i j tot R S W) (hp:Pr B1 w2 br m i R S sf W'):RaSt B1 w2 br m i (j+1) tot R S W':=⟨hp.less (fun k hk=>jb),h.same,h.len,by have:=h.most;omega⟩
theorem rT (h:an y=0):oL [y]:=wV (fun x hx=>by simp at hx;rw [hx];exact h)
