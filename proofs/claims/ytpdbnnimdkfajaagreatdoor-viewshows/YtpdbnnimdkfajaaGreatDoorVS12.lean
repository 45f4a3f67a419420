import Derived.Test.YtpdbnnimdkfajaaGreatDoorVS04
import Derived.Test.YtpdbnnimdkfajaaGreatDoorVS05
import Derived.Shelf.SlSortCmp.NoneTotal
set_option linter.unusedSimpArgs false
set_option linter.unusedVariables false
set_option maxRecDepth 100000
set_option maxHeartbeats 64000000
namespace Go.Proofs.YtpdbnnimdkfajaaGreatDoor
open Go.Proofs.Tryz
variable {T:Int} {blk g k pb:Nat} {P:Program} {w w' w0 w1:World}
section
open Go.Shelf Go.RowKit Go.Lib Go.Sort
def cmpI (a b:Int):Int:=if a<b then -1 else if b<a then 1 else 0
theorem isNaN_any (a:Int) (w:World):Calls prog 168 #[.int .i64 a] w fun e w'=>e= .returned (.bool false)/\w'=w:=by
 have d0:(a !=a)=false:=zm
 go_enter func168,ntmps168
 go_wp2
 go_ret
 exact ⟨rfl,rfl⟩
theorem compare_any (a b:Int) (w:World):Calls prog 103 #[.int .i64 a,.int .i64 b] w fun e w'=>e= .returned (.int .i64 (cmpI a b))/\w'=w:=by
 unfold cmpI
 by_cases h1:a<b
 ·have d1:decide (a<b)=true:=decide_eq_true h1
  rw [if_pos h1]
  go_enter func103,ntmps103
  go_wp2_with (go_at_call 168;refine (isNaN_any _ _).mono ?_;rintro e w' ⟨rfl,rfl⟩)
  go_ret
  exact ⟨rfl,rfl⟩
 have d1:decide (a<b)=false:=decide_eq_false h1
 rw [if_neg h1]
 by_cases h2:b<a
 ·have d2:decide (b<a)=true:=decide_eq_true h2
  rw [if_pos h2]
  go_enter func103,ntmps103
  go_wp2_with (go_at_call 168;refine (isNaN_any _ _).mono ?_;rintro e w' ⟨rfl,rfl⟩)
  go_ret
  exact ⟨rfl,rfl⟩
 have d2:decide (b<a)=false:=decide_eq_false h2
 rw [if_neg h2]
 go_enter func103,ntmps103
 go_wp2_with (go_at_call 168;refine (isNaN_any _ _).mono ?_;rintro e w' ⟨rfl,rfl⟩)
 go_ret
 exact ⟨rfl,rfl⟩
def cmpP (x y:Plc):Int:=cmpI x.1 y.1
theorem ltOf_cmpP (x y:Plc):ltOf cmpP x y=decide (x.1<y.1):=by
 unfold ltOf cmpP cmpI
 by_cases h1:x.1<y.1
 ·simp [h1]
 rw [if_neg h1]
 by_cases h2:y.1<x.1<;>simp [h1,h2]
theorem swo_cmpP:SWO (ltOf cmpP) where
 irrefl x:=by rw [ltOf_cmpP];simp
 trans x y z h1 h2:=by rw [ltOf_cmpP] at*;simp at*;omega
 ntrans x y z h1 h2:=by rw [ltOf_cmpP] at*;simp at*;omega
theorem closureP (x y:Plc) (w:World):Calls prog 102 (#[.agg (cellsP x).toArray,.agg (cellsP y).toArray]++ #[]) w fun e w'=>e= .returned (.int .i64 (cmpP x y))/\∃q os',w'=grow (w.drewN q) os':=by
 have hc:∀w',Calls prog 103 #[.int .i64 x.1,.int .i64 y.1] w' fun e w''=>e= .returned (.int .i64 (cmpP x y))/\w''=w':=fun w'=>compare_any _ _ _
 unfold cellsP
 go_enter func102,ntmps102
 go_wp2_with (go_at_call 103;refine (hc _).mono ?_;rintro e w' ⟨rfl,rfl⟩)
 go_ret
 exact ⟨rfl,0,_,zH⟩
theorem cmp_laysP (blk off size:Nat) (w:World):CmpLays prog 102 #[] cellsP 3 cmpP blk off size w:=fun _ _ _ _ x y=>closureP x y _
theorem eg_cmpP:∀args w,(callFunc 102 args).run prog w= .ok (.enter 102 args) w:=enters_of func102 zj rfl
theorem cellsP_len (x:Plc):(cellsP x).length=3:=rfl
theorem cellsP_one (x:Plc):∀v∈cellsP x,v.oneCell'=true:=by
 intro v hv
 simp only [cellsP,jn,ui,or_false] at hv
 rcases hv with rfl | rfl | rfl<;>rfl
theorem sortWorld_keeps (w:World) (g n:Nat) (d:Array Plc) (os:Array Obj):Keeps (fun k=>k=g) w (sortWorldK cellsP 3 w g 0 n d os):=by
 refine ⟨rfl,rfl,rfl,?_,fun k hk hs=> ?_⟩
 ·simp [sortWorldK,putRowK,putRow,mapBlock,Sort.ahead,grow]
 have hgk:g≠k:=fun e=>hs e.symm
 simp only [sortWorldK,putRowK,putRow,mapBlock,Sort.ahead,grow]
 rw [Array.getElem?_append_left (by simpa using hk)]
 simp [Array.getElem?_modify,hgk]
theorem holdsP {base cap n:Nat} {ps:List Plc} (h:w.ownsRow base 106 3 (.slice (some ⟨g,0,none⟩) n cap) n (flat cellsP ps)) (hn:n=ps.length):HoldsK cellsP 3 w g 0 ps.toArray:=fun j hj=>by
 rw [size_flatK] at hj
 simp only [jN] at hj
 have h1:j / 3<ps.length:=zi
 have h2:j / 3*3+j % 3=j:=zi
 refine ⟨?_,qe⟩
 rw [jt,h.cellAt j zi,get_flatK _ _ _ _ yg]
 have:=flat_get (enc:=cellsP) cellsP_len (L:=ps) (i:=j / 3) (c:=j % 3) (x:=ps[j / 3]) (ji h1) zi
 rw [h2] at this
 rw [this,getElem!_pos ps.toArray (j / 3) qD,vv,ji yi,getElem!_pos _ (j % 3) yi]
 rfl
theorem holds_cells {d:Array Plc} (h:HoldsK cellsP 3 w g 0 d) (j:Nat) (u:Value) (hj:(flat cellsP d.toList)[j]? =some u):w.cell? ⟨g,j,none⟩=some u:=by
 have hl:=(jh.1 hj).1
 rw [flat_len cellsP_len,vE] at hl
 have h1:j / 3<d.size:=zi
 have h2:j / 3*3+j % 3=j:=zi
 have H:=(h j xq).1
 rw [jt,get_flatK _ _ _ _ zi] at H
 have:=flat_get (enc:=cellsP) cellsP_len (L:=d.toList) (i:=j / 3) (c:=j % 3) (x:=d[j / 3]) (by rw [Array.getElem?_toList,uj h1]) zi
 rw [h2,hj,ji yi] at this
 rw [H,getElem!_pos d (j / 3) h1,getElem!_pos _ (j % 3) yi,this]
 rfl
theorem sortPl (w:World) (base g cap:Nat) (ps:List Plc) (hown:w.ownsRow base 106 3 (.slice (some ⟨g,0,none⟩) ps.length cap) ps.length (flat cellsP ps)) (hl:ps.length<=100000):
  Calls prog 157 #[.slice (some ⟨g,0,none⟩) ps.length cap,.func (.func 102) #[] #[]] w fun e w'=>e= .returned (.tuple #[])/\∃qs:List Plc,qs.Perm ps/\qs.Pairwise (fun a b=>¬b.1<a.1)/\(∀j u,(flat cellsP qs)[j]? =some u->w'.cell? ⟨g,j,none⟩=some u)/\Keeps (fun k=>k=g) w w':=by
 have hH:=holdsP hown rfl
 have hblk:g<w.heap.size:=(hown.lt g rfl).2
 have h:=AnyQ.slices_SortFunc sortLays 3 isAgg106 sizeOf106 cellsP cellsP_len cellsP_one cmpP swo_cmpP 102 #[] g 0 cap ps.toArray w eg_cmpP (cmp_laysP g 0 ps.toArray.size w) hH hblk zk
 refine Calls.mono h ?_
 rintro e w' ⟨rfl,d',n,os,hp,hs,rfl⟩
 simp only [jN] at hp hs
 have hsz:d'.size=ps.length:=qY
 have hperm:d'.toList.Perm ps:=by
  have:=hp.2.2
  simp only [Array.toList_extract] at this
  rw [vY,vY,uA,uA,Nat.sub_zero,jJ (by simp [hsz]),jJ zm] at this
  exact this
 refine ⟨rfl,d'.toList,hperm,?_,?_,sortWorld_keeps w g n d' os⟩
 ·rw [jF]
  intro i j hi hj hij
  have hi':i<d'.size:=qL
  have hj':j<d'.size:=yg
  have:=hs i j (js _) hij zi
  rw [ltOf_cmpP,getElem!_pos d' i hi',getElem!_pos d' j hj'] at this
  simpa using this
 exact holds_cells ((show SWK cellsP 3 w g 0 d' _ from ⟨n,os,rfl⟩).holds hblk hH (by rw [hsz];simp))
theorem sortPl_none (p:Option Addr) (cap:Nat) (fv:Value) (w:World):Calls prog 157 #[.slice p 0 cap,fv] w fun e w'=>e= .returned (.tuple #[])/\w'=w:=
 AnyF.slices_SortFunc_none sortLays p cap fv w
end
section
open Go.Shelf Go.RowKit Go.Lib Go.Sort
def encT (x:OpX×Nat):List Value:=encX x.1
theorem encT_len (x:OpX×Nat):(encT x).length=8:=rfl
theorem encT_one (x:OpX×Nat):∀v∈encT x,v.oneCell'=true:=by
 intro v hv
 simp [encT,encX] at hv
 rcases hv with rfl | rfl | rfl | rfl | rfl | rfl | rfl | rfl<;>rfl
def ltX (x y:OpX):Bool:=lessB x.1 x.2.1 y.1 y.2.1
def cmpX (x y:OpX×Nat):Int:=if ltX x.1 y.1 then -1 else if ltX y.1 x.1 then 1 else 0
theorem cmpX_lt (x y:OpX×Nat):decide (cmpX x y<0)=tlt ltX x y:=by
 unfold cmpX tlt
 cases h:ltX x.1 y.1 with
 | true=>rfl
 | false=>
  simp only [Bool.false_eq_true,if_false]
  split<;>rfl
theorem ltOf_cmpX:ltOf cmpX=tlt ltX:=by
 funext x y
 exact cmpX_lt x y
theorem lessB_is (t b t' b':Int):lessB t b t' b'=decide (t<t'\/(t=t'/\b<b')):=by
 unfold lessB
 by_cases h:t=t'
 ·subst h;simp
 rw [if_neg h];simp [h]
theorem ltX_swo:SWO ltX where
 irrefl x:=by unfold ltX;rw [lessB_is];simp
 trans x y z h1 h2:=xv
 ntrans x y z h1 h2:=xv
theorem grows_trans {w2:World} (h1:∃q os,w1=grow (w.drewN q) os) (h2:∃q os,w2=grow (w1.drewN q) os):∃q os,w2=grow (w.drewN q) os:=by
 obtain ⟨q,os,rfl⟩:=h1
 obtain ⟨q',os',rfl⟩:=h2
 exact ⟨q+q',os++os',by rw [<-grow_grow,<-World.drewN_drewN];rfl⟩
theorem less_grow (t b t' b':Int) (w:World):
  Calls prog 115 #[.agg #[.int .i64 t,.int .i64 b],.agg #[.int .i64 t',.int .i64 b']] w fun e w'=>e= .returned (.bool (lessB t b t' b'))/\∃q os,w'=grow (w.drewN q) os:=by
 unfold lessB
 by_cases h:t=t'
 ·have hd:(t !=t')=false:=by simp [h]
  rw [if_pos h]
  clear h
  go_enter func115,ntmps115
  go_wp2
  go_ret
  exact ⟨rfl,0,_,zH⟩
 have hd:(t !=t')=true:=by simp [h]
 rw [if_neg h]
 clear h
 go_enter func115,ntmps115
 go_wp2
 go_ret
 exact ⟨rfl,0,_,zH⟩
theorem less_is (t b t' b':Int) (z:Bool) (w:World) (hz:lessB t b t' b'=z):
  Calls prog 115 #[.agg #[.int .i64 t,.int .i64 b],.agg #[.int .i64 t',.int .i64 b']] w fun e w'=>e= .returned (.bool z)/\∃q os,w'=grow (w.drewN q) os:=by rw [<-hz];exact less_grow t b t' b' w
theorem below_grows (h:∃q os,w'=grow (w.drewN q) os):Below w.heap.size w w':=by
 obtain ⟨q,os,rfl⟩:=h
 exact Lib.below_grow _ _ ze _ _
theorem closure_any (x y:OpX×Nat) (w:World):
  Calls prog 121 #[.agg (encT x).toArray,.agg (encT y).toArray] w fun e w'=>e= .returned (.int .i64 (cmpX x y))/\∃q os,w'=grow (w.drewN q) os:=by
 obtain ⟨⟨t,b,n,k,node,other,name,value⟩,i⟩:=x
 obtain ⟨⟨t',b',n',k',node',other',name',value'⟩,i'⟩:=y
 have hg:∃q os,((w.alloc (.cells #[.int .i64 t,.int .i64 b,.int .i64 n,.int .u8 (k:Int),.int .i64 node,.int .i64 other,.string name,.string value] 38)).alloc (.cells #[.int .i64 t',.int .i64 b',.int .i64 n',.int .u8 (k':Int),.int .i64 node',.int .i64 other',.string name',.string value'] 38))=grow (w.drewN q) os:=⟨0,_,zH⟩
 have c0:((w.alloc (.cells #[.int .i64 t,.int .i64 b,.int .i64 n,.int .u8 (k:Int),.int .i64 node,.int .i64 other,.string name,.string value] 38)).alloc (.cells #[.int .i64 t',.int .i64 b',.int .i64 n',.int .u8 (k':Int),.int .i64 node',.int .i64 other',.string name',.string value'] 38)).cell? ⟨w.heap.size,0,none⟩=some (.int .i64 t):=yn
 have c1:((w.alloc (.cells #[.int .i64 t,.int .i64 b,.int .i64 n,.int .u8 (k:Int),.int .i64 node,.int .i64 other,.string name,.string value] 38)).alloc (.cells #[.int .i64 t',.int .i64 b',.int .i64 n',.int .u8 (k':Int),.int .i64 node',.int .i64 other',.string name',.string value'] 38)).cell? ⟨w.heap.size,1,none⟩=some (.int .i64 b):=yn
 have c2:((w.alloc (.cells #[.int .i64 t,.int .i64 b,.int .i64 n,.int .u8 (k:Int),.int .i64 node,.int .i64 other,.string name,.string value] 38)).alloc (.cells #[.int .i64 t',.int .i64 b',.int .i64 n',.int .u8 (k':Int),.int .i64 node',.int .i64 other',.string name',.string value'] 38)).cell? ⟨w.heap.size+1,0,none⟩=some (.int .i64 t'):=yn
 have c3:((w.alloc (.cells #[.int .i64 t,.int .i64 b,.int .i64 n,.int .u8 (k:Int),.int .i64 node,.int .i64 other,.string name,.string value] 38)).alloc (.cells #[.int .i64 t',.int .i64 b',.int .i64 n',.int .u8 (k':Int),.int .i64 node',.int .i64 other',.string name',.string value'] 38)).cell? ⟨w.heap.size+1,1,none⟩=some (.int .i64 b'):=yn
 unfold cmpX ltX
 simp only [encT,encX]
 cases h1:lessB t b t' b' with
 | true=>
  have H1:=Lib.hid h1
  clear h1
  go_enter func121,ntmps121
  go_wp2_with fail
  generalize ((w.alloc (.cells #[.int .i64 t,.int .i64 b,.int .i64 n,.int .u8 (k:Int),.int .i64 node,.int .i64 other,.string name,.string value] 38)).alloc (.cells #[.int .i64 t',.int .i64 b',.int .i64 n',.int .u8 (k':Int),.int .i64 node',.int .i64 other',.string name',.string value'] 38))=u at hg c0 c1 c2 c3 |-
  refine (less_is _ _ _ _ true _ H1.o).mono ?_
  rintro e w1 ⟨rfl,hb⟩
  have hg1:=grows_trans hg hb
  clear hb c0 c1 c2 c3
  go_wp2
  go_ret
  exact ⟨rfl,hg1⟩
 | false=>
  have H1:=Lib.hid h1
  clear h1
  cases h2:lessB t' b' t b with
  | true=>
   have H2:=Lib.hid h2
   clear h2
   go_enter func121,ntmps121
   go_wp2_with fail
   generalize ((w.alloc (.cells #[.int .i64 t,.int .i64 b,.int .i64 n,.int .u8 (k:Int),.int .i64 node,.int .i64 other,.string name,.string value] 38)).alloc (.cells #[.int .i64 t',.int .i64 b',.int .i64 n',.int .u8 (k':Int),.int .i64 node',.int .i64 other',.string name',.string value'] 38))=u at hg c0 c1 c2 c3 |-
   refine (less_is _ _ _ _ false _ H1.o).mono ?_
   rintro e w1 ⟨rfl,hb⟩
   have hg1:=grows_trans hg hb
   have e0:=cellKept (below_grows hb) c0
   have e1:=cellKept (below_grows hb) c1
   have e2:=cellKept (below_grows hb) c2
   have e3:=cellKept (below_grows hb) c3
   clear hb c0 c1 c2 c3 hg
   go_wp2_with fail
   refine (less_is _ _ _ _ true _ H2.o).mono ?_
   rintro e w2 ⟨rfl,hb⟩
   have hg2:=grows_trans hg1 hb
   clear hb e0 e1 e2 e3 hg1
   go_wp2
   go_ret
   exact ⟨rfl,hg2⟩
  | false=>
   have H2:=Lib.hid h2
   clear h2
   go_enter func121,ntmps121
   go_wp2_with fail
   generalize ((w.alloc (.cells #[.int .i64 t,.int .i64 b,.int .i64 n,.int .u8 (k:Int),.int .i64 node,.int .i64 other,.string name,.string value] 38)).alloc (.cells #[.int .i64 t',.int .i64 b',.int .i64 n',.int .u8 (k':Int),.int .i64 node',.int .i64 other',.string name',.string value'] 38))=u at hg c0 c1 c2 c3 |-
   refine (less_is _ _ _ _ false _ H1.o).mono ?_
   rintro e w1 ⟨rfl,hb⟩
   have hg1:=grows_trans hg hb
   have e0:=cellKept (below_grows hb) c0
   have e1:=cellKept (below_grows hb) c1
   have e2:=cellKept (below_grows hb) c2
   have e3:=cellKept (below_grows hb) c3
   clear hb c0 c1 c2 c3 hg
   go_wp2_with fail
   refine (less_is _ _ _ _ false _ H2.o).mono ?_
   rintro e w2 ⟨rfl,hb⟩
   have hg2:=grows_trans hg1 hb
   clear hb e0 e1 e2 e3 hg1
   go_wp2
   go_ret
   exact ⟨rfl,hg2⟩
theorem cmp_lays (blk off size:Nat) (w:World):CmpLays prog 121 #[] encT 8 cmpX blk off size w:=fun _ _ _ _ x y=>closure_any x y _
theorem eg_cmp:∀args w,(callFunc 121 args).run prog w= .ok (.enter 121 args) w:=enters_of func121 zj rfl
end
section
open Go.Shelf Go.RowKit Go.Lib Go.Sort
structure STy (P:Program) (k:Nat):Prop where
 mixed:P.follows .mixedOrders=true
 t0:P.underlying 0=some (TypeDesc.tuple #[])
 a0:∀w,(isAgg 0).run P w= .ok false w
 z0:∀w,(Go.sizeOf 0).run P w= .ok 1 w
 v0:∀w,(zeroValue 0).run P w= .ok (Value.tuple #[]) w
 t3:P.underlying 3=some (TypeDesc.int IntKind.i64)
 a3:∀w,(isAgg 3).run P w= .ok false w
 z3:∀w,(Go.sizeOf 3).run P w= .ok 1 w
 v3:∀w,(zeroValue 3).run P w= .ok (Value.int IntKind.i64 0) w
 t4:P.underlying 4=some (TypeDesc.bool)
 a4:∀w,(isAgg 4).run P w= .ok false w
 z4:∀w,(Go.sizeOf 4).run P w= .ok 1 w
 v4:∀w,(zeroValue 4).run P w= .ok (Value.bool false) w
 tS:P.underlying 32=some (TypeDesc.slice 38)
 aS:∀w,(isAgg 32).run P w= .ok false w
 zS:∀w,(Go.sizeOf 32).run P w= .ok 1 w
 vS:∀w,(zeroValue 32).run P w= .ok (Value.slice none 0 0) w
 tC:P.underlying 210=some (TypeDesc.func #[38,38] #[3] false)
 aC:∀w,(isAgg 210).run P w= .ok false w
 zC:∀w,(Go.sizeOf 210).run P w= .ok 1 w
 vC:∀w,(zeroValue 210).run P w= .ok (Value.nilFunc) w
 tU:P.underlying 295=some (TypeDesc.int IntKind.u64)
 aU:∀w,(isAgg 295).run P w= .ok false w
 zU:∀w,(Go.sizeOf 295).run P w= .ok 1 w
 vU:∀w,(zeroValue 295).run P w= .ok (Value.int IntKind.u64 0) w
 aE:∀w,(isAgg 38).run P w= .ok true w
 zE:∀w,(Go.sizeOf 38).run P w= .ok k w
theorem sty_here:STy prog 8:=⟨zj,underlying0,isAgg0,sizeOf0,zeroValue0,underlying3,isAgg3,sizeOf3,zeroValue3,underlying4,isAgg4,sizeOf4,zeroValue4,underlying32,isAgg32,sizeOf32,zeroValue32,underlying210,isAgg210,sizeOf210,zeroValue210,underlying295,isAgg295,sizeOf295,zeroValue295,isAgg38,sizeOf38⟩
theorem swapRange_open {α:Type} [Inhabited α] (k:Nat) (L:STy P k) (hF:P.funcs[(307:Nat)]? =some f307) (enc:α->List Value) (blk off cap a b n:Nat) (d0 d:Array α) (w0 w:World) (cf:Value)
  (R:RowK enc k w0 blk off d0) (hs:d0.size=d.size) (S:SWK enc k w0 blk off d w) (hab:a+n<=b) (hb:b+n<=d.size) (hsz:d.size<4611686018427387904):
  Calls P 307 #[.slice (some ⟨blk,off,none⟩) d.size cap,.int .i64 a,.int .i64 b,.int .i64 n,cf] w fun e w'=>e= .returned (.tuple #[])/\∃d',Exch d d' a b n/\SWK enc k w0 blk off d' w':=by
 have mixed:=L.mixed;have t0:=L.t0;have a0:=L.a0;have z0:=L.z0;have v0:=L.v0;have t3:=L.t3;have a3:=L.a3;have z3:=L.z3;have v3:=L.v3;have t4:=L.t4;have a4:=L.a4;have z4:=L.z4;have v4:=L.v4;have tS:=L.tS;have aS:=L.aS;have zS:=L.zS;have vS:=L.vS;have tC:=L.tC;have aC:=L.aC;have zC:=L.zC;have vC:=L.vC;have tU:=L.tU;have aU:=L.aU;have zU:=L.zU;have vU:=L.vU;have aE:=L.aE;have zE:=L.zE
 have S0:Aside (SWK enc k w0 blk off d w):=S
 clear S
 go_enter hF,ntmps307
 go_wp2
 go_loopg [10] n (fun kx s10 wr=>∃(i:Nat) (dk:Array α),s10= .int .i64 i/\i<=n/\n - i<=kx/\Aside (Exch d dk a b i)/\Aside (SWK enc k w0 blk off dk wr))
 case atStart=>exact ⟨0,d,rfl,js _,jj _,Exch.zero d a b,S0⟩
 case round=>
  clear S0
  obtain ⟨i,dk,rfl,hi,hkx,EX,S1⟩:=hrel
  have hds:dk.size=d.size:=EX.o.size
  by_cases hlt:i<n
  ·have hltz:(i:Int)<(n:Int):=by omega
   go_wp2_with fail
   have ea:((a:Int)+(i:Int)).toNat=a+i:=zi
   have pa:(0:Int)<=(a:Int)+(i:Int):=zi
   have ba:(a:Int)+(i:Int)<(d.size:Int):=zi
   have ra:IntKind.i64.wrap ((a:Int)+(i:Int))=(a:Int)+(i:Int):=zq
   have ec:((b:Int)+(i:Int)).toNat=b+i:=zi
   have pc:(0:Int)<=(b:Int)+(i:Int):=zi
   have bc:(b:Int)+(i:Int)<(d.size:Int):=zi
   have rc:IntKind.i64.wrap ((b:Int)+(i:Int))=(b:Int)+(i:Int):=zq
   have S2:Aside (SWK enc k w0 blk off (swp dk (a+i) (b+i)) ((wr.drew.setCells blk (off+(a+i)*k) (enc dk[b+i]!)).setCells blk (off+(b+i)*k) (enc dk[a+i]!))):=S1.o.swapped R (a+i) (b+i) zi zi
   have la:=S1.o.ld1 R zi P (a+i) zi
   have lb:=S1.o.ld1 R zi P (b+i) zi
   have sa:=S1.o.st1 R zi P (a+i) zi dk[b+i]!
   have sb:=S1.o.st2 R zi P (a+i) (b+i) zi zi dk[b+i]! dk[a+i]!
   have na:(enc dk[a+i]!).length=k:=R.hk _
   have nb:(enc dk[b+i]!).length=k:=R.hk _
   generalize enc dk[a+i]! =cI at S2 la sb na
   generalize enc dk[b+i]! =cJ at S2 lb sa sb nb
   clear S1
   go_big_region_o
   clear la lb sa sb
   generalize (wr.drew.setCells blk (off+(a+i)*k) cJ).setCells blk (off+(b+i)*k) cI=w2 at S2 |-
   go_wp2
   go_roundg (n - (i+1))
   case measure=>omega
   case rel=>exact ⟨i+1,swp dk (a+i) (b+i),zw,zi,jj _,EX.o.next zi zi,S2⟩
  have hltz:¬(i:Int)<(n:Int):=zi
  go_wp2
  go_end0
  have:i=n:=zi
  subst this
  exact ⟨rfl,dk,EX.o,S1.o⟩
end
section
open Go.Shelf Go.RowKit Go.Lib Go.Sort
theorem rotate_open {α:Type} [Inhabited α] (k:Nat) (L:STy P k) (hF:P.funcs[(307:Nat)]? =some f307) (hG:P.funcs[(281:Nat)]? =some f281) (enc:α->List Value) (blk off cap a m b:Nat) (d0 d:Array α) (w0 w:World) (cf:Value)
  (R:RowK enc k w0 blk off d0) (hs:d0.size=d.size) (S:SWK enc k w0 blk off d w) (ham:a<m) (hmb:m<b) (hb:b<=d.size) (hsz:d.size<4611686018427387904):
  Calls P 281 #[.slice (some ⟨blk,off,none⟩) d.size cap,.int .i64 a,.int .i64 m,.int .i64 b,cf] w fun e w'=>e= .returned (.tuple #[])/\∃d',Rot d d' a m b/\SWK enc k w0 blk off d' w':=by
 have mixed:=L.mixed;have t0:=L.t0;have a0:=L.a0;have z0:=L.z0;have v0:=L.v0;have t3:=L.t3;have a3:=L.a3;have z3:=L.z3;have v3:=L.v3;have t4:=L.t4;have a4:=L.a4;have z4:=L.z4;have v4:=L.v4;have tS:=L.tS;have aS:=L.aS;have zS:=L.zS;have vS:=L.vS;have tC:=L.tC;have aC:=L.aC;have zC:=L.zC;have vC:=L.vC;have tU:=L.tU;have aU:=L.aU;have zU:=L.zU;have vU:=L.vU;have aE:=L.aE;have zE:=L.zE
 have eS:∀args w,(callFunc 307 args).run P w= .ok (.enter 307 args) w:=enters_of hF zj rfl
 have S0:Aside (SWK enc k w0 blk off d w):=S
 clear S
 go_enter hG,ntmps281
 go_wp2
 go_loopg [10,11] (b - a) (fun kx s10 s11 wr=>∃(i j:Nat) (dk:Array α),s10= .int .i64 (i:Int)/\s11= .int .i64 (j:Int)/\0<i/\0<j/\a+i<=m/\m+j<=b/\i+j<=kx/\dk.size=d.size/\Aside (∀d2,Rot dk d2 (m - i) m (m+j)->Rot d d2 a m b)/\Aside (SWK enc k w0 blk off dk wr))
 case atStart=>exact ⟨m - a,b - m,d,xU,xU,zi,zi,zi,zi,zi,rfl,(fun d2 h=>by rw [show m - (m - a)=a by omega,show m+(b - m)=b by omega] at h;exact h),S0⟩
 case round=>
  clear S0
  obtain ⟨i,j,dk,rfl,rfl,hi,hj,him,hjm,hkx,hds,RT,S1⟩:=hrel
  rcases uc i j with hlt | rfl | hgt
  ·have q1:((i:Int) !=(j:Int))=true:=by simp;omega
   have q2:decide ((j:Int)<(i:Int))=false:=zk
   go_wp2_with fail
   have c1:(m:Int) - (i:Int)=((m - i:Nat):Int):=zi
   have c2:(m:Int)+(j:Int) - (i:Int)=((m+j - i:Nat):Int):=zi
   rw [c1,c2,<-hds]
   clear c1 c2
   refine (swapRange_open k L hF enc blk off cap (m - i) (m+j - i) i d0 dk w0 wr cf R zi S1.o zi zi zi).mono ?_
   rintro e w2 ⟨rfl,d1,EX,S2⟩
   have hd1:d1.size=d.size:=by rw [EX.size,hds]
   have RT2:Aside (∀d2,Rot d1 d2 (m - i) m (m+(j - i))->Rot d d2 a m b):=fun d2 h2=>RT.o d2 (Rot.right zi hlt zi EX h2)
   have S3:Aside (SWK enc k w0 blk off d1 w2):=S2
   clear EX S2 S1 RT
   rw [hds]
   go_wp2
   go_roundg (i+(j - i))
   case measure=>omega
   case rel=>exact ⟨i,j - i,d1,rfl,xU,hi,zi,him,zi,jj _,hd1,RT2,S3⟩
  ·have q1:((i:Int) !=(i:Int))=false:=by simp
   go_wp2_with fail
   have c1:(m:Int) - (i:Int)=((m - i:Nat):Int):=zi
   rw [c1,<-hds]
   clear c1
   refine (swapRange_open k L hF enc blk off cap (m - i) m i d0 dk w0 wr cf R zi S1.o zi zi zi).mono ?_
   rintro e w2 ⟨rfl,d1,EX,S2⟩
   have RT2:=RT.o d1 (Rot.both zi zi EX)
   clear EX S1 RT
   go_wp2
   go_end0
   exact ⟨rfl,d1,RT2,S2⟩
  have q1:((i:Int) !=(j:Int))=true:=zk
  have q2:decide ((j:Int)<(i:Int))=true:=zk
  go_wp2_with fail
  have c1:(m:Int) - (i:Int)=((m - i:Nat):Int):=zi
  rw [c1,<-hds]
  clear c1
  refine (swapRange_open k L hF enc blk off cap (m - i) m j d0 dk w0 wr cf R zi S1.o zi zi zi).mono ?_
  rintro e w2 ⟨rfl,d1,EX,S2⟩
  have hd1:d1.size=d.size:=by rw [EX.size,hds]
  have RT2:Aside (∀d2,Rot d1 d2 (m - (i - j)) m (m+j)->Rot d d2 a m b):=fun d2 h2=>RT.o d2 (Rot.left zi hgt zi EX h2)
  have S3:Aside (SWK enc k w0 blk off d1 w2):=S2
  clear EX S2 S1 RT
  rw [hds]
  go_wp2
  go_roundg (i - j+j)
  case measure=>omega
  case rel=>exact ⟨i - j,j,d1,xU,rfl,zi,hj,zi,hjm,jj _,hd1,RT2,S3⟩
end
section
open Go.Shelf Go.RowKit Go.Lib Go.Sort
structure SEnv (P:Program) {β:Type} [Inhabited β] (lt:β->β->Bool) (k:Nat) (enc:β×Nat->List Value) (cf:β×Nat->β×Nat->Int) (g:Nat) (w0:World) (blk off:Nat) (d0:Array (β×Nat)):Prop where
 ty:STy P k
 fS:P.funcs[(307:Nat)]? =some f307
 fR:P.funcs[(281:Nat)]? =some f281
 fM:P.funcs[(226:Nat)]? =some f226
 row:RowK enc k w0 blk off d0
 less:∀x y,decide (cf x y<0)=tlt lt x y
 swo:SWO lt
 eg:∀args w,(callFunc g args).run P w= .ok (.enter g args) w
 cmp:CmpLays P g #[] enc k cf blk off d0.size w0
def SymOk (P:Program) {β:Type} [Inhabited β] (lt:β->β->Bool) (k:Nat) (enc:β×Nat->List Value) (g:Nat) (w0:World) (blk off cap a m b:Nat) (d:Array (β×Nat)) (w:World):Prop:=
 Calls P 226 #[.slice (some ⟨blk,off,none⟩) d.size cap,.int .i64 a,.int .i64 m,.int .i64 b,.func (.func g) #[] #[]] w fun e w'=>e= .returned (.tuple #[])/\∃d',(PermIn a b d d'/\SortedIn (slt lt) a b d')/\SWK enc k w0 blk off d' w'
theorem sym_first {β:Type} [Inhabited β] {lt:β->β->Bool} {enc:β×Nat->List Value} {cf:β×Nat->β×Nat->Int} {off:Nat} {d0:Array (β×Nat)} (V:SEnv P lt k enc cf g w0 blk off d0) (cap a m b:Nat) (d:Array (β×Nat)) (w:World)
  (hs:d0.size=d.size) (S:SWK enc k w0 blk off d w) (hr:Runs lt a m b d) (ham:a<m) (hmb:m<b) (hb:b<=d.size) (hsz:d.size<4611686018427387904) (h1:m=a+1):
  SymOk P lt k enc g w0 blk off cap a m b d w:=by
 unfold SymOk
 have L:=V.ty
 have mixed:=L.mixed;have t0:=L.t0;have a0:=L.a0;have z0:=L.z0;have v0:=L.v0;have t3:=L.t3;have a3:=L.a3;have z3:=L.z3;have v3:=L.v3;have t4:=L.t4;have a4:=L.a4;have z4:=L.z4;have v4:=L.v4;have tS:=L.tS;have aS:=L.aS;have zS:=L.zS;have vS:=L.vS;have tC:=L.tC;have aC:=L.aC;have zC:=L.zC;have vC:=L.vC;have tU:=L.tU;have aU:=L.aU;have zU:=L.zU;have vU:=L.vU;have aE:=L.aE;have zE:=L.zE
 have R:=V.row
 have eg:=V.eg
 have CMP:Aside (CmpLays P g #[] enc k cf blk off d0.size w0):=V.cmp
 have LT:Aside (∀x y,decide (cf x y<0)=tlt lt x y):=V.less
 have S0:Aside (SWK enc k w0 blk off d w):=S
 have HR:Aside (Runs lt a m b d):=hr
 clear S hr
 have q0:((m:Int) - (a:Int)==1)=true:=zk
 have H1:Aside (m=a+1):=h1
 clear h1
 go_enter V.fM,ntmps226
 go_wp2
 clear q0
 go_loopg [10,11] (b - m) (fun kx s10 s11 wr=>∃(i j:Nat),s10= .int .i64 (i:Int)/\s11= .int .i64 (j:Int)/\m<=i/\i<=j/\j<=b/\j - i<=kx/\Aside ((m<i->tlt lt d[i - 1]! d[a]! =true)/\(j<b->tlt lt d[j]! d[a]! =false))/\Aside (SWK enc k w0 blk off d wr))
 case atStart=>exact ⟨m,b,rfl,rfl,jj _,zi,jj _,jj _,⟨fun h=>zi,fun h=>zi⟩,S0⟩
 case round=>
  clear S0
  obtain ⟨i,j,rfl,rfl,hi,hij,hj,hkx,ED,S1⟩:=hrel
  by_cases hlt:i<j
  ·have hltz:decide ((i:Int)<(j:Int))=true:=by simp;omega
   go_wp2_with fail
   obtain ⟨h,hh⟩:∃h:Nat,h=(i+j) / 2:=⟨_,rfl⟩
   have hi1:i<=h:=zi
   have hi2:h<j:=zi
   have hz:((i:Int)+(j:Int)) / 2=(h:Int):=zi
   rw [hz]
   clear hz hh
   have ex:((h:Int)).toNat=h:=zi
   have px:(0:Int)<=(h:Int):=zi
   have bdx:(h:Int)<(d.size:Int):=zi
   have rx:IntKind.i64.wrap ((h:Int))=(h:Int):=zq
   have ey:((a:Int)).toNat=a:=zi
   have py:(0:Int)<=(a:Int):=zi
   have bdy:(a:Int)<(d.size:Int):=zi
   have ry:IntKind.i64.wrap ((a:Int))=(a:Int):=zq
   have lx:=S1.o.ld R zi P (h) zi
   have ly:=S1.o.ld R zi P (a) zi
   have hc:=S1.o.cmp CMP.o zi d[h]! d[a]!
   have hl:=LT.o d[h]! d[a]!
   have SG:Aside (∀n os,SWK enc k w0 blk off d (grow (wr.drewN n) os)):=fun n os=>S1.o.grown n os
   generalize cf d[h]! d[a]! =z at hc hl
   have HL:=Lib.hid hl
   clear hl
   simp only [Array.append_empty] at hc
   by_cases hlv:z<0
   ·go_wp2_with fail
    go_quiet_grown (first | (go_at_fn g;refine Calls.grown_of (hc _ _)))
    have S2:Aside (SWK enc k w0 blk off d (grow (wr.drewN nq) osq)):=SG.o nq osq
    have ED2:Aside ((m<h+1->tlt lt d[h+1 - 1]! d[a]! =true)/\(j<b->tlt lt d[j]! d[a]! =false)):=⟨fun _=>by rw [um,<-HL.o];exact decide_eq_true hlv,ED.o.2⟩
    clear lx ly hc SG S1 ED
    generalize grow (wr.drewN nq) osq=w2 at S2 |-
    go_wp2
    go_roundg (j - (h+1))
    case measure=>omega
    case rel=>exact ⟨h+1,j,zw,rfl,zi,zi,hj,jj _,ED2,S2⟩
   go_wp2_with fail
   go_quiet_grown (first | (go_at_fn g;refine Calls.grown_of (hc _ _)))
   have S2:Aside (SWK enc k w0 blk off d (grow (wr.drewN nq) osq)):=SG.o nq osq
   have ED2:Aside ((m<i->tlt lt d[i - 1]! d[a]! =true)/\(h<b->tlt lt d[h]! d[a]! =false)):=⟨ED.o.1,fun _=>by rw [<-HL.o];exact decide_eq_false zi⟩
   clear lx ly hc SG S1 ED
   generalize grow (wr.drewN nq) osq=w2 at S2 |-
   go_wp2
   go_roundg (h - i)
   case measure=>omega
   case rel=>exact ⟨i,h,rfl,rfl,hi,hi1,zi,jj _,ED2,S2⟩
  have hltz:decide ((i:Int)<(j:Int))=false:=zk
  obtain rfl:i=j:=zi
  have EI:=ED
  go_wp2
  clear ED
  go_loopg [13] (i - 1 - a) (fun kx s13 wv=>∃(t:Nat) (dk:Array (β×Nat)),s13= .int .i64 (t:Int)/\a<=t/\t+1<=i/\i - 1 - t<=kx/\dk.size=d.size/\Aside (Rot d dk a (a+1) (t+1))/\Aside (SWK enc k w0 blk off dk wv))
  case atStart=>exact ⟨a,d,rfl,jj _,zi,jj _,rfl,Rot.none d a (a+1) (a+1) zi zi (.inr rfl),S1⟩
  case round=>
   clear S1
   obtain ⟨t,dk,rfl,ht,hti,hkx2,hds,RT,S1⟩:=hrel
   by_cases hlt2:t+1<i
   ·have hltz2:decide ((t:Int)<(i:Int) - 1)=true:=by simp;omega
    go_wp2_with fail
    have ex:((t:Int)).toNat=t:=zi
    have px:(0:Int)<=(t:Int):=zi
    have bdx:(t:Int)<(d.size:Int):=zi
    have rx:IntKind.i64.wrap ((t:Int))=(t:Int):=zq
    have ey:((t:Int)+1).toNat=t+1:=zi
    have py:(0:Int)<=(t:Int)+1:=zi
    have bdy:(t:Int)+1<(d.size:Int):=zi
    have ry:IntKind.i64.wrap ((t:Int)+1)=(t:Int)+1:=zq
    have S2:Aside (SWK enc k w0 blk off (swp dk (t) (t+1)) ((wr.drew.setCells blk (off+(t)*k) (enc dk[t+1]!)).setCells blk (off+(t+1)*k) (enc dk[t]!))):=S1.o.swapped R (t) (t+1) zi zi
    have la:=S1.o.ld1 R zi P (t) zi
    have lb:=S1.o.ld1 R zi P (t+1) zi
    have sa:=S1.o.st1 R zi P (t) zi dk[t+1]!
    have sb:=S1.o.st2 R zi P (t) (t+1) zi zi dk[t+1]! dk[t]!
    have na:(enc dk[t]!).length=k:=R.hk _
    have nb:(enc dk[t+1]!).length=k:=R.hk _
    generalize enc dk[t]! =cI at S2 la sb na
    generalize enc dk[t+1]! =cJ at S2 lb sa sb nb
    clear S1
    go_big_region_o
    clear la lb sa sb
    generalize (wr.drew.setCells blk (off+(t)*k) cJ).setCells blk (off+(t+1)*k) cI=w2 at S2 |-
    go_wp2
    go_roundg (i - 1 - (t+1))
    case measure=>omega
    case rel=>exact ⟨t+1,swp dk t (t+1),zw,zi,zi,jj _,by rw [swp_size];exact hds,RT.o.up ht zi,S2⟩
   have hltz2:decide ((t:Int)<(i:Int) - 1)=false:=zk
   go_wp2
   (try simp only [Exit.inBlock,Exit.then])
   refine bodyPost_ret (results_none rfl _ _ _) rfl ?_
   have ht2:t+1=i:=zi
   have RT2:Rot d dk a (a+1) i:=by rw [<-ht2];exact RT.o
   have h1:=H1.o
   subst h1
   exact ⟨rfl,dk,⟨permIn_mono d dk _ _ _ _ ze hj hb RT2.perm,Runs.first V.swo HR.o hi hj (fun h=>EI.o.1 h) (fun h=>EI.o.2 h) RT2⟩,S1.o⟩
theorem sym_last {β:Type} [Inhabited β] {lt:β->β->Bool} {enc:β×Nat->List Value} {cf:β×Nat->β×Nat->Int} {off:Nat} {d0:Array (β×Nat)} (V:SEnv P lt k enc cf g w0 blk off d0) (cap a m b:Nat) (d:Array (β×Nat)) (w:World)
  (hs:d0.size=d.size) (S:SWK enc k w0 blk off d w) (hr:Runs lt a m b d) (ham:a<m) (hmb:m<b) (hb:b<=d.size) (hsz:d.size<4611686018427387904) (h0:m≠a+1) (h1:b=m+1):
  SymOk P lt k enc g w0 blk off cap a m b d w:=by
 unfold SymOk
 have L:=V.ty
 have mixed:=L.mixed;have t0:=L.t0;have a0:=L.a0;have z0:=L.z0;have v0:=L.v0;have t3:=L.t3;have a3:=L.a3;have z3:=L.z3;have v3:=L.v3;have t4:=L.t4;have a4:=L.a4;have z4:=L.z4;have v4:=L.v4;have tS:=L.tS;have aS:=L.aS;have zS:=L.zS;have vS:=L.vS;have tC:=L.tC;have aC:=L.aC;have zC:=L.zC;have vC:=L.vC;have tU:=L.tU;have aU:=L.aU;have zU:=L.zU;have vU:=L.vU;have aE:=L.aE;have zE:=L.zE
 have R:=V.row
 have eg:=V.eg
 have CMP:Aside (CmpLays P g #[] enc k cf blk off d0.size w0):=V.cmp
 have LT:Aside (∀x y,decide (cf x y<0)=tlt lt x y):=V.less
 have S0:Aside (SWK enc k w0 blk off d w):=S
 have HR:Aside (Runs lt a m b d):=hr
 clear S hr
 have q0:((m:Int) - (a:Int)==1)=false:=zk
 have q1:((b:Int) - (m:Int)==1)=true:=zk
 have H1:Aside (b=m+1):=h1
 clear h0 h1
 go_enter V.fM,ntmps226
 go_wp2
 clear q0 q1
 go_loopg [14,15] (m - a) (fun kx s10 s11 wr=>∃(i j:Nat),s10= .int .i64 (i:Int)/\s11= .int .i64 (j:Int)/\a<=i/\i<=j/\j<=m/\j - i<=kx/\Aside ((a<i->tlt lt d[m]! d[i - 1]! =false)/\(j<m->tlt lt d[m]! d[j]! =true))/\Aside (SWK enc k w0 blk off d wr))
 case atStart=>exact ⟨a,m,rfl,rfl,jj _,zi,jj _,jj _,⟨fun h=>zi,fun h=>zi⟩,S0⟩
 case round=>
  clear S0
  obtain ⟨i,j,rfl,rfl,hi,hij,hj,hkx,ED,S1⟩:=hrel
  by_cases hlt:i<j
  ·have hltz:decide ((i:Int)<(j:Int))=true:=by simp;omega
   go_wp2_with fail
   obtain ⟨h,hh⟩:∃h:Nat,h=(i+j) / 2:=⟨_,rfl⟩
   have hi1:i<=h:=zi
   have hi2:h<j:=zi
   have hz:((i:Int)+(j:Int)) / 2=(h:Int):=zi
   rw [hz]
   clear hz hh
   have ex:((m:Int)).toNat=m:=zi
   have px:(0:Int)<=(m:Int):=zi
   have bdx:(m:Int)<(d.size:Int):=zi
   have rx:IntKind.i64.wrap ((m:Int))=(m:Int):=zq
   have ey:((h:Int)).toNat=h:=zi
   have py:(0:Int)<=(h:Int):=zi
   have bdy:(h:Int)<(d.size:Int):=zi
   have ry:IntKind.i64.wrap ((h:Int))=(h:Int):=zq
   have lx:=S1.o.ld R zi P (m) zi
   have ly:=S1.o.ld R zi P (h) zi
   have hc:=S1.o.cmp CMP.o zi d[m]! d[h]!
   have hl:=LT.o d[m]! d[h]!
   have SG:Aside (∀n os,SWK enc k w0 blk off d (grow (wr.drewN n) os)):=fun n os=>S1.o.grown n os
   generalize cf d[m]! d[h]! =z at hc hl
   have HL:=Lib.hid hl
   clear hl
   simp only [Array.append_empty] at hc
   by_cases hlv:z<0
   ·go_wp2_with fail
    go_quiet_grown (first | (go_at_fn g;refine Calls.grown_of (hc _ _)))
    have S2:Aside (SWK enc k w0 blk off d (grow (wr.drewN nq) osq)):=SG.o nq osq
    have ED2:Aside ((a<i->tlt lt d[m]! d[i - 1]! =false)/\(h<m->tlt lt d[m]! d[h]! =true)):=⟨ED.o.1,fun _=>by rw [<-HL.o];exact decide_eq_true hlv⟩
    clear lx ly hc SG S1 ED
    generalize grow (wr.drewN nq) osq=w2 at S2 |-
    go_wp2
    go_roundg (h - i)
    case measure=>omega
    case rel=>exact ⟨i,h,rfl,rfl,hi,hi1,zi,jj _,ED2,S2⟩
   go_wp2_with fail
   go_quiet_grown (first | (go_at_fn g;refine Calls.grown_of (hc _ _)))
   have S2:Aside (SWK enc k w0 blk off d (grow (wr.drewN nq) osq)):=SG.o nq osq
   have ED2:Aside ((a<h+1->tlt lt d[m]! d[h+1 - 1]! =false)/\(j<m->tlt lt d[m]! d[j]! =true)):=⟨fun _=>by rw [um,<-HL.o];exact decide_eq_false zi,ED.o.2⟩
   clear lx ly hc SG S1 ED
   generalize grow (wr.drewN nq) osq=w2 at S2 |-
   have hd:(!decide (z<0))=true:=qj
   go_wp2
   go_roundg (j - (h+1))
   case measure=>omega
   case rel=>exact ⟨h+1,j,zw,rfl,zi,zi,hj,jj _,ED2,S2⟩
   rename_i hx
   exact Bool.noConfusion (hd.symm.trans hx)
  have hltz:decide ((i:Int)<(j:Int))=false:=zk
  obtain rfl:i=j:=zi
  have EI:=ED
  go_wp2
  clear ED
  go_loopg [17] (m - i) (fun kx s17 wv=>∃(t:Nat) (dk:Array (β×Nat)),s17= .int .i64 (t:Int)/\i<=t/\t<=m/\t - i<=kx/\dk.size=d.size/\Aside (Rot d dk t m (m+1))/\Aside (SWK enc k w0 blk off dk wv))
  case atStart=>exact ⟨m,d,rfl,hj,jj _,jj _,rfl,Rot.none d m m (m+1) zi zi (.inl rfl),S1⟩
  case round=>
   clear S1
   obtain ⟨t,dk,rfl,ht,htm,hkx2,hds,RT,S1⟩:=hrel
   by_cases hlt2:i<t
   ·obtain ⟨t',rfl⟩:∃t',t=t'+1:=⟨t - 1,zi⟩
    have hltz2:decide ((i:Int)<((t'+1:Nat):Int))=true:=zk
    have hltz3:decide ((i:Int)<(t':Int)+1)=true:=zk
    go_wp2_with fail
    have ex:((t':Int)+1).toNat=t'+1:=zi
    have px:(0:Int)<=(t':Int)+1:=zi
    have bdx:(t':Int)+1<(d.size:Int):=zi
    have rx:IntKind.i64.wrap ((t':Int)+1)=(t':Int)+1:=zq
    have ey:((t':Int)).toNat=t':=zi
    have py:(0:Int)<=(t':Int):=zi
    have bdy:(t':Int)<(d.size:Int):=zi
    have ry:IntKind.i64.wrap ((t':Int))=(t':Int):=zq
    have S2:Aside (SWK enc k w0 blk off (swp dk (t'+1) (t')) ((wr.drew.setCells blk (off+(t'+1)*k) (enc dk[t']!)).setCells blk (off+(t')*k) (enc dk[t'+1]!))):=S1.o.swapped R (t'+1) (t') zi zi
    have la:=S1.o.ld1 R zi P (t'+1) zi
    have lb:=S1.o.ld1 R zi P (t') zi
    have sa:=S1.o.st1 R zi P (t'+1) zi dk[t']!
    have sb:=S1.o.st2 R zi P (t'+1) (t') zi zi dk[t']! dk[t'+1]!
    have na:(enc dk[t'+1]!).length=k:=R.hk _
    have nb:(enc dk[t']!).length=k:=R.hk _
    generalize enc dk[t'+1]! =cI at S2 la sb na
    generalize enc dk[t']! =cJ at S2 lb sa sb nb
    clear S1
    go_big_region_o
    clear la lb sa sb
    generalize (wr.drew.setCells blk (off+(t'+1)*k) cJ).setCells blk (off+(t')*k) cI=w2 at S2 |-
    go_wp2
    go_roundg (t' - i)
    case measure=>omega
    case rel=>exact ⟨t',swp dk (t'+1) t',by first | rfl | go_num | (congr 1;omega),zi,zi,jj _,by rw [swp_size];exact hds,RT.o.down zi zi,S2⟩
   have hltz2:decide ((i:Int)<(t:Int))=false:=zk
   go_wp2
   (try simp only [Exit.inBlock,Exit.then])
   refine bodyPost_ret (results_none rfl _ _ _) rfl ?_
   have ht2:t=i:=zi
   have RT2:Rot d dk i m (m+1):=by rw [<-ht2];exact RT.o
   have h1:=H1.o
   subst h1
   exact ⟨rfl,dk,⟨permIn_mono d dk _ _ _ _ hi ze hb RT2.perm,Runs.last V.swo HR.o hi hj (fun h=>EI.o.1 h) (fun h=>EI.o.2 h) RT2⟩,S1.o⟩
end
section
open Go.RowKit
structure But (pb:Nat) (w w':World):Prop where
 os:w'.os=w.os
 tape:w'.tape=w.tape
 output:w'.output=w.output
 size:w.heap.size<=w'.heap.size
 block:∀k,k<w.heap.size->k≠pb->w'.heap[k]? =w.heap[k]?
theorem But.of_below (h:Below w.heap.size w w'):But pb w w':=⟨h.os,h.tape,h.output,h.size,fun k hk _=>h.block k hk⟩
theorem But.below (h:But pb w w') (hp:pb<w.heap.size):Below pb w w':=⟨h.os,h.tape,h.output,h.size,fun k hk=>h.block k zi zi⟩
theorem But.later (h:But pb w w1) (hb:Below w1.heap.size w1 w'):But pb w w':=
 ⟨hb.os.trans h.os,hb.tape.trans h.tape,hb.output.trans h.output,jw h.size hb.size,fun k hk hn=>(hb.block k (jE hk h.size)).trans (h.block k hk hn)⟩
theorem But.setCell {pb o:Nat} {w w1:World} (h:But pb w w1) (v:Value):But pb w (w1.setCell ⟨pb,o,none⟩ v):=by
 have hb:Below 0 w1 (w1.setCell ⟨pb,o,none⟩ v):=(jo 0 w1).setCell (js _) v
 exact ⟨hb.os.trans h.os,hb.tape.trans h.tape,hb.output.trans h.output,jw h.size hb.size,fun k hk hn=>(Below.heap_setCell w1 ⟨pb,o,none⟩ v k hn).trans (h.block k hk hn)⟩
theorem new_ok (b:Int) (w:World) (h3:0<=b) (h4:b<4):
  Calls prog 45 #[.int .i64 b] w fun e w'=>e= .returned (.tuple #[.pointer (some ⟨w.heap.size,0,none⟩),.nilIface])/\w'=w.alloc (.cells #[.int .i64 0,.int .i64 b] 61):=by
 go_enter func45,ntmps45
 go_wp2
 go_ret2
 exact ⟨rfl,rfl⟩
structure Clk (pb:Nat) (T b:Int) (w:World):Prop where
 t:w.cell? ⟨pb,0,none⟩=some (.int .i64 T)
 b:w.cell? ⟨pb,1,none⟩=some (.int .i64 b)
 f:w.frozen? ⟨pb,0,none⟩=false
theorem Clk.lt {b:Int} (h:Clk pb T b w):pb<w.heap.size:=jl w ⟨pb,0,none⟩ h.t
theorem Clk.later {b:Int} (h:Clk pb T b w) (hb:Below w.heap.size w w'):Clk pb T b w':=
 ⟨cell_later hb h.t,cell_later hb h.b,(hb.frozen (p:=⟨pb,0,none⟩) h.lt).trans h.f⟩
theorem Clk.set {b:Int} (h:Clk pb T b w) (T':Int):Clk pb T' b (w.setCell ⟨pb,0,none⟩ (.int .i64 T')):=
 ⟨World.cell?_setCell_same _ _ _ h.t,(World.cell?_setCell_other _ _ _ _ zm).trans h.b,by rw [World.frozen?_setCell];exact h.f⟩
theorem tick_full (pb:Nat) (T c:Int) (w:World) (eb:Value) (hg:w.cell? ⟨1,0,none⟩=some eb) (hC:Clk pb T c w) (hT:1073741824<=T):
  Calls prog 216 #[.pointer (some ⟨pb,0,none⟩)] w fun e w'=>e= .returned (.tuple #[.agg #[.int .i64 0,.int .i64 0],eb])/\Below w.heap.size w w':=by
 obtain ⟨k0,k1,kf⟩:=hC
 have hz:1<w.heap.size:=jl w ⟨1,0,none⟩ hg
 have hp:pb<w.heap.size:=jl w ⟨pb,0,none⟩ k0
 go_enter func216,ntmps216
 go_wp2
 go_region
 all_goals try go_wp2
 exact bodyPost_ret (v:=.tuple #[.agg #[.int .i64 0,.int .i64 0],eb]) xQ rfl ⟨rfl,(zg _ _).drew⟩
theorem tick_ok (pb:Nat) (T c:Int) (w:World) (hC:Clk pb T c w) (h0:0<=T) (hT:T<1073741824):
  Calls prog 216 #[.pointer (some ⟨pb,0,none⟩)] w fun e w'=>e= .returned (.tuple #[.agg #[.int .i64 (T+1),.int .i64 c],.nilIface])/\But pb w w'/\Clk pb (T+1) c w':=by
 obtain ⟨k0,k1,kf⟩:=hC
 have hp:pb<w.heap.size:=jl w ⟨pb,0,none⟩ k0
 go_enter func216,ntmps216
 go_wp2
 exact bodyPost_ret (v:=.tuple #[.agg #[.int .i64 (T+1),.int .i64 c],.nilIface]) xQ rfl
  ⟨rfl,((But.of_below (jo _ _)).setCell _).later (zg _ _),(Clk.set (T:=T) ⟨k0,k1,kf⟩ (T+1)).later (zg _ _)⟩
