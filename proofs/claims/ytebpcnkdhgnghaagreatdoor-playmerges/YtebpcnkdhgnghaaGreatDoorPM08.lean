import Derived.Test.YtebpcnkdhgnghaaGreatDoorHeldTk
import Derived.Test.YtebpcnkdhgnghaaGreatDoorPM01
import Derived.Test.YtebpcnkdhgnghaaGreatDoorPM02
import Derived.Test.YtebpcnkdhgnghaaGreatDoorPM03
import Derived.Test.YtebpcnkdhgnghaaGreatDoorPM04
import Derived.Shelf.SlSortCmp.NoneTotal
import Derived.Laws.Cover1
import Derived.Shelf.Sort.Plain
import Derived.Shelf.Slices.In.SortNone
import Derived.Deep.RegionHeld3
set_option linter.unusedSimpArgs false
set_option linter.unusedVariables false
set_option maxRecDepth 100000
set_option maxHeartbeats 64000000
section
namespace Go.Proofs.YtebpcnkdhgnghaaGreatDoor
open Go.Proofs.Tryz
open Go.Shelf Go.RowKit Go.Lib Go.Sort
variable {g:Nat} {w:World}
def Jz (a b:List UInt8):Int:=if a<b then -1 else if b<a then 1 else 0
def orZ (a b:Int):Int:=if a=0 then b else a
def MZ (x y:Mrk):Int:=orZ (nw x.1 y.1) (Jz x.2.1.data.toList y.2.1.data.toList)
theorem ir (x y:Mrk):ltOf MZ x y=decide (KLt (io x) (io y)):=by
 unfold ltOf MZ orZ nw;by_cases h1:x.1<y.1
 ·simp [h1]
 rw [if_neg h1];by_cases h2:y.1<x.1
 ·have h3:x.1≠y.1:=by omega
  simp [h1,h2,h3]
 have h3:x.1=y.1:=zj;rw [if_neg h2,if_pos rfl];unfold Jz;by_cases h4:x.2.1.data.toList<y.2.1.data.toList
 ·simp [h3,h4]
 rw [if_neg h4];by_cases h5:y.2.1.data.toList<x.2.1.data.toList<;>simp [h3,h4,h5]
theorem IZ:SWO (ltOf MZ) where
 irrefl x:=by rw [ir];exact decide_eq_false eo
 trans x y z h1 h2:=by
  rw [ir] at*;exact decide_eq_true (gh (of_decide_eq_true h1) (of_decide_eq_true h2))
 ntrans x y z h1 h2:=by
  rw [ir] at*;have k1:=of_decide_eq_false h1;have k2:=of_decide_eq_false h2
  refine decide_eq_false fun h=> ?_
  by_cases e:io x=io y
  ·rw [e] at h;exact k2 h
  rcases mC e with q | q
  ·exact k1 q
  exact k2 (gh q h)
def bL (m:Mrk):List Value:=[.int .i64 m.1,.string m.2.1,.string m.2.2]
theorem Og (a:ByteArray) (w:World):Calls prog 176 #[.string a] w fun e w'=>e= .returned (.bool false)/\w'=w:=by
 go_enter func176,ntmps176;go_wp2;go_ret;exact ⟨zt,rfl⟩
theorem IM (a b:ByteArray) (w:World):Calls prog 108 #[.string a,.string b] w fun e w'=>e= .returned (.int .i64 (Jz a.data.toList b.data.toList))/\w'=w:=by
 unfold Jz;by_cases h1:a.data.toList<b.data.toList
 ·have d1:Op.bytesLess a.toList b.toList=true:=(gZ _ _).trans <| decide_eq_true h1
  rw [if_pos h1];exact kf0
 have d1:Op.bytesLess a.toList b.toList=false:=(gZ _ _).trans <| decide_eq_false h1
 rw [if_neg h1];by_cases h2:b.data.toList<a.data.toList
 ·have d2:(a.toList==b.toList)=false:=by
   rw [uy,uy];exact beq_false_of_ne (fun e=>by rw [e] at h2;exact List.lt_irrefl _ h2)
  rw [if_pos h2];exact kf0
 have d2:(a.toList==b.toList)=true:=by
  rw [uy,uy];by_cases e:a.data.toList=b.data.toList
  ·rw [e];simp
  rcases nV e with q | q
  ·exact absurd q h1
  exact absurd q h2
 rw [if_neg h2];exact kf0
theorem MO (w:World) (g:Nat) (a b:Int) (h0:w.cell? ⟨g,0,none⟩=some (.int .i64 a)) (h1:w.cell? ⟨g,1,none⟩=some (.int .i64 b)):
  Calls prog 107 #[.slice (some ⟨g,0,none⟩) 2 2] w fun e w'=>e= .returned (.int .i64 (orZ a b))/\w'=w:=by
 unfold orZ;by_cases ha:a=0
 ·rw [if_pos ha]
  have da:(a !=0)=false:=by simp [ha]
  clear ha;by_cases hb:b=0
  ·have db:(b !=0)=false:=by simp [hb]
   have HB:=Lib.hid hb;clear hb;go_enter func107,ntmps107;go_wp2;refine wp_loop_rounds 3 ?_;rw [rounds_succ];go_wp2;rw [rounds_succ];go_wp2;rw [rounds_succ];go_wp2;go_ret;exact ⟨by rw [HB.o];rfl,rfl⟩
  have db:(b !=0)=true:=by simp [hb]
  clear hb;go_enter func107,ntmps107;go_wp2;refine wp_loop_rounds 2 ?_;rw [rounds_succ];go_wp2;rw [rounds_succ];exact kb3
 rw [if_neg ha]
 have da:(a !=0)=true:=by simp [ha]
 clear ha;go_enter func107,ntmps107;go_wp2;refine wp_loop_rounds 1 ?_;rw [rounds_succ];exact kb3
theorem Hv (x y:Mrk) (w:World):Calls prog 106 (#[.agg (bL x).toArray,.agg (bL y).toArray]++ #[]) w fun e w'=>e= .returned (.int .i64 (MZ x y))/\∃q os',w'=grow (w.drewN q) os':=by
 obtain ⟨a,s,c⟩:=x;obtain ⟨a',s',c'⟩:=y;unfold bL;dsimp only;obtain ⟨S,hS⟩:=zc w.heap.size;obtain ⟨U,hU⟩:=zc ((w.alloc (.cells #[.int .i64 a,.string s,.string c] 128)).alloc (.cells #[.int .i64 a',.string s',.string c'] 128))
 have hu1:U.heap[S+1]? =some (.cells #[.int .i64 a',.string s',.string c'] 128 (0,0)):=by
  have:=heap_alloc_new (w.alloc (.cells #[.int .i64 a,.string s,.string c] 128)) (.cells #[.int .i64 a',.string s',.string c'] 128);rw [uD] at this;rw [hU,hS];exact this
 have hu0:U.heap[S]? =some (.cells #[.int .i64 a,.string s,.string c] 128 (0,0)):=by
  exact kh3
 have x0:U.drew.cell? ⟨S,0,none⟩=some (.int .i64 a):=vj;have x1:U.drew.cell? ⟨S,1,none⟩=some (.string s):=vj;have y0:U.drew.cell? ⟨S+1,0,none⟩=some (.int .i64 a'):=vh;have y1:U.drew.cell? ⟨S+1,1,none⟩=some (.string s'):=vh
 have HX:Aside (U.drew.cell? ⟨S,0,none⟩=some (.int .i64 a)/\U.drew.cell? ⟨S,1,none⟩=some (.string s)/\U.drew.cell? ⟨S+1,0,none⟩=some (.int .i64 a')/\U.drew.cell? ⟨S+1,1,none⟩=some (.string s')):=⟨x0,x1,y0,y1⟩
 have HU:Aside (∃os,U=grow w os):=⟨_,by rw [hU,alloc_eq_grow,alloc_eq_grow,grow_grow]⟩
 clear hu0 hu1 x0 x1 y0 y1;go_enter func106,ntmps106;go_wp2_with fail;rw [<-hU,<-hS];clear hU hS;refine aL (S:=fun w'=>w'.cell? ⟨S,0,none⟩=some (.int .i64 a)/\w'.cell? ⟨S,1,none⟩=some (.string s)/\w'.cell? ⟨S+1,0,none⟩=some (.int .i64 a')/\w'.cell? ⟨S+1,1,none⟩=some (.string s')) zo HX.o (fun hHeld=> ?_);refine tk 0 hHeld ?_ (hy:=Or.inl ⟨zv,zG⟩);refine tk 1 hHeld ?_ (hy:=Or.inl ⟨zv,zG⟩);refine tk 2 hHeld ?_ (hy:=Or.inl ⟨zv,zG⟩);refine tk 3 hHeld ?_ (hy:=Or.inl ⟨zv,zG⟩);refine tk 5 hHeld ?_ (hy:=Or.inl ⟨zv,zG⟩);refine tk 6 hHeld ?_ (hy:=Or.inl ⟨zv,zG⟩);refine tk 7 hHeld ?_ (hy:=Or.inl ⟨zv,zG⟩);refine tk 8 hHeld ?_ (hy:=Or.inl ⟨zv,zG⟩);refine aW (i:=4) zo rfl (fun K hK=> ?_);go_simp;refine (oL _ _ _).mono ?_;rintro e w1 ⟨rfl,rfl⟩;refine hK _ _ HX.o ?_;clear hK K;refine qn ?_;refine aW (i:=9) zo rfl (fun K hK=> ?_);go_simp;refine (IM _ _ _).mono ?_;rintro e w1 ⟨rfl,rfl⟩;refine hK _ _ HX.o ?_;clear hK K;refine qn ?_;refine aW (i:=10) zo rfl (fun K hK=> ?_);go_simp;obtain ⟨V,hV⟩:=zc ((U.alloc (.cells #[.int .i64 (nw a a'),.int .i64 (Jz s.data.toList s'.data.toList)] 3)).drew)
 have hbV:Below U.drew.heap.size U.drew V:=by rw [hV];exact ⟨rfl,rfl,rfl,((vG U.heap.size U).alloc zg _).size,((vG U.heap.size U).alloc zg (.cells #[.int .i64 (nw a a'),.int .i64 (Jz s.data.toList s'.data.toList)] 3)).block⟩
 have hVn:V.heap[U.heap.size]? =some (.cells #[.int .i64 (nw a a'),.int .i64 (Jz s.data.toList s'.data.toList)] 3 (0,0)):=by rw [hV];exact heap_alloc_new U _
 have HV:Aside (∃q os',V=grow (w.drewN q) os'):=by
  obtain ⟨os,rfl⟩:=HU.o;exact ⟨1,_,by rw [hV,alloc_eq_grow,grow_grow];rfl⟩
 have g0:V.cell? ⟨U.heap.size,0,none⟩=some (.int .i64 (nw a a')):=by simp [World.cell?,hVn]
 have g1:V.cell? ⟨U.heap.size,1,none⟩=some (.int .i64 (Jz s.data.toList s'.data.toList)):=by simp [World.cell?,hVn]
 rw [<-hV]
 have HY:Aside (V.cell? ⟨S,0,none⟩=some (.int .i64 a)/\V.cell? ⟨S,1,none⟩=some (.string s)/\V.cell? ⟨S+1,0,none⟩=some (.int .i64 a')/\V.cell? ⟨S+1,1,none⟩=some (.string s')):=⟨cv hbV HX.o.1,cv hbV HX.o.2.1,cv hbV HX.o.2.2.1,cv hbV HX.o.2.2.2⟩
 refine hK _ _ HY.o ?_;clear hK K hV hbV hVn;refine qn ?_;refine aW (i:=11) zo rfl (fun K hK=> ?_);go_simp;refine (MO V _ _ _ g0 g1).mono ?_;rintro e w1 ⟨rfl,rfl⟩;refine hK _ _ HY.o ?_;clear hK K;refine qn ?_;refine aW (i:=12) zo rfl (fun K hK=> ?_);go_simp;refine hK _ _ HY.o ?_;clear hK K;refine wpAnyH_done zo ?_ _;clear hHeld;go_wp2;go_ret;exact ⟨rfl,HV.o⟩
theorem FU (blk off size:Nat) (w:World):CmpLays prog 106 #[] bL 3 MZ blk off size w:=fun _ _ _ _ x y=>Hv x y _
theorem Kq:∀args w,(callFunc 106 args).run prog w= .ok (.enter 106 args) w:=enters_of func106 zo rfl
theorem dW (x:Mrk):(bL x).length=3:=rfl
theorem nS (x:Mrk):∀v∈bL x,v.oneCell'=true:=by
 intro v hv;simp only [bL,vJ,Zr,or_false] at hv;exact kn6
theorem kA (w:World) (g n:Nat) (d:Array Mrk) (os:Array Obj):Keeps (fun k=>k=g) w (sortWorldK bL 3 w g 0 n d os):=by
 refine ⟨rfl,rfl,rfl,?_,fun k hk hs=> ?_⟩
 ·exact kl9
 exact kd9
theorem Mu {base cap n:Nat} {ps:List Mrk} (h:w.ownsRow base 128 3 (.slice (some ⟨g,0,none⟩) n cap) n (aI bL ps)) (hn:n=ps.length):HoldsK bL 3 w g 0 ps.toArray:=fun j hj=>by
 rw [size_flatK] at hj;simp only [uq] at hj;have h1:j / 3<ps.length:=zj;have h2:j / 3*3+j % 3=j:=zj;refine ⟨?_,yX⟩;rw [vQ,h.cellAt j zj,get_flatK _ _ _ _ yC];have:=cX (enc:=bL) dW (L:=ps) (i:=j / 3) (c:=j % 3) (x:=ps[j / 3]) (vF h1) zj;rw [h2] at this;rw [this,getElem!_pos ps.toArray (j / 3) xp,Zq,vF qO,getElem!_pos _ (j % 3) qO];rfl
theorem rh {d:Array Mrk} (h:HoldsK bL 3 w g 0 d) (j:Nat) (u:Value) (hj:(aI bL d.toList)[j]? =some u):w.cell? ⟨g,j,none⟩=some u:=by
 have hl:=(vA.1 hj).1;rw [bX dW,uv] at hl;have h1:j / 3<d.size:=zj;have h2:j / 3*3+j % 3=j:=zj;have H:=(h j qR).1;rw [vQ,get_flatK _ _ _ _ zj] at H;have:=cX (enc:=bL) dW (L:=d.toList) (i:=j / 3) (c:=j % 3) (x:=d[j / 3]) (by rw [Array.getElem?_toList,Zy h1]) zj;rw [h2,hj,vF qO] at this;rw [H,getElem!_pos d (j / 3) h1,getElem!_pos _ (j % 3) qO,this];rfl
theorem Mp (w:World) (base g cap:Nat) (ps:List Mrk) (hown:w.ownsRow base 128 3 (.slice (some ⟨g,0,none⟩) ps.length cap) ps.length (aI bL ps)) (hl:ps.length<=100000):
  Calls prog 105 #[.slice (some ⟨g,0,none⟩) ps.length cap,.func (.func 106) #[] #[]] w fun e w'=>e= .returned (.tuple #[])/\∃qs:List Mrk,qs.Perm ps/\qs.Pairwise (fun a b=>¬KLt (io b) (io a))/\(∀j u,(aI bL qs)[j]? =some u->w'.cell? ⟨g,j,none⟩=some u)/\Keeps (fun k=>k=g) w w':=by
 have hH:=Mu hown rfl;have hblk:g<w.heap.size:=(hown.lt g rfl).2;have h:=AnyQ.slices_SortFunc ro 3 isAgg128 sizeOf128 bL dW nS MZ IZ 106 #[] g 0 cap ps.toArray w Kq (FU g 0 ps.toArray.size w) hH hblk zq;refine Calls.mono h ?_;rintro e w' ⟨rfl,d',n,os,hp,hs,rfl⟩;simp only [uq] at hp hs;have hsz:d'.size=ps.length:=xR
 have hperm:d'.toList.Perm ps:=by
  exact kc9
 refine ⟨rfl,d'.toList,hperm,?_,?_,kA w g n d' os⟩
 ·rw [ub];intro i j hi hj hij;have hi':i<d'.size:=qF;have hj':j<d'.size:=yC;have:=hs i j (vM _) hij zj;rw [ir,getElem!_pos d' i hi',getElem!_pos d' j hj'] at this;have:=of_decide_eq_false this;exact kp3
 exact rh ((show SWK bL 3 w g 0 d' _ from ⟨n,os,rfl⟩).holds hblk hH (by rw [hsz];simp))
theorem wK (p:Option Addr) (cap:Nat) (fv:Value) (w:World):Calls prog 105 #[.slice p 0 cap,fv] w fun e w'=>e= .returned (.tuple #[])/\w'=w:=
 AnyF.slices_SortFunc_none ro p cap fv w
end Go.Proofs.YtebpcnkdhgnghaaGreatDoor
end
section
namespace Go.Proofs.YtebpcnkdhgnghaaGreatDoor
open Go.Proofs.Tryz
open Go.Shelf Go.RowKit Go.Lib Go.Sort
variable {g:Nat} {w:World}
def Lu (x y:OpX):Int:=nw x.2.2.1 y.2.2.1
theorem iK (x y:OpX):ltOf Lu x y=decide (x.2.2.1<y.2.2.1):=by
 unfold ltOf Lu nw;by_cases h1:x.2.2.1<y.2.2.1
 ·simp [h1]
 rw [if_neg h1];by_cases h2:y.2.2.1<x.2.2.1<;>simp [h1,h2]
theorem Hj:SWO (ltOf Lu) where
 irrefl x:=by rw [iK];exact decide_eq_false zj
 trans x y z h1 h2:=by
  rw [iK] at*;have:=of_decide_eq_true h1;have:=of_decide_eq_true h2;exact decide_eq_true zj
 ntrans x y z h1 h2:=by
  rw [iK] at*;have:=of_decide_eq_false h1;have:=of_decide_eq_false h2;exact decide_eq_false zj
theorem Iz (x y:OpX) (w:World):Calls prog 127 (#[.agg (bq x).toArray,.agg (bq y).toArray]++ #[]) w fun e w'=>e= .returned (.int .i64 (Lu x y))/\∃q os',w'=grow (w.drewN q) os':=by
 obtain ⟨t,b,n,k,nd,o,s,v⟩:=x;obtain ⟨t',b',n',k',nd',o',s',v'⟩:=y;unfold bq Lu
 show Calls prog 127 #[.agg #[.int .i64 t,.int .i64 b,.int .i64 n,.int .u8 (k:Int),.int .i64 nd,.int .i64 o,.string s,.string v],.agg #[.int .i64 t',.int .i64 b',.int .i64 n',.int .u8 (k':Int),.int .i64 nd',.int .i64 o',.string s',.string v']] w _
 go_enter func127,ntmps127;go_wp2_with (go_at_call 99;refine (oL _ _ _).mono ?_;rintro e w' ⟨rfl,rfl⟩);go_ret;exact ⟨rfl,0,#[.cells #[.int .i64 t,.int .i64 b,.int .i64 n,.int .u8 (k:Int),.int .i64 nd,.int .i64 o,.string s,.string v] 61]++ #[.cells #[.int .i64 t',.int .i64 b',.int .i64 n',.int .u8 (k':Int),.int .i64 nd',.int .i64 o',.string s',.string v'] 61],jv⟩
theorem Ec (blk off size:Nat) (w:World):CmpLays prog 127 #[] bq 8 Lu blk off size w:=fun _ _ _ _ x y=>Iz x y _
theorem Kl:∀args w,(callFunc 127 args).run prog w= .ok (.enter 127 args) w:=enters_of func127 zo rfl
theorem kB (w:World) (g n:Nat) (d:Array OpX) (os:Array Obj):Keeps (fun k=>k=g) w (sortWorldK bq 8 w g 0 n d os):=by
 refine ⟨rfl,rfl,rfl,?_,fun k hk hs=> ?_⟩
 ·exact kl9
 exact kd9
theorem NQ {base cap n:Nat} {ps:List OpX} (h:w.ownsRow base 61 8 (.slice (some ⟨g,0,none⟩) n cap) n (cellsOf ps)) (hn:n=ps.length):HoldsK bq 8 w g 0 ps.toArray:=fun j hj=>by
 rw [size_flatK] at hj;simp only [uq] at hj;have h1:j / 8<ps.length:=zj;have h2:j / 8*8+j % 8=j:=zj;refine ⟨?_,yX⟩;rw [vQ,h.cellAt j zj,get_flatK _ _ _ _ yC];have:=bd ps (j / 8) (j % 8) h1 zj;rw [h2] at this;rw [this,getElem!_pos ps.toArray (j / 8) xp,Zq,getElem!_pos ps (j / 8) h1];rfl
theorem rf {d:Array OpX} (h:HoldsK bq 8 w g 0 d) (j:Nat) (u:Value) (hj:(cellsOf d.toList)[j]? =some u):w.cell? ⟨g,j,none⟩=some u:=by
 have hl:=(vA.1 hj).1;rw [aD,uv] at hl;have h1:j / 8<d.size:=zj;have h2:j / 8*8+j % 8=j:=zj;have H:=(h j qR).1;rw [vQ,get_flatK _ _ _ _ zj] at H;have:=bd d.toList (j / 8) (j % 8) (by rw [uv];exact h1) zj;rw [h2,hj,getElem!_pos d.toList (j / 8) (by rw [uv];exact h1)] at this;rw [H,getElem!_pos d (j / 8) h1,this];simp
theorem MI (w:World) (base g cap:Nat) (ps:List OpX) (hown:w.ownsRow base 61 8 (.slice (some ⟨g,0,none⟩) ps.length cap) ps.length (cellsOf ps)) (hl:ps.length<=100000):
  Calls prog 191 #[.slice (some ⟨g,0,none⟩) ps.length cap,.func (.func 127) #[] #[]] w fun e w'=>e= .returned (.tuple #[])/\∃qs:List OpX,qs.Perm ps/\qs.Pairwise (fun a b=>a.2.2.1<=b.2.2.1)/\(∀j u,(cellsOf qs)[j]? =some u->w'.cell? ⟨g,j,none⟩=some u)/\Keeps (fun k=>k=g) w w':=by
 have hH:=NQ hown rfl;have hblk:g<w.heap.size:=(hown.lt g rfl).2;have h:=AnyQ.slices_SortFunc Ao 8 isAgg61 sizeOf61 bq gK fP Lu Hj 127 #[] g 0 cap ps.toArray w Kl (Ec g 0 ps.toArray.size w) hH hblk zq;refine Calls.mono h ?_;rintro e w' ⟨rfl,d',n,os,hp,hs,rfl⟩;simp only [uq] at hp hs;have hsz:d'.size=ps.length:=xR
 have hperm:d'.toList.Perm ps:=by
  exact kc9
 refine ⟨rfl,d'.toList,hperm,?_,?_,kB w g n d' os⟩
 ·rw [ub];intro i j hi hj hij;have hi':i<d'.size:=qF;have hj':j<d'.size:=yC;have:=hs i j (vM _) hij zj;rw [iK,getElem!_pos d' i hi',getElem!_pos d' j hj'] at this;have:=of_decide_eq_false this;simp only [Array.getElem_toList];omega
 exact rf ((show SWK bq 8 w g 0 d' _ from ⟨n,os,rfl⟩).holds hblk hH (by rw [hsz];simp))
theorem sh (p:Option Addr) (cap:Nat) (fv:Value) (w:World):Calls prog 191 #[.slice p 0 cap,fv] w fun e w'=>e= .returned (.tuple #[])/\w'=w:=
 AnyF.slices_SortFunc_none Ao p cap fv w
end Go.Proofs.YtebpcnkdhgnghaaGreatDoor
end
section
namespace Go.Proofs.YtebpcnkdhgnghaaGreatDoor
open Go.Proofs.Tryz
open Go Go.Maps
variable {D:DataW Unit} {k:Int} {b n:Nat} {w:World}
abbrev kr:=Int->Option Nat
def noT:kr:=fun _=>none
def mZ (p:Option Nat):Value:=.pointer (p.map fun b=>⟨b,0,none⟩)
def Cd (p:Option Nat):DataW Unit:=match p with
 | none=>.agg []
 | some b=>.agg [.lit (.int .i64 (b:Int))]
theorem AG {p q:Option Nat} (h:Cd p=Cd q):p=q:=by
 cases p<;>cases q<;>simp [Cd] at h |-
 omega
def JB (v:Value):Option (DataW Unit×List MemPlace):=match v with
 | .pointer none=>some (Cd none,[])
 | .pointer (some ⟨b,0,none⟩)=>some (Cd (some b),[])
 | _=>none
theorem tX (p:Option Nat):JB (mZ p)=some (Cd p,[]):=by cases p<;>rfl
theorem nk {v:Value} {z:DataW Unit×List MemPlace} (h:JB v=some z):∃p,v=mZ p/\z=(Cd p,[]):=by
 unfold JB at h;split at h
 ·cases h;exact ⟨none,rfl,rfl⟩
 ·cases h;exact ⟨some _,rfl,rfl⟩
 cases h
def ReadsT (D:DataW Unit) (f:kr):Prop:=∀k,Wf k->match f k with
 | none=>has D (.int .i64 k)=false
 | some p=>∀z,D.atKey (.int .i64 k) z=Cd (some p)
theorem ReadsT.gone {f:kr} (h:ReadsT D f) (hk:Wf k) (hf:f k=none):has D (.int .i64 k)=false:=by
 exact kn0
theorem ReadsT.held {f:kr} (h:ReadsT D f) (hk:Wf k) {p:Nat} (hf:f k=some p) (z:DataW Unit):D.atKey (.int .i64 k) z=Cd (some p):=by
 exact kl8
theorem ReadsT.has {D:DataW Unit} {f:kr} (h:ReadsT D f) {k:Int} (hk:Wf k):Maps.has D (.int .i64 k)=(f k).isSome:=by
 cases hf:f k with
 | none=>rw [h.gone hk hf];rfl
 | some p=>rw [has_true_of_atKey (h.held hk hf)];rfl
theorem ReadsT.at {f:kr} (h:ReadsT D f) (hk:Wf k):D.atKey (.int .i64 k) (Cd none)=Cd (f k):=by
 cases hf:f k with
 | none=>rw [atKey_of_not_has (h.gone hk hf)]
 | some p=>rw [h.held hk hf]
theorem Ac {f:kr} (h:ReadsT D f) (hD:IsMap D) (k:Int) (p:Nat):ReadsT (D.put (.int .i64 k) (Cd (some p))) (fun x=>if x=k then some p else f x):=by
 intro x hx;dsimp only;by_cases e:x=k
 ·subst e;rw [if_pos rfl];exact ko4
 rw [if_neg e]
 cases hf:f x with
 | none=>rw [has_put_other (lf e)];exact h.gone hx hf
 | some q=>intro z;rw [atKey_put_other (lf e)];exact h.held hx hf z
def Ka (f:kr):Prop:=∀k p,f k=some p->Wf k
structure TMapAt (w:World) (b n:Nat) (f:kr):Prop where
 reads:∃D,w.ownsMap prog 3 JB b n D/\ReadsT D f
 good:Ka f
theorem TMapAt.lt {w:World} {b n:Nat} {f:kr} (h:TMapAt w b n f):b<w.heap.size:=by
 obtain ⟨D,h,_⟩:=h.reads;exact h.lt
theorem TMapAt.same {w':World} {f:kr} (h:TMapAt w b n f) (e:w'.heap[b]? =w.heap[b]?):TMapAt w' b n f:=by
 exact km8
theorem wW (w:World):TMapAt (w.alloc (.map #[] 0)) w.heap.size 0 noT:=
 ⟨⟨_,World.ownsMap_made w prog 3 JB,fun _ _=>rfl⟩,fun k p h=>qD⟩
theorem AL (w:World):(zeroValue 124).run prog w= .ok (mZ none) w:=zeroValue124 w
theorem TMapAt.look {f:kr} (h:TMapAt w b n f) (hk:Wf k):
  (Instr.lookup 114 (.map (some b)) (.int .i64 k) true).run prog w= .ok (.tuple #[mZ (f k),.bool (f k).isSome]) w:=by
 obtain ⟨⟨D,h,r⟩,_⟩:=h;obtain ⟨v,ps,hrun,hv⟩:=h.look_ok (int_keyed underlying3) underlying114 (AL w) (tX none) (keyOf_int_mk underlying3 hk);obtain ⟨p,rfl,hp⟩:=nk hv;rw [r.at hk,Prod.mk.injEq] at hp;rw [hrun,r.has hk,AG hp.1]
theorem TMapAt.look1 {f:kr} (h:TMapAt w b n f) (hk:Wf k):
  (Instr.lookup 114 (.map (some b)) (.int .i64 k) false).run prog w= .ok (mZ (f k)) w:=by
 obtain ⟨⟨D,h,r⟩,_⟩:=h;obtain ⟨v,ps,hrun,hv⟩:=h.lookup (int_keyed underlying3) underlying114 (AL w) (tX none) (keyOf_int_mk underlying3 hk);obtain ⟨p,rfl,hp⟩:=nk hv;rw [r.at hk,Prod.mk.injEq] at hp;rw [hrun,AG hp.1]
theorem TMapAt.store {w:World} {b n:Nat} {f:kr} (h:TMapAt w b n f) (hn:n<maxLen) {k:Int} (hk:Wf k) (p:Nat):
  ∃w',(Instr.mapUpdate 114 (.map (some b)) (.int .i64 k) (mZ (some p))).run prog w= .ok () w'/\TMapAt w' b (n+1) (fun x=>if x=k then some p else f x)/\w.mapTurned w' b:=by
 obtain ⟨⟨D,h,r⟩,g⟩:=h;obtain ⟨w',hrun,h',ht⟩:=h.store (int_keyed underlying3) underlying114 hn (keyOf_int_mk underlying3 hk) (tX (some p));refine ⟨w',hrun,⟨⟨_,h',Ac r h.isMap k p⟩,fun x q hx=> ?_⟩,ht⟩;split at hx
 ·rename_i e;rw [e];exact hk
 exact g x q hx
end Go.Proofs.YtebpcnkdhgnghaaGreatDoor
end
section
namespace Go.Proofs
open Go.Proofs.Tryz
open Go.Shelf
def Tryz.lays189_ren:Go.Shelf.Ren:=⟨fun | 189=>101 | 125=>174 | 257=>173 | 128=>235 | 129=>236 | 294=>226 | 295=>227 | 296=>228 | 297=>229 | 298=>230 | 299=>231 | 216=>232 | 300=>233 | 301=>234 | 328=>285 | 329=>286 | 330=>287 | 331=>288 | 332=>289 | 215=>171 | 343=>329 | n=>n,fun | 28=>42 | 3=>3 | 46=>277 | 0=>0 | 51=>342 | 53=>325 | 4=>4 | 183=>336 | 182=>335 | 131=>296 | 5=>5 | 9=>9 | 218=>375 | 222=>379 | 228=>403 | 229=>76 | n=>n,fun | n=>n⟩
theorem Tryz.lays189:Go.Proofs.Lays.n189 prog Tryz.lays189_ren:={
 mixed:=zo
 f125:=func174.trans (congrArg some zo)
 f128:=func235.trans (congrArg some zo)
 f129:=func236.trans (congrArg some zo)
 f189:=func101.trans (congrArg some zo)
 f215:=func171.trans (congrArg some zo)
 f216:=func232.trans (congrArg some zo)
 f257:=func173.trans (congrArg some zo)
 f294:=func226.trans (congrArg some zo)
 f295:=func227.trans (congrArg some zo)
 f296:=func228.trans (congrArg some zo)
 f297:=func229.trans (congrArg some zo)
 f298:=func230.trans (congrArg some zo)
 f299:=func231.trans (congrArg some zo)
 f300:=func233.trans (congrArg some zo)
 f301:=func234.trans (congrArg some zo)
 f328:=func285.trans (congrArg some zo)
 f329:=func286.trans (congrArg some zo)
 f330:=func287.trans (congrArg some zo)
 f331:=func288.trans (congrArg some zo)
 f332:=func289.trans (congrArg some zo)
 f343:=func329.trans (congrArg some zo)
 t0:=underlying0
 a0:=isAgg0
 z0:=sizeOf0
 v0:=zeroValue0
 t3:=underlying3
 a3:=isAgg3
 z3:=sizeOf3
 v3:=zeroValue3
 t4:=underlying4
 a4:=isAgg4
 z4:=sizeOf4
 v4:=zeroValue4
 t5:=underlying5
 a5:=isAgg5
 z5:=sizeOf5
 v5:=zeroValue5
 t9:=underlying9
 a9:=isAgg9
 z9:=sizeOf9
 v9:=zeroValue9
 t28:=underlying42
 a28:=isAgg42
 z28:=sizeOf42
 v28:=zeroValue42
 t46:=underlying277
 a46:=isAgg277
 z46:=sizeOf277
 v46:=zeroValue277
 t51:=underlying342
 a51:=isAgg342
 z51:=sizeOf342
 v51:=zeroValue342
 t53:=underlying325
 a53:=isAgg325
 z53:=sizeOf325
 v53:=zeroValue325
 t131:=underlying296
 a131:=isAgg296
 z131:=sizeOf296
 v131:=zeroValue296
 t182:=underlying335
 a182:=isAgg335
 z182:=sizeOf335
 v182:=zeroValue335
 t183:=underlying336
 a183:=isAgg336
 z183:=sizeOf336
 v183:=zeroValue336
 t218:=underlying375
 a218:=isAgg375
 z218:=sizeOf375
 v218:=zeroValue375
 t222:=underlying379
 a222:=isAgg379
 z222:=sizeOf379
 v222:=zeroValue379
 t228:=underlying403
 a228:=isAgg403
 z228:=sizeOf403
 v228:=zeroValue403
 t229:=underlying76
 a229:=isAgg76
 z229:=sizeOf76
 v229:=zeroValue76}
open Go.Sort Go.RowKit in
theorem Tryz.slices_Sort_int (blk off cap:Nat) (zs:List Int) (w:World) (hH:Holds (Value.int .i64) w blk off zs.toArray) (hblk:blk<w.heap.size) (hsz:zs.length<4611686018427387904):
  Calls prog 101 #[.slice (some ⟨blk,off,none⟩) zs.length cap] w fun e w'=>
   e= .returned (.tuple #[])/\∃n os,w'=grow (putRow (Value.int .i64) (Sort.ahead w n) blk off (zs.mergeSort fun x y=>decide (x<=y)).toArray) os:=Any.slices_Sort_int Tryz.lays189 blk off cap zs w hH hblk hsz
open Go.RowKit Go.Sort in
theorem Tryz.slices_Sort_int_none (p:Option Addr) (cap:Nat) (w:World):
  Calls prog 101 #[.slice p 0 cap] w fun e w'=>e= .returned (.tuple #[])/\w'=w:=Any.slices_Sort_int_none Tryz.lays189 p cap w
end Go.Proofs
end
section
namespace Go.Proofs.YtebpcnkdhgnghaaGreatDoor
variable {b n t:Int} {name value:List UInt8} {k:Nat} {x:OpX}
def mq (x:OpX):Nat:=opE x.1 x.2.1 x.2.2.1 x.2.2.2.1 x.2.2.2.2.1 x.2.2.2.2.2.1 x.2.2.2.2.2.2.1.data.toList x.2.2.2.2.2.2.2.data.toList
def Jh (c:Nat):Nat:=if c % 2=1 then (c / 2)^^^3988292384 else c / 2
def wA:Nat->Nat->Nat
 | 0,c=>c
 | n+1,c=>wA n (Jh c)
theorem lg:∀(n c:Nat),wA (n+1) c=Jh (wA n c)
 | 0,c=>rfl
 | n+1,c=>by
  show wA (n+1) (Jh c)=_
  rw [lg n (Jh c)];rfl
def Kh (c:Nat):List UInt8->Nat
 | []=>c
 | b::l=>Kh (wA 8 (c^^^b.toNat)) l
def rL (l:List UInt8):Nat:=4294967295 - Kh 4294967295 l
theorem Le {c:Nat} (h:c<4294967296):Jh c<4294967296:=by
 unfold Jh;split
 ·exact Nat.xor_lt_two_pow (n:=32) zj zj
 omega
theorem od:∀(n:Nat) {c:Nat},c<4294967296->wA n c<4294967296
 | 0,_,h=>h
 | n+1,_,h=>od n (Le h)
theorem Gk {c:Nat} (h:c<4294967296) (b:UInt8):c^^^b.toNat<4294967296:=Nat.xor_lt_two_pow (n:=32) zj (by have:=b.toNat_lt;omega)
theorem sU:∀(l:List UInt8) (c:Nat) (b:UInt8),Kh c (l++ [b])=wA 8 (Kh c l^^^b.toNat)
 | [],c,b=>rfl
 | a::l,c,b=>sU l _ b
theorem JV (l:List UInt8):rL l<4294967296:=by unfold rL;omega
theorem LF {v:Nat} (h:v<4294967296):4294967295^^^v=4294967295 - v:=by
 have h1:(BitVec.allOnes 32^^^BitVec.ofNat 32 v).toNat=(~~~ BitVec.ofNat 32 v).toNat:=by rw [BitVec.allOnes_xor]
 rw [BitVec.toNat_xor,BitVec.toNat_not,BitVec.toNat_allOnes,BitVec.toNat_ofNat,Nat.mod_eq_of_lt zj] at h1;simpa using h1
def ia:Nat->Nat->List UInt8
 | 0,_=>[]
 | n+1,v=>ia n (v / 16)++ [kE (v % 16)]
theorem kk:∀n v,(ia n v).length=n
 | 0,_=>rfl
 | n+1,v=>by simp [ia,kk n]
theorem rM:∀n,ia n 0=List.replicate n 48
 | 0=>rfl
 | n+1=>by
  rw [List.replicate_succ']
  show ia n (0 / 16)++ [kE (0 % 16)]=_
  rw [show 0 / 16=0 from rfl,rM n];rfl
theorem wd:∀(m k v:Nat),v<16^k->ia (m+k) v=List.replicate m 48++ia k v
 | m,0,v,h=>by
  have:v=0:=yR;subst this;rw [uZ,rM];simp [ia]
 | m,k+1,v,h=>by
  show ia (m+k) (v / 16)++ [kE (v % 16)]=List.replicate m 48++(ia k (v / 16)++ [kE (v % 16)])
  rw [wd m k (v / 16) (by rw [Nat.pow_succ] at h;omega),uj]
theorem GW:∀n:Fin 16,45<=(kE n).toNat:=jD
def dP (t:List UInt8):List UInt8:=t++35::(ia 8 (rL t)++ [10])
theorem dU (t:List UInt8):(dP t).length=t.length+10:=by
 unfold dP;simp [kk]
def ac (x:OpX):List UInt8:=kY x.1 x.2.1 x.2.2.1 x.2.2.2.1 x.2.2.2.2.1 x.2.2.2.2.2.1 x.2.2.2.2.2.2.1.data.toList x.2.2.2.2.2.2.2.data.toList
def Nu (l:List UInt8):Option OpX:=match Mr l with
 | none=>none
 | some (c,n1,n2,n3,n4,n5,nm,v)=>if opE n1 n2 n3 c.toNat n4 n5 nm v=0 then some ((n1:Int),(n2:Int),(n3:Int),c.toNat,(n4:Int),(n5:Int),⟨nm.toArray⟩,⟨v.toArray⟩) else none
theorem Ik {node other:Int} (h:opE t b n k node other name value=0):name= []\/bC name=true:=by
 by_cases hn:bC name=true
 ·exact .inr hn
 by_cases he:name= []
 ·exact .inl he
 exfalso;have hn':bC name=false:=qy;have h4:(if bC name=false then 4 else if value≠ [] then 3 else 0)=4:=if_pos hn';unfold opE fO bK fE gG gI at h;rw [if_pos hn',if_pos he,if_pos he,if_pos hn'] at h
 repeat' (split at h)
 all_goals cases h
theorem KG {node other:Int} (h:opE t b n k node other name value=0):∀c∈name,45<=c.toNat:=fun c hc=>by
 rcases Ik h with rfl | hn
 ·simp at hc
 unfold bC at hn;simp only [uL,decide_eq_true_eq] at hn;have:=List.all_eq_true.1 hn.2 _ hc;unfold cV at this;simp only [decide_eq_true_eq] at this;omega
theorem La (a:Int) (h0:0<=a):∀c∈Lib.itoa a,45<=c.toNat:=fun c hc=>by
 rw [Lib.itoa,if_neg zj] at hc;have:=Dv _ _ hc;omega
theorem Fa:∀(l:List UInt8),∀c∈tj l,45<=c.toNat
 | [],c,h=>by simp [tj] at h
 | a::r,c,h=>by
  have ha:=a.toNat_lt;simp only [tj,vJ] at h
  rcases h with rfl | rfl | h
  ·exact GW ⟨a.toNat / 16,zj⟩
  ·exact GW ⟨a.toNat % 16,zj⟩
  exact Fa r c h
theorem AT:∀(x:List (List UInt8)),(∀l∈x,∀c∈l,45<=c.toNat)->∀c∈lG 124 x,45<=c.toNat
 | [],_,c,h=>by simp [lG] at h
 | [a],hx,c,h=>by
  simp only [lG] at h;exact hx a zt c h
 | a::b::r,hx,c,h=>by
  simp only [lG] at h
  rcases vL.1 h with q | q
  ·exact hx a zt c q
  rcases vJ.1 q with rfl | q
  ·decide
  exact AT (b::r) (fun l hl=>hx l (ug _ hl)) c q
theorem Ew (h:mq x=0):∀c∈ac x,45<=c.toNat:=by
 obtain ⟨t,b,n,k,nd,o,s,v⟩:=x;have h':opE t b n k nd o s.data.toList v.data.toList=0:=h;obtain ⟨h1,h2,h3,h4,h5,h6,hk,h7,h8,h9,h10,-⟩:=ar h';unfold ac kY;dsimp only;refine AT _ (fun l hl=> ?_);simp only [vJ,Zr,or_false] at hl
 rcases hl with rfl | rfl | rfl | rfl | rfl | rfl | rfl | rfl
 ·intro c hc;rw [vR.1 hc]
  rcases hk with rfl | rfl | rfl | rfl<;>decide
 ·exact kp7
 ·exact kp7
 ·exact kp7
 ·exact kp7
 ·exact kp7
 ·exact KG h'
 exact Fa _
theorem fB (h:mq x=0):(ac x).length<=1000:=by
 exact kc4
def ahead:List UInt8->List UInt8
 | []=>[]
 | c::l=>if c=35 then [] else c::ahead l
theorem nO:∀ {t:List UInt8} (r:List UInt8),(∀c∈t,45<=c.toNat)->ahead (t++35::r)=t
 | [],r,_=>rfl
 | c::t,r,h=>by
  have hc:c≠35:=fun e=>by have:=h c zt;rw [e] at this;revert this;decide
  show (if c=35 then [] else c::ahead (t++35::r))=c::t
  rw [if_neg hc,nO r (fun d hd=>h d ji)]
theorem nM:∀ {l:List UInt8},(35:UInt8)∉l->ahead l=l
 | [],_=>rfl
 | c::l,h=>by
  have hc:c≠35:=fun e=>h (by simp [e])
  show (if c=35 then [] else c::ahead l)=c::l
  rw [if_neg hc,nM (fun q=>h jm)]
def GI (b:List UInt8):Option (OpX×Nat):=match Nu (ahead b) with
 | none=>none
 | some x=>if dP (ahead b)<+:b then some (x,(dP (ahead b)).length) else none
theorem Fo (h:mq x=0) {n:Nat} (hn:n<(dP (ac x)).length):GI ((dP (ac x)).take n)=none:=by
 unfold GI;split
 ·rfl
 rename_i y hy;rw [if_neg];rintro ⟨r,hr⟩;have hl:=congrArg List.length hr;rw [vN,vW,dU] at hl;by_cases hq:n<=(ac x).length
 ·have e:(dP (ac x)).take n=(ac x).take n:=by
   unfold dP;rw [ux hq]
  have h35:(35:UInt8)∉(dP (ac x)).take n:=by
   rw [e];intro q;have:=Ew h 35 (Zg q);revert this;decide
  rw [nM h35] at hl;rw [vW] at hl;omega
 have ha:ahead ((dP (ac x)).take n)=ac x:=by
  obtain ⟨m,rfl⟩:∃m,n=(ac x).length+(m+1):=⟨n - (ac x).length - 1,zj⟩
  unfold dP;rw [List.take_length_add_append,List.take_succ_cons];exact nO _ (Ew h)
 rw [ha] at hl;have:=dU (ac x);omega
def KW:Nat->List UInt8->List OpX×Nat
 | 0,_=>([],0)
 | k+1,b=>match GI b with
  | none=>([],0)
  | some (x,n)=>(x::(KW k (b.drop n)).1,n+(KW k (b.drop n)).2)
def Jl (b:List UInt8):List OpX×Nat:=KW b.length b
def ij:List OpX->List UInt8
 | []=>[]
 | x::l=>dP (ac x)++ij l
theorem kG:∀(a b:List OpX),ij (a++b)=ij a++ij b
 | [],b=>rfl
 | x::a,b=>by
  show dP (ac x)++ij (a++b)=_
  rw [kG a b,<-uj];rfl
end Go.Proofs.YtebpcnkdhgnghaaGreatDoor
end
section
namespace Go.Proofs.YtebpcnkdhgnghaaGreatDoor
open Go.Proofs.Tryz
open Go.RowKit Go.Lib Go.Sort
variable {v:Nat}
theorem KU (h:v<4294967296):bits .and .u32 (v:Int) 1=((v % 2:Nat):Int):=by
 have:=u32_and_nat v 1 h zj;rw [Nat.and_one_is_mod] at this;exact this
theorem IW (h:v<4294967296):bits .xor .u32 (v:Int) 3988292384=((v^^^3988292384:Nat):Int):=u32_xor_nat v 3988292384 h zj
theorem Ke (h:v<4294967296):bits .xor .u32 IntKind.u32.max (v:Int)=((4294967295 - v:Nat):Int):=by
 have e:IntKind.u32.max=((4294967295:Nat):Int):=zr;rw [e,u32_xor_nat _ _ zj h,LF h]
theorem Ba (c:Nat) (w:World) (hc:c<4294967296):
  Calls prog 344 #[.int .u32 (c:Int)] w fun e w'=>e= .returned (.int .u32 ((wA 8 c:Nat):Int))/\w'=w:=by
 go_enter func344,ntmps344;go_wp2;go_loopg [0,4] 8 (fun kx s0 s4 wr=>∃(j v:Nat),s0= .int .u32 (v:Int)/\s4= .int .i64 (j:Int)/\j<=8/\8 - j<=kx/\v<4294967296/\Aside (v=wA j c/\wr=w))
 case atStart=>exact ⟨0,c,rfl,rfl,zj,zj,hc,rfl,rfl⟩
 case round=>
  obtain ⟨j,v,rfl,rfl,hj,hjx,hv,A⟩:=hrel;by_cases hlt:j<8
  ·have d1:decide ((j:Int)<(8:Int))=true:=by simp;omega
   have d1n:decide (j<8)=true:=zq;have ha:=KU hv
   obtain ⟨hf,hhf⟩:∃hf:Nat,Aside (hf=v / 2):=⟨_,rfl⟩
   have hh:(v:Int) / 2=(hf:Int):=by rw [hhf.o];omega
   by_cases hb:v % 2=1
   ·rw [hb] at ha;have hx:=IW (v:=hf) (by rw [hhf.o];omega)
    have hvj:hf^^^3988292384=wA (j+1) c:=by rw [lg,<-A.o.1,hhf.o];unfold Jh;rw [if_pos hb]
    obtain ⟨v',hv'⟩:∃v':Nat,Aside (v'=hf^^^3988292384):=⟨_,rfl⟩
    rw [<-hv'.o] at hx hvj
    have HV:Aside (v'=wA (j+1) c/\wr=w/\v'<4294967296):=⟨hvj,A.o.2,by rw [hvj];exact od _ hc⟩
    clear A hvj;go_wp2;go_roundg (8 - (j+1))
    case measure=>omega
    case rel=>exact ⟨j+1,v',rfl,zw,zj,vB _,HV.o.2.2,HV.o.1,HV.o.2.1⟩
   rw [show v % 2=0 by omega] at ha
   have hvj:hf=wA (j+1) c:=by rw [lg,<-A.o.1,hhf.o];unfold Jh;rw [if_neg hb]
   have HV:Aside (hf=wA (j+1) c/\wr=w/\hf<4294967296):=⟨hvj,A.o.2,by rw [hvj];exact od _ hc⟩
   clear A hvj;go_wp2;go_roundg (8 - (j+1))
   case measure=>omega
   case rel=>exact ⟨j+1,hf,rfl,zw,zj,vB _,HV.o.2.2,HV.o.1,HV.o.2.1⟩
  have d1:decide ((j:Int)<(8:Int))=false:=zq;have d1n:decide (j<8)=false:=zq
  have HV:Aside (v=wA 8 c/\wr=w):=by
   have e8:j=8:=zj;have:=A.o;rwa [e8] at this
  clear A;go_wp2;go_ret;exact ⟨by rw [HV.o.1];rfl,HV.o.2⟩
theorem KB (s:ByteArray) (w:World) (hs:s.size<=1000000):
  Calls prog 322 #[.string s] w fun e w'=>e= .returned (.int .u32 ((rL s.data.toList:Nat):Int))/\w'=w:=by
 go_enter func322,ntmps322;go_wp2;go_loopg [3,7] s.size (fun kx s3 s7 wr=>∃(j v:Nat),s3= .int .u32 (v:Int)/\s7= .int .i64 (j:Int)/\j<=s.size/\s.size - j<=kx/\v<4294967296/\Aside (v=Kh 4294967295 (s.data.toList.take j)/\wr=w))
 case atStart=>exact ⟨0,4294967295,rfl,rfl,zj,zj,zj,rfl,rfl⟩
 case round=>
  obtain ⟨j,v,rfl,rfl,hj,hjx,hv,A⟩:=hrel;by_cases hlt:j<s.size
  ·have d1:decide ((j:Int)<(s.size:Int))=true:=by simp;omega
   have d1n:decide (j<s.size)=true:=zq
   obtain ⟨x,hx⟩:∃x:Nat,Aside (x=v^^^s[j].toNat):=⟨v^^^s[j].toNat,rfl⟩
   have hb:=s[j].toNat_lt
   have hcv:IntKind.u32.wrap (s[j].toNat:Int)=(s[j].toNat:Int):=by rw [IntKind.wrap_u32'];omega
   have hxx:bits .xor .u32 (v:Int) (s[j].toNat:Int)=(x:Int):=by rw [hx.o];exact u32_xor_nat v s[j].toNat hv zj
   have hx32:x<4294967296:=by rw [hx.o];exact Gk hv s[j]
   have hdv:=Ba x wr hx32
   obtain ⟨v',hv'⟩:∃v':Nat,Aside (v'=wA 8 x):=⟨_,rfl⟩
   rw [<-hv'.o] at hdv
   have HV:Aside (v'=Kh 4294967295 (s.data.toList.take (j+1))/\wr=w/\v'<4294967296):=⟨by rw [<-FX s j hlt,sU,<-A.o.1,hv'.o,hx.o],A.o.2,by rw [hv'.o];exact od 8 hx32⟩
   clear A;go_wp2_with fail;refine hdv.mono ?_;clear hdv;rintro e w1 ⟨rfl,rfl⟩;go_wp2;go_roundg (s.size - (j+1))
   case measure=>omega
   case rel=>exact ⟨j+1,v',rfl,zw,zj,vB _,HV.o.2.2,HV.o.1,HV.o.2.1⟩
  have d1:decide ((j:Int)<(s.size:Int))=false:=zq;have d1n:decide (j<s.size)=false:=zq
  have hvv:v=Kh 4294967295 s.data.toList:=by
   have:=A.o.1;rwa [vT zq] at this
  have HV:Aside (rL s.data.toList=4294967295 - v/\wr=w):=⟨by rw [hvv];rfl,A.o.2⟩
  clear A hvv;go_wp2;go_ret;refine ⟨?_,HV.o.2⟩;rw [HV.o.1]
  show Ending.returned (Value.int .u32 _)=_
  rw [Ke hv]
end Go.Proofs.YtebpcnkdhgnghaaGreatDoor
end
section
namespace Go.Proofs.YtebpcnkdhgnghaaGreatDoor
open Go.Proofs.Tryz
open Go.RowKit
theorem infoByte:(prog.info? 5).map (fun i=>(i.zero,i.size,i.bytes))=some (some (.int .u8 0),1,1):=zo
def ej (l:List UInt8):List Value:=l.map fun c=>.int .u8 (c.toNat:Int)
theorem JI (x:Int) (w:World) (h0:0<=x) (h1:x<16):(Instr.index 9 (.string ⟨#[48,49,50,51,52,53,54,55,56,57,97,98,99,100,101,102]⟩) (.int .u8 x)).run prog w= .ok (.int .u8 ((kE x.toNat).toNat:Int)) w:=by
 rcases (show x=0\/x=1\/x=2\/x=3\/x=4\/x=5\/x=6\/x=7\/x=8\/x=9\/x=10\/x=11\/x=12\/x=13\/x=14\/x=15 by omega) with rfl | rfl | rfl | rfl | rfl | rfl | rfl | rfl | rfl | rfl | rfl | rfl | rfl | rfl | rfl | rfl
 all_goals kernel_rfl
theorem Nx:∀c:Fin 256,bits .and .u8 (c.1:Int) 15=((c.1 % 16:Nat):Int):=jD
theorem LR (c:UInt8) (w:World):(Instr.index 9 (.string ⟨#[48,49,50,51,52,53,54,55,56,57,97,98,99,100,101,102]⟩) (.int .u8 ((c.toNat:Int) / 16))).run prog w= .ok (.int .u8 ((kE (c.toNat / 16)).toNat:Int)) w:=by
 have:=c.toNat_lt;have e:=JI ((c.toNat:Int) / 16) w zj zj;rw [show ((c.toNat:Int) / 16).toNat=c.toNat / 16 by omega] at e;exact e
theorem MC (c:UInt8) (w:World):(Instr.index 9 (.string ⟨#[48,49,50,51,52,53,54,55,56,57,97,98,99,100,101,102]⟩) (.int .u8 (bits .and .u8 (c.toNat:Int) 15))).run prog w= .ok (.int .u8 ((kE (c.toNat % 16)).toNat:Int)) w:=by
 have:=c.toNat_lt;have e:=JI ((c.toNat % 16:Nat):Int) w zj zj;have e2:=Nx ⟨c.toNat,this⟩;simp only at e2;rw [e2];exact e
theorem fT (a b:List UInt8):ej (a++b)=ej a++ej b:=jz
theorem GL {w:World} {base:Nat} {v:Value} {n:Nat} {l:List UInt8} (h:w.ownsRow base 5 1 v n (ej l)) (hl:l.length=n):
  Sem.run prog (convert 184 9 v) w= .ok (.string ⟨l.toArray⟩) w:=by
 rcases Zs n with h0 | h0
 ·have hl0:l= []:=vZ.1 zj;subst hl0
  rcases h.2 with ⟨hv,_⟩ | ⟨g,cap,cur,hv,_⟩
  ·exact kl6
  exact kj3
 obtain ⟨g,cap,rfl,-,-⟩:=h.form h0;have hc:=h.cells (g:=g) rfl;subst hl;refine run_convert_bytes_back w _ _ _ _ _ l underlying184 underlying5 underlying9 (fun j hj=> ?_);refine hc j _ ?_;simp [ej,vF hj]
theorem Hw (s:ByteArray) (k:Nat) (h:k<s.size) (done R:List UInt8) (hd:done++tj (s.data.toList.drop k)=R):(done++ [kE (s[k].toNat / 16),kE (s[k].toNat % 16)])++tj (s.data.toList.drop (k+1))=R:=by
 rw [EW s k h] at hd;simpa [tj] using hd
theorem sB (s:ByteArray) (w:World) (hs:s.size<=1000000):
  Calls prog 271 #[.string s] w fun e w'=>e= .returned (.string ⟨(tj s.data.toList).toArray⟩)/\Below w.heap.size w w':=by
 obtain ⟨i0,hi,hz0,hz1,hz2⟩:=info_parts infoByte;generalize hR:tj s.data.toList=R;have HR:=Lib.hid hR;clear hR;go_enter func271,ntmps271;go_wp2_with (at_make;refine wpList_make_own _ rfl _ _ 184 rfl w.heap.size 5 i0 (.int .u8 0) 1 underlying184 hi hz0 hz1 .i64 .i64 _ (2*s.size) rfl rfl zj (by rw [hz2];omega) xi zg ?_;intro w0 hown0 hgrow0);go_loopw [3,11] (fun v i wr=>∃(k n:Nat) (done:List UInt8),k<=s.size/\n=2*k/\done.length=n/\i= .int .i64 (k:Nat)/\wr.ownsRow w.heap.size 5 1 v n (ej done)/\Below w.heap.size w wr/\Hid (done++tj (s.data.toList.drop k)=R)) (fun _ i _=>s.size - (intOf i).toNat)
 case atStart=>exact ⟨0,0,[],vM _,rfl,rfl,rfl,hown0,(vG _ _).grown hgrow0 zg (fun k hk=>by simp at hk),Lib.hid qw⟩
 case round=>
  obtain ⟨k,n,done,hk,rfl,hdl,rfl,hown,hB,HD⟩:=hrel;clear hown0 hgrow0;by_cases hlt:k<s.size
  ·have hdt:decide ((k:Int)<(s.size:Int))=true:=by simp;omega
   have HE:=Lib.hid (Hw s k hlt done R HD.o);have HL:=Lib.hid hdl;have x1:=LR s[k];have x2:=MC s[k];have hzB:=hB.size;clear HD;generalize hc1:kE (s[k].toNat / 16)=c1 at x1 HE;generalize hc2:kE (s[k].toNat % 16)=c2 at x2 HE;clear hc1 hc2;go_wp2_with fail
   go_region_held3 (fun _=>True) (trivial)
    ((refine step_append_lies _ zv _ _ _ zv w.heap.size 5 i0 _ 1 1 underlying184 hi hz0 hz1 hz2 rfl zj _ (2*k) (ej done) zv ((hown.alloc _).drew) ⟨wr.heap.size,0,none⟩ 2 2 [.int .u8 (c1.toNat:Int),.int .u8 (c2.toNat:Int)] zv zv (Zj (cs:= #[.int .u8 (c1.toNat:Int),.int .u8 (c2.toNat:Int)]) (t:=5) (fr:=(0,0)) (heap_alloc_new wr _)) qW zj xi zj zq (wr.heap.size+1) zt ?_;intro gg cap w1 hown1 hgrow hat hlt1))
   all_goals go_wp2
   all_goals
    refine ⟨⟨k+1,2*(k+1),done++ [c1,c2],zj,rfl,by have:=HL.o;simp;omega,zw,by rw [fT];exact hown1,(hB.alloc hB.size _).drew.grown hgrow zq (fun k hk=>(hown.lt k hk).1),HE⟩,?_⟩;simp [intOf];omega
  have hdl':decide ((k:Int)<(s.size:Int))=false:=zq;have HE:Hid (R=done):=Lib.hid (by have:=HD.o;rw [show k=s.size by omega,Do] at this;simpa [tj] using this.symm);have hcv:=GL hown hdl;go_wp2;go_ret;exact ⟨by rw [HE.o];rfl,hB⟩
