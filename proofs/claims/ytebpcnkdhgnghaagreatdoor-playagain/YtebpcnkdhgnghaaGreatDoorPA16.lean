import Derived.Test.YtebpcnkdhgnghaaGreatDoorHeldTk
import Derived.Test.YtebpcnkdhgnghaaGreatDoorPA10
import Derived.Test.YtebpcnkdhgnghaaGreatDoorPA11
import Derived.Laws.Cover1
set_option linter.unusedSimpArgs false
set_option linter.unusedVariables false
set_option maxRecDepth 100000
set_option maxHeartbeats 64000000
namespace Go.Proofs.YtebpcnkdhgnghaaGreatDoor
open Go.Proofs.Tryz
variable {s:ByteArray} {blk cap g k n:Nat} {P:Program} {w w0:World}
section
open Go.Shelf Go.RowKit Go.Lib Go.Sort
def Jm (a b:List UInt8):Int:=if a<b then -1 else if b<a then 1 else 0
def orZ (a b:Int):Int:=if a=0 then b else a
def MI (x y:Mrk):Int:=orZ (oZ x.1 y.1) (Jm x.2.1.data.toList y.2.1.data.toList)
theorem iA (x y:Mrk):ltOf MI x y=decide (KLt (ia x) (ia y)):=by
 unfold ltOf MI orZ oZ
 by_cases h1:x.1<y.1
 ·simp [h1]
 rw [if_neg h1]
 by_cases h2:y.1<x.1
 ·have h3:x.1≠y.1:=by omega
  simp [h1,h2,h3]
 have h3:x.1=y.1:=zj
 rw [if_neg h2,if_pos rfl]
 unfold Jm
 by_cases h4:x.2.1.data.toList<y.2.1.data.toList
 ·simp [h3,h4]
 rw [if_neg h4]
 by_cases h5:y.2.1.data.toList<x.2.1.data.toList<;>simp [h3,h4,h5]
theorem Ha:SWO (ltOf MI) where
 irrefl x:=by rw [iA];exact decide_eq_false ny
 trans x y z h1 h2:=by
  rw [iA] at*
  exact decide_eq_true (mW (of_decide_eq_true h1) (of_decide_eq_true h2))
 ntrans x y z h1 h2:=by
  rw [iA] at*
  have k1:=of_decide_eq_false h1
  have k2:=of_decide_eq_false h2
  refine decide_eq_false fun h=> ?_
  by_cases e:ia x=ia y
  ·rw [e] at h;exact k2 h
  rcases pF e with q | q
  ·exact k1 q
  exact k2 (mW q h)
def bU (m:Mrk):List Value:=[.int .i64 m.1,.string m.2.1,.string m.2.2]
theorem PQ (a:ByteArray) (w:World):Calls prog 176 #[.string a] w fun e w'=>e= .returned (.bool false)/\w'=w:=by
 go_enter func176,ntmps176
 go_wp2
 go_ret
 exact ⟨zq,rfl⟩
theorem JI (a b:ByteArray) (w:World):Calls prog 108 #[.string a,.string b] w fun e w'=>e= .returned (.int .i64 (Jm a.data.toList b.data.toList))/\w'=w:=by
 unfold Jm
 by_cases h1:a.data.toList<b.data.toList
 ·have d1:Op.bytesLess a.toList b.toList=true:=(nv _ _).trans <| decide_eq_true h1
  rw [if_pos h1]
  exact ke3
 have d1:Op.bytesLess a.toList b.toList=false:=(nv _ _).trans <| decide_eq_false h1
 rw [if_neg h1]
 by_cases h2:b.data.toList<a.data.toList
 ·have d2:(a.toList==b.toList)=false:=by
   rw [vH,vH]
   exact beq_false_of_ne (fun e=>by rw [e] at h2;exact List.lt_irrefl _ h2)
  rw [if_pos h2]
  exact ke3
 have d2:(a.toList==b.toList)=true:=by
  rw [vH,vH]
  by_cases e:a.data.toList=b.data.toList
  ·rw [e];simp
  rcases np e with q | q
  ·exact absurd q h1
  exact absurd q h2
 rw [if_neg h2]
 exact ke3
theorem Mz (w:World) (g:Nat) (a b:Int) (h0:w.cell? ⟨g,0,none⟩=some (.int .i64 a)) (h1:w.cell? ⟨g,1,none⟩=some (.int .i64 b)):
  Calls prog 107 #[.slice (some ⟨g,0,none⟩) 2 2] w fun e w'=>e= .returned (.int .i64 (orZ a b))/\w'=w:=by
 unfold orZ
 by_cases ha:a=0
 ·rw [if_pos ha]
  have da:(a !=0)=false:=by simp [ha]
  clear ha
  by_cases hb:b=0
  ·have db:(b !=0)=false:=by simp [hb]
   have HB:=Lib.hid hb
   clear hb
   go_enter func107,ntmps107
   go_wp2
   refine wp_loop_rounds 3 ?_
   rw [rounds_succ]
   go_wp2
   rw [rounds_succ]
   go_wp2
   rw [rounds_succ]
   go_wp2
   go_ret
   exact ⟨by rw [HB.o];rfl,rfl⟩
  have db:(b !=0)=true:=by simp [hb]
  clear hb
  go_enter func107,ntmps107
  go_wp2
  refine wp_loop_rounds 2 ?_
  rw [rounds_succ]
  go_wp2
  rw [rounds_succ]
  exact ka9
 rw [if_neg ha]
 have da:(a !=0)=true:=by simp [ha]
 clear ha
 go_enter func107,ntmps107
 go_wp2
 refine wp_loop_rounds 1 ?_
 rw [rounds_succ]
 exact ka9
theorem JN (x y:Mrk) (w:World):Calls prog 106 (#[.agg (bU x).toArray,.agg (bU y).toArray]++ #[]) w fun e w'=>e= .returned (.int .i64 (MI x y))/\∃q os',w'=grow (w.drewN q) os':=by
 obtain ⟨a,s,c⟩:=x
 obtain ⟨a',s',c'⟩:=y
 unfold bU
 dsimp only
 obtain ⟨S,hS⟩:=za w.heap.size
 obtain ⟨U,hU⟩:=za ((w.alloc (.cells #[.int .i64 a,.string s,.string c] 128)).alloc (.cells #[.int .i64 a',.string s',.string c'] 128))
 have hu1:U.heap[S+1]? =some (.cells #[.int .i64 a',.string s',.string c'] 128 (0,0)):=by
  have:=heap_alloc_new (w.alloc (.cells #[.int .i64 a,.string s,.string c] 128)) (.cells #[.int .i64 a',.string s',.string c'] 128)
  rw [vL] at this
  rw [hU,hS]
  exact this
 have hu0:U.heap[S]? =some (.cells #[.int .i64 a,.string s,.string c] 128 (0,0)):=by
  exact kg3
 have x0:U.drew.cell? ⟨S,0,none⟩=some (.int .i64 a):=jC
 have x1:U.drew.cell? ⟨S,1,none⟩=some (.string s):=jC
 have y0:U.drew.cell? ⟨S+1,0,none⟩=some (.int .i64 a'):=jy
 have y1:U.drew.cell? ⟨S+1,1,none⟩=some (.string s'):=jy
 have HX:Aside (U.drew.cell? ⟨S,0,none⟩=some (.int .i64 a)/\U.drew.cell? ⟨S,1,none⟩=some (.string s)/\U.drew.cell? ⟨S+1,0,none⟩=some (.int .i64 a')/\U.drew.cell? ⟨S+1,1,none⟩=some (.string s')):=⟨x0,x1,y0,y1⟩
 have HU:Aside (∃os,U=grow w os):=⟨_,by rw [hU,alloc_eq_grow,alloc_eq_grow,grow_grow]⟩
 clear hu0 hu1 x0 x1 y0 y1
 go_enter func106,ntmps106
 go_wp2_with fail
 rw [<-hU,<-hS]
 clear hU hS
 refine aM (S:=fun w'=>w'.cell? ⟨S,0,none⟩=some (.int .i64 a)/\w'.cell? ⟨S,1,none⟩=some (.string s)/\w'.cell? ⟨S+1,0,none⟩=some (.int .i64 a')/\w'.cell? ⟨S+1,1,none⟩=some (.string s')) zk HX.o (fun hHeld=> ?_)
 refine tk 0 hHeld ?_ (hy:=Or.inl ⟨zt,zF⟩)
 refine tk 1 hHeld ?_ (hy:=Or.inl ⟨zt,zF⟩)
 refine tk 2 hHeld ?_ (hy:=Or.inl ⟨zt,zF⟩)
 refine tk 3 hHeld ?_ (hy:=Or.inl ⟨zt,zF⟩)
 refine tk 5 hHeld ?_ (hy:=Or.inl ⟨zt,zF⟩)
 refine tk 6 hHeld ?_ (hy:=Or.inl ⟨zt,zF⟩)
 refine tk 7 hHeld ?_ (hy:=Or.inl ⟨zt,zF⟩)
 refine tk 8 hHeld ?_ (hy:=Or.inl ⟨zt,zF⟩)
 refine aZ (i:=4) zk rfl (fun K hK=> ?_)
 go_simp
 refine (oY _ _ _).mono ?_
 rintro e w1 ⟨rfl,rfl⟩
 refine hK _ _ HX.o ?_
 clear hK K
 refine qn ?_
 refine aZ (i:=9) zk rfl (fun K hK=> ?_)
 go_simp
 refine (JI _ _ _).mono ?_
 rintro e w1 ⟨rfl,rfl⟩
 refine hK _ _ HX.o ?_
 clear hK K
 refine qn ?_
 refine aZ (i:=10) zk rfl (fun K hK=> ?_)
 go_simp
 obtain ⟨V,hV⟩:=za ((U.alloc (.cells #[.int .i64 (oZ a a'),.int .i64 (Jm s.data.toList s'.data.toList)] 3)).drew)
 have hbV:Below U.drew.heap.size U.drew V:=by rw [hV];exact ⟨rfl,rfl,rfl,((jN U.heap.size U).alloc zg _).size,((jN U.heap.size U).alloc zg (.cells #[.int .i64 (oZ a a'),.int .i64 (Jm s.data.toList s'.data.toList)] 3)).block⟩
 have hVn:V.heap[U.heap.size]? =some (.cells #[.int .i64 (oZ a a'),.int .i64 (Jm s.data.toList s'.data.toList)] 3 (0,0)):=by rw [hV];exact heap_alloc_new U _
 have HV:Aside (∃q os',V=grow (w.drewN q) os'):=by
  obtain ⟨os,rfl⟩:=HU.o
  exact ⟨1,_,by rw [hV,alloc_eq_grow,grow_grow];rfl⟩
 have g0:V.cell? ⟨U.heap.size,0,none⟩=some (.int .i64 (oZ a a')):=by simp [World.cell?,hVn]
 have g1:V.cell? ⟨U.heap.size,1,none⟩=some (.int .i64 (Jm s.data.toList s'.data.toList)):=by simp [World.cell?,hVn]
 rw [<-hV]
 have HY:Aside (V.cell? ⟨S,0,none⟩=some (.int .i64 a)/\V.cell? ⟨S,1,none⟩=some (.string s)/\V.cell? ⟨S+1,0,none⟩=some (.int .i64 a')/\V.cell? ⟨S+1,1,none⟩=some (.string s')):=⟨dt hbV HX.o.1,dt hbV HX.o.2.1,dt hbV HX.o.2.2.1,dt hbV HX.o.2.2.2⟩
 refine hK _ _ HY.o ?_
 clear hK K hV hbV hVn
 refine qn ?_
 refine aZ (i:=11) zk rfl (fun K hK=> ?_)
 go_simp
 refine (Mz V _ _ _ g0 g1).mono ?_
 rintro e w1 ⟨rfl,rfl⟩
 refine hK _ _ HY.o ?_
 clear hK K
 refine qn ?_
 refine aZ (i:=12) zk rfl (fun K hK=> ?_)
 go_simp
 refine hK _ _ HY.o ?_
 clear hK K
 refine wpAnyH_done zk ?_ _
 clear hHeld
 go_wp2
 go_ret
 exact ⟨rfl,HV.o⟩
theorem ER (blk off size:Nat) (w:World):CmpLays prog 106 #[] bU 3 MI blk off size w:=fun _ _ _ _ x y=>JN x y _
theorem LE:∀args w,(callFunc 106 args).run prog w= .ok (.enter 106 args) w:=enters_of func106 zk rfl
theorem ci (x:Mrk):(bU x).length=3:=rfl
theorem nU (x:Mrk):∀v∈bU x,v.oneCell'=true:=by
 intro v hv
 simp only [bU,jQ,uu,or_false] at hv
 rcases hv with rfl | rfl | rfl<;>rfl
theorem kC (w:World) (g n:Nat) (d:Array Mrk) (os:Array Obj):Keeps (fun k=>k=g) w (sortWorldK bU 3 w g 0 n d os):=by
 refine ⟨rfl,rfl,rfl,?_,fun k hk hs=> ?_⟩
 ·exact kk1
 exact kd4
theorem Ny {base:Nat} {ps:List Mrk} (h:w.ownsRow base 128 3 (.slice (some ⟨g,0,none⟩) n cap) n (aB bU ps)) (hn:n=ps.length):HoldsK bU 3 w g 0 ps.toArray:=fun j hj=>by
 rw [size_flatK] at hj
 simp only [vu] at hj
 have h1:j / 3<ps.length:=zj
 have h2:j / 3*3+j % 3=j:=zj
 refine ⟨?_,yD⟩
 rw [vh,h.cellAt j zj,get_flatK _ _ _ _ yj]
 have:=bd (enc:=bU) ci (L:=ps) (i:=j / 3) (c:=j % 3) (x:=ps[j / 3]) (jK h1) zj
 rw [h2] at this
 rw [this,getElem!_pos ps.toArray (j / 3) xx,ud,jK qp,getElem!_pos _ (j % 3) qp]
 rfl
theorem rY {d:Array Mrk} (h:HoldsK bU 3 w g 0 d) (j:Nat) (u:Value) (hj:(aB bU d.toList)[j]? =some u):w.cell? ⟨g,j,none⟩=some u:=by
 have hl:=(jI.1 hj).1
 rw [aa ci,vN] at hl
 have h1:j / 3<d.size:=zj
 have h2:j / 3*3+j % 3=j:=zj
 have H:=(h j qm).1
 rw [vh,get_flatK _ _ _ _ zj] at H
 have:=bd (enc:=bU) ci (L:=d.toList) (i:=j / 3) (c:=j % 3) (x:=d[j / 3]) (by rw [Zb,vG h1]) zj
 rw [h2,hj,jK qp] at this
 rw [H,getElem!_pos d (j / 3) h1,getElem!_pos _ (j % 3) qp,this]
 rfl
theorem Nt (w:World) (base g cap:Nat) (ps:List Mrk) (hown:w.ownsRow base 128 3 (.slice (some ⟨g,0,none⟩) ps.length cap) ps.length (aB bU ps)) (hl:ps.length<=100000):
  Calls prog 105 #[.slice (some ⟨g,0,none⟩) ps.length cap,.func (.func 106) #[] #[]] w fun e w'=>e= .returned (.tuple #[])/\∃qs:List Mrk,qs.Perm ps/\qs.Pairwise (fun a b=>¬KLt (ia b) (ia a))/\(∀j u,(aB bU qs)[j]? =some u->w'.cell? ⟨g,j,none⟩=some u)/\Keeps (fun k=>k=g) w w':=by
 have hH:=Ny hown rfl
 have hblk:g<w.heap.size:=(hown.lt g rfl).2
 have h:=AnyQ.slices_SortFunc ri 3 isAgg128 sizeOf128 bU ci nU MI Ha 106 #[] g 0 cap ps.toArray w LE (ER g 0 ps.toArray.size w) hH hblk zl
 refine Calls.mono h ?_
 rintro e w' ⟨rfl,d',n,os,hp,hs,rfl⟩
 simp only [vu] at hp hs
 have hsz:d'.size=ps.length:=xi
 have hperm:d'.toList.Perm ps:=by
  exact kc6
 refine ⟨rfl,d'.toList,hperm,?_,?_,kC w g n d' os⟩
 ·rw [vO]
  intro i j hi hj hij
  have hi':i<d'.size:=qQ
  have hj':j<d'.size:=yj
  have:=hs i j (jX _) hij zj
  rw [iA,getElem!_pos d' i hi',getElem!_pos d' j hj'] at this
  have:=of_decide_eq_false this
  exact kn3
 exact rY ((show SWK bU 3 w g 0 d' _ from ⟨n,os,rfl⟩).holds hblk hH (by rw [hsz];simp))
theorem wK (p:Option Addr) (cap:Nat) (fv:Value) (w:World):Calls prog 105 #[.slice p 0 cap,fv] w fun e w'=>e= .returned (.tuple #[])/\w'=w:=
 AnyF.slices_SortFunc_none ri p cap fv w
end
section
open Go.Shelf Go.RowKit Go.Lib Go.Sort
def KA (x y:OpX):Int:=oZ x.2.2.1 y.2.2.1
theorem iU (x y:OpX):ltOf KA x y=decide (x.2.2.1<y.2.2.1):=by
 unfold ltOf KA oZ
 by_cases h1:x.2.2.1<y.2.2.1
 ·simp [h1]
 rw [if_neg h1]
 by_cases h2:y.2.2.1<x.2.2.1<;>simp [h1,h2]
theorem Ih:SWO (ltOf KA) where
 irrefl x:=by rw [iU];exact decide_eq_false zj
 trans x y z h1 h2:=by
  rw [iU] at*
  have:=of_decide_eq_true h1
  have:=of_decide_eq_true h2
  exact decide_eq_true zj
 ntrans x y z h1 h2:=by
  rw [iU] at*
  have:=of_decide_eq_false h1
  have:=of_decide_eq_false h2
  exact decide_eq_false zj
theorem GK (x y:OpX) (w:World):Calls prog 127 (#[.agg (cN x).toArray,.agg (cN y).toArray]++ #[]) w fun e w'=>e= .returned (.int .i64 (KA x y))/\∃q os',w'=grow (w.drewN q) os':=by
 obtain ⟨t,b,n,k,nd,o,s,v⟩:=x
 obtain ⟨t',b',n',k',nd',o',s',v'⟩:=y
 unfold cN KA
 show Calls prog 127 #[.agg #[.int .i64 t,.int .i64 b,.int .i64 n,.int .u8 (k:Int),.int .i64 nd,.int .i64 o,.string s,.string v],.agg #[.int .i64 t',.int .i64 b',.int .i64 n',.int .u8 (k':Int),.int .i64 nd',.int .i64 o',.string s',.string v']] w _
 go_enter func127,ntmps127
 go_wp2_with (go_at_call 99;refine (oY _ _ _).mono ?_;rintro e w' ⟨rfl,rfl⟩)
 go_ret
 exact ⟨rfl,0,#[.cells #[.int .i64 t,.int .i64 b,.int .i64 n,.int .u8 (k:Int),.int .i64 nd,.int .i64 o,.string s,.string v] 61]++ #[.cells #[.int .i64 t',.int .i64 b',.int .i64 n',.int .u8 (k':Int),.int .i64 nd',.int .i64 o',.string s',.string v'] 61],xK⟩
theorem Ea (blk off size:Nat) (w:World):CmpLays prog 127 #[] cN 8 KA blk off size w:=fun _ _ _ _ x y=>GK x y _
theorem Km:∀args w,(callFunc 127 args).run prog w= .ok (.enter 127 args) w:=enters_of func127 zk rfl
theorem ku (w:World) (g n:Nat) (d:Array OpX) (os:Array Obj):Keeps (fun k=>k=g) w (sortWorldK cN 8 w g 0 n d os):=by
 refine ⟨rfl,rfl,rfl,?_,fun k hk hs=> ?_⟩
 ·exact kk1
 exact kd4
theorem Mk {base:Nat} {ps:List OpX} (h:w.ownsRow base 61 8 (.slice (some ⟨g,0,none⟩) n cap) n (cellsOf ps)) (hn:n=ps.length):HoldsK cN 8 w g 0 ps.toArray:=fun j hj=>by
 rw [size_flatK] at hj
 simp only [vu] at hj
 have h1:j / 8<ps.length:=zj
 have h2:j / 8*8+j % 8=j:=zj
 refine ⟨?_,yD⟩
 rw [vh,h.cellAt j zj,get_flatK _ _ _ _ yj]
 have:=bW ps (j / 8) (j % 8) h1 zj
 rw [h2] at this
 rw [this,getElem!_pos ps.toArray (j / 8) xx,ud,getElem!_pos ps (j / 8) h1]
 rfl
theorem rF {d:Array OpX} (h:HoldsK cN 8 w g 0 d) (j:Nat) (u:Value) (hj:(cellsOf d.toList)[j]? =some u):w.cell? ⟨g,j,none⟩=some u:=by
 have hl:=(jI.1 hj).1
 rw [bR,vN] at hl
 have h1:j / 8<d.size:=zj
 have h2:j / 8*8+j % 8=j:=zj
 have H:=(h j qm).1
 rw [vh,get_flatK _ _ _ _ zj] at H
 have:=bW d.toList (j / 8) (j % 8) (by rw [vN];exact h1) zj
 rw [h2,hj,getElem!_pos d.toList (j / 8) (by rw [vN];exact h1)] at this
 rw [H,getElem!_pos d (j / 8) h1,this]
 simp
theorem Mo (w:World) (base g cap:Nat) (ps:List OpX) (hown:w.ownsRow base 61 8 (.slice (some ⟨g,0,none⟩) ps.length cap) ps.length (cellsOf ps)) (hl:ps.length<=100000):
  Calls prog 191 #[.slice (some ⟨g,0,none⟩) ps.length cap,.func (.func 127) #[] #[]] w fun e w'=>e= .returned (.tuple #[])/\∃qs:List OpX,qs.Perm ps/\qs.Pairwise (fun a b=>a.2.2.1<=b.2.2.1)/\(∀j u,(cellsOf qs)[j]? =some u->w'.cell? ⟨g,j,none⟩=some u)/\Keeps (fun k=>k=g) w w':=by
 have hH:=Mk hown rfl
 have hblk:g<w.heap.size:=(hown.lt g rfl).2
 have h:=AnyQ.slices_SortFunc AO 8 isAgg61 sizeOf61 cN bO cB KA Ih 127 #[] g 0 cap ps.toArray w Km (Ea g 0 ps.toArray.size w) hH hblk zl
 refine Calls.mono h ?_
 rintro e w' ⟨rfl,d',n,os,hp,hs,rfl⟩
 simp only [vu] at hp hs
 have hsz:d'.size=ps.length:=xi
 have hperm:d'.toList.Perm ps:=by
  exact kc6
 refine ⟨rfl,d'.toList,hperm,?_,?_,ku w g n d' os⟩
 ·rw [vO]
  intro i j hi hj hij
  have hi':i<d'.size:=qQ
  have hj':j<d'.size:=yj
  have:=hs i j (jX _) hij zj
  rw [iU,getElem!_pos d' i hi',getElem!_pos d' j hj'] at this
  have:=of_decide_eq_false this
  simp only [Array.getElem_toList]
  omega
 exact rF ((show SWK cN 8 w g 0 d' _ from ⟨n,os,rfl⟩).holds hblk hH (by rw [hsz];simp))
theorem tl (p:Option Addr) (cap:Nat) (fv:Value) (w:World):Calls prog 191 #[.slice p 0 cap,fv] w fun e w'=>e= .returned (.tuple #[])/\w'=w:=
 AnyF.slices_SortFunc_none AO p cap fv w
end
section
open Go.RowKit Go.Maps
theorem Ov:(prog.info? 128).map (fun i=>(i.zero,i.size,i.bytes))=some (some (.agg #[.int .i64 0,.string ⟨#[]⟩,.string ⟨#[]⟩]),3,40):=zk
theorem ox (h:s.size=0):s.toList.isEmpty=true:=by
 rw [vH]
 have:s.data.toList.length=0:=qy
 rw [ve.1 this]
 rfl
theorem tW (h:s.size≠0):s.toList.isEmpty=false:=by
 rw [vH]
 have:s.data.toList.length≠0:=qy
 cases hs:s.data.toList with
 | nil=>rw [hs] at this;simp at this
 | cons a r=>rfl
theorem BR (w:World) (a:Int) (s c:ByteArray) (j:Nat) (u:Value) (hj:(bU (a,s,c))[j]? =some u):(w.alloc (.cells #[.int .i64 a,.string s,.string c] 128)).cell? ((⟨w.heap.size,0,none⟩:Addr).add j)=some u:=by
 rw [Addr.add_lit,vh]
 have h:=heap_alloc_new w (.cells #[.int .i64 a,.string s,.string c] 128)
 simp only [World.cell?,h]
 rw [<-hj]
 simp [bU]
theorem Fn (w:World) (bc bm n:Nat) (f:eD) (hC:CellsAt w bc bm n f) (hn:n<=100000):
  Calls prog 55 #[.pointer (some ⟨bc,0,none⟩)] w fun e w'=>∃ao cap qs,e= .returned (.slice ao qs.length cap)/\IsMarks f qs/\qs.length<=n/\InRow bU w' ao qs/\Below w.heap.size w w'/\∀g o,ao=some ⟨g,o,none⟩->w.heap.size<=g:=by
 obtain ⟨i0,hi,hz0,hz1,hz2⟩:=info_parts Ov
 have hall:=Lo w bc bm hC.c0
 obtain ⟨⟨D,hown,hr⟩,hg⟩:=hC.map
 have hsn:=hown.size_le
 have hlt:=hC.lt
 clear hC
 go_enter func55,ntmps55
 go_wp2_with (first
  | (go_at_call 104;refine hall.mono ?_;clear hall;rintro e w' ⟨rfl,hw'⟩;have hw2:=hw'.symm;subst hw2)
  | (at_range;refine wpList_range_own _ rfl _ 201 rfl 204 206 lawK underlying201 _ bm n D rfl hown ?_;intro w0 hrg0 hg0 hs0)
  | go_in)
 go_frame
 have hb0:Below w.heap.size w w0:=(jN _ w).grown hg0 zg (by intro k hk;cases hk)
 obtain ⟨r,hr0⟩:=ze w.heap.size
 rw [<-hr0.o] at hrg0 |-
 have H0:Aside (w0.ranges prog 204 By bm r n D (has D) (size D)/\Below w.heap.size w w0/\ReadsC D f/\GoodC f/\bm<w.heap.size):=⟨hrg0,hb0,hr,hg,hlt.2⟩
 clear hrg0 hg0 hs0 hb0 hr hg hlt hown
 go_loopw [3] (fun s3 wr=>∃(left:Lit->Bool) (cnt:Nat) (ps:List Mrk) (v:Value),v=s3/\Aside (wr.ranges prog 204 By bm r n D left cnt/\ps.length+cnt<=n/\CollM f left ps/\wr.ownsRow (r+1) 128 3 v ps.length (aB bU ps)/\Below w.heap.size w wr/\r<wr.heap.size))
  (fun _ wr=>wr.rangeLeft bm r)
 case atStart=>exact ⟨_,_,[],_,rfl,⟨H0.o.1,by simpa using hsn,tJ H0.o.2.2.1 H0.o.2.2.2.1,vD _ _ _ _,H0.o.2.1,H0.o.1.lt⟩⟩
 case round=>
  obtain ⟨left,cnt,ps,v,rfl,A⟩:=hrel
  obtain ⟨u,hu⟩:=za wr
  subst hu
  have hrg:=A.o.1
  go_wp2_with (first
   | (at_next;refine wpList_next_ranges _ rfl _ rfl 204 lawK By pI tn (fun key kl hk=>by obtain ⟨x,_,hx,_⟩:=Fy hk;exact ⟨x,hx⟩) (fun v y hv=>by obtain ⟨c,rfl,_⟩:=oK hv;exact ⟨c,rfl⟩) bm r n _ _ _ rfl hrg ?_ ?_)
   | go_in)
  ·intro hc0 hl0
   have hall:=A.o.2.2.1.all hl0
   have hpn:ps.length<=n:=je
   have hown:=A.o.2.2.2.1
   have hbel:=A.o.2.2.2.2.1
   have hr1:=hr0.o
   rcases hown.2 with ⟨rfl,h0⟩ | ⟨g,cap,cur,rfl,hbg,-⟩
   ·have hps:ps= []:=ve.1 h0
    have HH:Aside (IsMarks f []/\Below w.heap.size w u):=⟨by subst hps;exact hall.marks (List.Perm.refl _) List.Pairwise.nil,hbel⟩
    clear hall hown hbel hps h0 hc0 hl0 hr1
    go_wp2_with (go_at_call 105;refine (wK none 0 _ _).mono ?_;rintro e w' ⟨rfl,rfl⟩)
    go_ret
    exact ⟨none,0,[],rfl,HH.o.1,jX _,.inl rfl,HH.o.2,fun g o e=>qu⟩
   have hs:=Nt u (r+1) g cap ps hown zj
   have hgl:=(hown.lt g rfl).2
   have HH:Aside (AllM f ps/\ps.length<=n/\Below w.heap.size w u/\w.heap.size<=g/\g<u.heap.size):=⟨hall,hpn,hbel,zj,hgl⟩
   clear hall hown hbel hpn hbg hgl hc0 hl0 hr1
   go_wp2_with fail
   refine hs.mono ?_
   clear hs
   rintro e w2 ⟨rfl,qs,hp,hpw,hcells,hk⟩
   have H2:Aside (IsMarks f qs/\qs.length=ps.length/\qs.length<=n/\(∀j u,(aB bU qs)[j]? =some u->w2.cell? ⟨g,j,none⟩=some u)/\Below w.heap.size w w2/\w.heap.size<=g):=
    ⟨HH.o.1.marks hp hpw,hp.length_eq,js,hcells,HH.o.2.2.1.trans (hk.below (HH.o.2.2.1.size) (fun k e=>by have:=HH.o.2.2.2.1;omega)),HH.o.2.2.2.1⟩
   clear hp hpw hcells hk HH
   go_wp2
   go_ret
   exact ⟨_,cap,qs,by rw [H2.o.2.1];rfl,H2.o.1,H2.o.2.2.1,.inr ⟨g,0,rfl,fun j u hj=>by rw [vh];exact H2.o.2.2.2.1 j u hj⟩,H2.o.2.2.2.2.1,fun g' o e=>by cases e;exact H2.o.2.2.2.2.2⟩
  intro a nm c t b kl yd yp w2 cnt2 hkey hlk hv hat hrg2 hlt hg2 hs2 hen
  obtain ⟨x',hwx,ex,rfl⟩:=Fy hkey
  obtain rfl:(a,nm)=x':=Ap ex
  obtain ⟨c',ec,ez⟩:=oK hv
  obtain rfl:(c,t,b)=c':=Ie ec
  obtain rfl:yd=wE (c,t,b):=(Prod.mk.inj ez).1
  have hfx:=H0.o.2.2.1.got hwx hat
  have hk2:Keeps (fun k=>k=r) u w2:=(aP hg2).mono (fun k _ e=>by cases e;rfl)
  have hb2:Below w.heap.size w w2:=A.o.2.2.2.2.1.trans (hk2.below A.o.2.2.2.2.1.size (fun k e=>by have:=hr0.o;omega))
  have ho2:w2.ownsRow (r+1) 128 3 v ps.length (aB bU ps):=au A.o.2.2.2.1 (fun g hg=>hk2.block g (A.o.2.2.2.1.lt g hg).2 (by have:=(A.o.2.2.2.1.lt g hg).1;omega))
  unfold pI tn at hen |-
  dsimp only at hen |-
  obtain ⟨S,hS⟩:∃S,Aside (w2.heap.size=S):=⟨_,rfl⟩
  by_cases hc:c.size=0
  ·have hC2:=A.o.2.2.1.skip H0.o.2.2.2.1 hwx hfx hc
   have hce:=ox hc
   have H2:Aside (w2.ranges prog 204 By bm r n D (fun z=>left z && !z.sameKey (eT (a,nm))) cnt2/\ps.length+cnt2<=n/\CollM f (fun z=>left z && !z.sameKey (eT (a,nm))) ps/\w2.ownsRow (r+1) 128 3 v ps.length (aB bU ps)/\Below w.heap.size w w2/\cnt2<cnt):=⟨hrg2,je,hC2,ho2,hb2,hlt⟩
   clear hC2 hrg2 hlt hg2 hs2 hk2 hb2 ho2 hfx hat hv hkey hlk ec ez ex
   go_wp2
   obtain ⟨h1,h2,h3,h4,h5,h6⟩:=H2.o
   refine ⟨⟨_,cnt2,ps,v,rfl,(h1.alloc _).alloc _,h2,h3,(h4.alloc _).alloc _,(h5.alloc h5.size _).alloc (by have:=h5.size;simp;omega) _,((h1.alloc _).alloc _).lt⟩,?_⟩
   rw [((h1.alloc _).alloc _).left_eq,hrg.left_eq]
   exact h6
  have hC2:=A.o.2.2.1.step H0.o.2.2.2.1 hwx hlk hfx hc
  have hce:=tW hc
  obtain ⟨W3,hW3⟩:=za ((w2.alloc (.cells #[.int .i64 a,.string nm] 204)).alloc (.cells #[.string c,.int .i64 t,.int .i64 b] 206))
  have hb3:Below w2.heap.size w2 W3:=by rw [hW3];exact (zh w2 _).alloc zq _
  have hs3:W3.heap.size=w2.heap.size+2:=by rw [hW3];simp
  have q0:W3.heap[w2.heap.size]? =some (.cells #[.int .i64 a,.string nm] 204 (0,0)):=by
   rw [hW3,jV _ _ _ zq]
   exact heap_alloc_new w2 _
  have q1:W3.heap[w2.heap.size+1]? =some (.cells #[.string c,.int .i64 t,.int .i64 b] 206 (0,0)):=by
   have:=heap_alloc_new (w2.alloc (.cells #[.int .i64 a,.string nm] 204)) (.cells #[.string c,.int .i64 t,.int .i64 b] 206)
   rw [vL] at this
   rw [hW3]
   exact this
  have hrg3:W3.ranges prog 204 By bm r n D (fun z=>left z && !z.sameKey (eT (a,nm))) cnt2:=by rw [hW3];exact (hrg2.alloc _).alloc _
  have ho3:W3.ownsRow (r+1) 128 3 v ps.length (aB bU ps):=by rw [hW3];exact (ho2.alloc _).alloc _
  have H2:Aside (W3.ranges prog 204 By bm r n D (fun z=>left z && !z.sameKey (eT (a,nm))) cnt2/\ps.length+1+cnt2<=n/\CollM f (fun z=>left z && !z.sameKey (eT (a,nm))) (ps++ [(a,nm,c)])/\W3.ownsRow (r+1) 128 3 v ps.length (aB bU ps)/\Below w.heap.size w W3/\cnt2<cnt):=⟨hrg3,je,hC2,ho3,zi hb2 hb3,hlt⟩
  clear hC2 hrg2 hlt hg2 hs2 hk2 hb2 ho2 hfx hat hv hkey hlk ec ez ex hrg3 ho3 hb3
  go_upto_region 6 with fail
  rw [<-hW3]
  rw [hS.o] at q0 q1 hs3 |-
  have f0:W3.cell? ⟨S,0,none⟩=some (.int .i64 a):=by simp [World.cell?,q0]
  have f1:W3.cell? ⟨S,1,none⟩=some (.string nm):=by simp [World.cell?,q0]
  have f2:W3.cell? ⟨S+1,0,none⟩=some (.string c):=by simp [World.cell?,q1]
  obtain ⟨X,hX⟩:∃X,Aside (W3.heap.size=X):=⟨_,rfl⟩
  clear q0 q1 hW3 hen hs3
  have hpn:ps.length+1<=n:=by have:=H2.o.2.1;omega
  have hbs:r+1<=W3.heap.size:=H2.o.1.lt
  obtain ⟨va,vc,rfl⟩:=dV H2.o.2.2.2.1
  go_wp2_with (at_builtin;refine wpList_append_own _ rfl _ _ 125 rfl (r+1) 128 i0 _ 3 40 underlying125 hi hz0 hz1 hz2 rfl zj _ _ _ rfl (H2.o.2.2.2.1.alloc _) ⟨W3.heap.size,0,none⟩ 1 1 (bU (a,nm,c)) rfl rfl (BR W3 a nm c) (nU _) zu zj zl ?_)
  intro v2 u2 hown hgrow hnil
  clear hnil f0 f1 f2
  have hrow:∀g,(Value.slice va ps.length vc).ownBlock=some g->r+1<=g:=fun g hg=>(H2.o.2.2.2.1.lt g hg).1
  have hbm:=H0.o.2.2.2.2
  have hr1:=hr0.o
  have h5:=H2.o.2.2.2.2.1
  have hrg4:u2.ranges prog 204 By bm r n D (fun z=>left z && !z.sameKey (eT (a,nm))) cnt2:=(H2.o.1.alloc _).kept hgrow (fun e=>by have:=hrow bm e.symm;omega) (fun e=>by have:=hrow r e.symm;omega)
  have R4:Aside (u2.ranges prog 204 By bm r n D (fun z=>left z && !z.sameKey (eT (a,nm))) cnt2/\(ps++ [(a,nm,c)]).length+cnt2<=n/\CollM f (fun z=>left z && !z.sameKey (eT (a,nm))) (ps++ [(a,nm,c)])/\u2.ownsRow (r+1) 128 3 v2 (ps++ [(a,nm,c)]).length (aB bU (ps++ [(a,nm,c)]))/\Below w.heap.size w u2/\r<u2.heap.size):=by
   refine ⟨hrg4,by have:=H2.o.2.1;simp;omega,H2.o.2.2.1,?_,(h5.alloc h5.size _).grown hgrow (by have:=h5.size;simp;omega) (fun k hk=>by have:=hrow k hk;omega),hrg4.lt⟩
   rw [jP,bu]
   simpa [aB] using hown
  have hm:u2.rangeLeft bm r<u.rangeLeft bm r:=by rw [hrg4.left_eq,hrg.left_eq];exact H2.o.2.2.2.2.2
  clear hown hgrow hrow hrg4 h5 hr1 hbm
  go_wp2
  exact ⟨⟨_,_,_,_,rfl,R4⟩,hm⟩
end
section
open Go Go.RowKit Go.Maps
end
section
open Go.Shelf Go.RowKit Go.Lib Go.Sort
structure LJ (P:Program) {β:Type} [Inhabited β] (lt:β->β->Bool) (k:Nat) (enc:β×Nat->List Value) (cf:β×Nat->β×Nat->Int) (g:Nat) (w0:World) (blk off:Nat) (d0:Array (β×Nat)):Prop where
 ty:STy P k
 fS:P.funcs[(337:Nat)]? =some f337
 fR:P.funcs[(307:Nat)]? =some f307
 fM:P.funcs[(257:Nat)]? =some f257
 row:RowK enc k w0 blk off d0
 less:∀x y,decide (cf x y<0)=tlt lt x y
 swo:SWO lt
 eg:∀args w,(callFunc g args).run P w= .ok (.enter g args) w
 cmp:CmpLays P g #[] enc k cf blk off d0.size w0
def eU (P:Program) {β:Type} [Inhabited β] (lt:β->β->Bool) (k:Nat) (enc:β×Nat->List Value) (g:Nat) (w0:World) (blk off cap a m b:Nat) (d:Array (β×Nat)) (w:World):Prop:=
 Calls P 257 #[.slice (some ⟨blk,off,none⟩) d.size cap,.int .i64 a,.int .i64 m,.int .i64 b,.func (.func g) #[] #[]] w fun e w'=>e= .returned (.tuple #[])/\∃d',(PermIn a b d d'/\SortedIn (slt lt) a b d')/\SWK enc k w0 blk off d' w'
theorem GQ {β:Type} [Inhabited β] {lt:β->β->Bool} {enc:β×Nat->List Value} {cf:β×Nat->β×Nat->Int} {off:Nat} {d0:Array (β×Nat)} (V:LJ P lt k enc cf g w0 blk off d0) (cap a m b:Nat) (d:Array (β×Nat)) (w:World)
  (hs:d0.size=d.size) (S:SWK enc k w0 blk off d w) (hr:Runs lt a m b d) (ham:a<m) (hmb:m<b) (hb:b<=d.size) (hsz:d.size<4611686018427387904) (h1:m=a+1):
  eU P lt k enc g w0 blk off cap a m b d w:=by
 unfold eU
 have L:=V.ty
 have mixed:=L.mixed;have t0:=L.t0;have a0:=L.a0;have z0:=L.z0;have v0:=L.v0;have t3:=L.t3;have a3:=L.a3;have z3:=L.z3;have v3:=L.v3;have t4:=L.t4;have a4:=L.a4;have z4:=L.z4;have v4:=L.v4;have tS:=L.tS;have aS:=L.aS;have zS:=L.zS;have vS:=L.vS;have tC:=L.tC;have aC:=L.aC;have zC:=L.zC;have vC:=L.vC;have tU:=L.tU;have aU:=L.aU;have zU:=L.zU;have vU:=L.vU;have aE:=L.aE;have zE:=L.zE
 have R:=V.row
 have eg:=V.eg
 have CMP:Aside (CmpLays P g #[] enc k cf blk off d0.size w0):=V.cmp
 have LT:Aside (∀x y,decide (cf x y<0)=tlt lt x y):=V.less
 have S0:Aside (SWK enc k w0 blk off d w):=S
 have HR:Aside (Runs lt a m b d):=hr
 clear S hr
 have q0:((m:Int) - (a:Int)==1)=true:=zl
 have H1:Aside (m=a+1):=h1
 clear h1
 go_enter V.fM,ntmps257
 go_wp2
 clear q0
 go_loopg [10,11] (b - m) (fun kx s10 s11 wr=>∃(i j:Nat),s10= .int .i64 (i:Int)/\s11= .int .i64 (j:Int)/\m<=i/\i<=j/\j<=b/\j - i<=kx/\Aside ((m<i->tlt lt d[i - 1]! d[a]! =true)/\(j<b->tlt lt d[j]! d[a]! =false))/\Aside (SWK enc k w0 blk off d wr))
 case atStart=>exact ⟨m,b,rfl,rfl,jL _,zj,jL _,jL _,⟨fun h=>zj,fun h=>zj⟩,S0⟩
 case round=>
  clear S0
  obtain ⟨i,j,rfl,rfl,hi,hij,hj,hkx,ED,S1⟩:=hrel
  by_cases hlt:i<j
  ·have hltz:decide ((i:Int)<(j:Int))=true:=by simp;omega
   go_wp2_with fail
   obtain ⟨h,hh⟩:∃h:Nat,h=(i+j) / 2:=⟨_,rfl⟩
   have hi1:i<=h:=zj
   have hi2:h<j:=zj
   have hz:((i:Int)+(j:Int)) / 2=(h:Int):=zj
   rw [hz]
   clear hz hh
   have ex:((h:Int)).toNat=h:=zj
   have px:(0:Int)<=(h:Int):=zj
   have bdx:(h:Int)<(d.size:Int):=zj
   have rx:IntKind.i64.wrap ((h:Int))=(h:Int):=zr
   have ey:((a:Int)).toNat=a:=zj
   have py:(0:Int)<=(a:Int):=zj
   have bdy:(a:Int)<(d.size:Int):=zj
   have ry:IntKind.i64.wrap ((a:Int))=(a:Int):=zr
   have lx:=S1.o.ld R zj P (h) zj
   have ly:=S1.o.ld R zj P (a) zj
   have hc:=S1.o.cmp CMP.o zj d[h]! d[a]!
   have hl:=LT.o d[h]! d[a]!
   have SG:Aside (∀n os,SWK enc k w0 blk off d (grow (wr.drewN n) os)):=fun n os=>S1.o.grown n os
   generalize cf d[h]! d[a]! =z at hc hl
   have HL:=Lib.hid hl
   clear hl
   simp only [Array.append_empty] at hc
   by_cases hlv:z<0
   ·go_wp2_with fail
    go_quiet_grown (first | (go_at_fn g;refine Calls.grown_of (hc _ _)))
    have S2:Aside (SWK enc k w0 blk off d (grow (wr.drewN nq) osq)):=SG.o nq osq
    have ED2:Aside ((m<h+1->tlt lt d[h+1 - 1]! d[a]! =true)/\(j<b->tlt lt d[j]! d[a]! =false)):=⟨fun _=>by rw [Nat.add_sub_cancel,<-HL.o];exact decide_eq_true hlv,ED.o.2⟩
    clear lx ly hc SG S1 ED
    generalize grow (wr.drewN nq) osq=w2 at S2 |-
    go_wp2
    go_roundg (j - (h+1))
    case measure=>omega
    case rel=>exact ⟨h+1,j,zI,rfl,zj,zj,hj,jL _,ED2,S2⟩
   go_wp2_with fail
   go_quiet_grown (first | (go_at_fn g;refine Calls.grown_of (hc _ _)))
   have S2:Aside (SWK enc k w0 blk off d (grow (wr.drewN nq) osq)):=SG.o nq osq
   have ED2:Aside ((m<i->tlt lt d[i - 1]! d[a]! =true)/\(h<b->tlt lt d[h]! d[a]! =false)):=⟨ED.o.1,fun _=>by rw [<-HL.o];exact decide_eq_false zj⟩
   clear lx ly hc SG S1 ED
   generalize grow (wr.drewN nq) osq=w2 at S2 |-
   go_wp2
   go_roundg (h - i)
   case measure=>omega
   case rel=>exact ⟨i,h,rfl,rfl,hi,hi1,zj,jL _,ED2,S2⟩
  have hltz:decide ((i:Int)<(j:Int))=false:=zl
  obtain rfl:i=j:=zj
  have EI:=ED
  go_wp2
  clear ED
  go_loopg [13] (i - 1 - a) (fun kx s13 wv=>∃(t:Nat) (dk:Array (β×Nat)),s13= .int .i64 (t:Int)/\a<=t/\t+1<=i/\i - 1 - t<=kx/\dk.size=d.size/\Aside (Rot d dk a (a+1) (t+1))/\Aside (SWK enc k w0 blk off dk wv))
  case atStart=>exact ⟨a,d,rfl,jL _,zj,jL _,rfl,Rot.none d a (a+1) (a+1) zj zj (.inr rfl),S1⟩
  case round=>
   clear S1
   obtain ⟨t,dk,rfl,ht,hti,hkx2,hds,RT,S1⟩:=hrel
   by_cases hlt2:t+1<i
   ·have hltz2:decide ((t:Int)<(i:Int) - 1)=true:=by simp;omega
    go_wp2_with fail
    have ex:((t:Int)).toNat=t:=zj
    have px:(0:Int)<=(t:Int):=zj
    have bdx:(t:Int)<(d.size:Int):=zj
    have rx:IntKind.i64.wrap ((t:Int))=(t:Int):=zr
    have ey:((t:Int)+1).toNat=t+1:=zj
    have py:(0:Int)<=(t:Int)+1:=zj
    have bdy:(t:Int)+1<(d.size:Int):=zj
    have ry:IntKind.i64.wrap ((t:Int)+1)=(t:Int)+1:=zr
    have S2:Aside (SWK enc k w0 blk off (swp dk (t) (t+1)) ((wr.drew.setCells blk (off+(t)*k) (enc dk[t+1]!)).setCells blk (off+(t+1)*k) (enc dk[t]!))):=S1.o.swapped R (t) (t+1) zj zj
    have la:=S1.o.ld1 R zj P (t) zj
    have lb:=S1.o.ld1 R zj P (t+1) zj
    have sa:=S1.o.st1 R zj P (t) zj dk[t+1]!
    have sb:=S1.o.st2 R zj P (t) (t+1) zj zj dk[t+1]! dk[t]!
    have na:(enc dk[t]!).length=k:=R.hk _
    have nb:(enc dk[t+1]!).length=k:=R.hk _
    generalize enc dk[t]! =cI at S2 la sb na
    generalize enc dk[t+1]! =cJ at S2 lb sa sb nb
    clear S1
    go_big_region_o
    clear la lb sa sb
    generalize (wr.drew.setCells blk (off+(t)*k) cJ).setCells blk (off+(t+1)*k) cI=w2 at S2 |-
    go_wp2
    go_roundg (i - 1 - (t+1))
    case measure=>omega
    case rel=>exact ⟨t+1,swp dk t (t+1),zI,zj,zj,jL _,by rw [swp_size];exact hds,RT.o.up ht zj,S2⟩
   have hltz2:decide ((t:Int)<(i:Int) - 1)=false:=zl
   go_wp2
   (try simp only [Exit.inBlock,Exit.then])
   refine bodyPost_ret (results_none rfl _ _ _) rfl ?_
   have ht2:t+1=i:=zj
   have RT2:Rot d dk a (a+1) i:=by rw [<-ht2];exact RT.o
   have h1:=H1.o
   subst h1
   exact ⟨rfl,dk,⟨permIn_mono d dk _ _ _ _ zg hj hb RT2.perm,Runs.first V.swo HR.o hi hj (fun h=>EI.o.1 h) (fun h=>EI.o.2 h) RT2⟩,S1.o⟩
theorem Hf {β:Type} [Inhabited β] {lt:β->β->Bool} {enc:β×Nat->List Value} {cf:β×Nat->β×Nat->Int} {off:Nat} {d0:Array (β×Nat)} (V:LJ P lt k enc cf g w0 blk off d0) (cap a m b:Nat) (d:Array (β×Nat)) (w:World)
  (hs:d0.size=d.size) (S:SWK enc k w0 blk off d w) (hr:Runs lt a m b d) (ham:a<m) (hmb:m<b) (hb:b<=d.size) (hsz:d.size<4611686018427387904) (h0:m≠a+1) (h1:b=m+1):
  eU P lt k enc g w0 blk off cap a m b d w:=by
 unfold eU
 have L:=V.ty
 have mixed:=L.mixed;have t0:=L.t0;have a0:=L.a0;have z0:=L.z0;have v0:=L.v0;have t3:=L.t3;have a3:=L.a3;have z3:=L.z3;have v3:=L.v3;have t4:=L.t4;have a4:=L.a4;have z4:=L.z4;have v4:=L.v4;have tS:=L.tS;have aS:=L.aS;have zS:=L.zS;have vS:=L.vS;have tC:=L.tC;have aC:=L.aC;have zC:=L.zC;have vC:=L.vC;have tU:=L.tU;have aU:=L.aU;have zU:=L.zU;have vU:=L.vU;have aE:=L.aE;have zE:=L.zE
 have R:=V.row
 have eg:=V.eg
 have CMP:Aside (CmpLays P g #[] enc k cf blk off d0.size w0):=V.cmp
 have LT:Aside (∀x y,decide (cf x y<0)=tlt lt x y):=V.less
 have S0:Aside (SWK enc k w0 blk off d w):=S
 have HR:Aside (Runs lt a m b d):=hr
 clear S hr
 have q0:((m:Int) - (a:Int)==1)=false:=zl
 have q1:((b:Int) - (m:Int)==1)=true:=zl
 have H1:Aside (b=m+1):=h1
 clear h0 h1
 go_enter V.fM,ntmps257
 go_wp2
 clear q0 q1
 go_loopg [14,15] (m - a) (fun kx s10 s11 wr=>∃(i j:Nat),s10= .int .i64 (i:Int)/\s11= .int .i64 (j:Int)/\a<=i/\i<=j/\j<=m/\j - i<=kx/\Aside ((a<i->tlt lt d[m]! d[i - 1]! =false)/\(j<m->tlt lt d[m]! d[j]! =true))/\Aside (SWK enc k w0 blk off d wr))
 case atStart=>exact ⟨a,m,rfl,rfl,jL _,zj,jL _,jL _,⟨fun h=>zj,fun h=>zj⟩,S0⟩
 case round=>
  clear S0
  obtain ⟨i,j,rfl,rfl,hi,hij,hj,hkx,ED,S1⟩:=hrel
  by_cases hlt:i<j
  ·have hltz:decide ((i:Int)<(j:Int))=true:=by simp;omega
   go_wp2_with fail
   obtain ⟨h,hh⟩:∃h:Nat,h=(i+j) / 2:=⟨_,rfl⟩
   have hi1:i<=h:=zj
   have hi2:h<j:=zj
   have hz:((i:Int)+(j:Int)) / 2=(h:Int):=zj
   rw [hz]
   clear hz hh
   have ex:((m:Int)).toNat=m:=zj
   have px:(0:Int)<=(m:Int):=zj
   have bdx:(m:Int)<(d.size:Int):=zj
   have rx:IntKind.i64.wrap ((m:Int))=(m:Int):=zr
   have ey:((h:Int)).toNat=h:=zj
   have py:(0:Int)<=(h:Int):=zj
   have bdy:(h:Int)<(d.size:Int):=zj
   have ry:IntKind.i64.wrap ((h:Int))=(h:Int):=zr
   have lx:=S1.o.ld R zj P (m) zj
   have ly:=S1.o.ld R zj P (h) zj
   have hc:=S1.o.cmp CMP.o zj d[m]! d[h]!
   have hl:=LT.o d[m]! d[h]!
   have SG:Aside (∀n os,SWK enc k w0 blk off d (grow (wr.drewN n) os)):=fun n os=>S1.o.grown n os
   generalize cf d[m]! d[h]! =z at hc hl
   have HL:=Lib.hid hl
   clear hl
   simp only [Array.append_empty] at hc
   by_cases hlv:z<0
   ·go_wp2_with fail
    go_quiet_grown (first | (go_at_fn g;refine Calls.grown_of (hc _ _)))
    have S2:Aside (SWK enc k w0 blk off d (grow (wr.drewN nq) osq)):=SG.o nq osq
    have ED2:Aside ((a<i->tlt lt d[m]! d[i - 1]! =false)/\(h<m->tlt lt d[m]! d[h]! =true)):=⟨ED.o.1,fun _=>by rw [<-HL.o];exact decide_eq_true hlv⟩
    clear lx ly hc SG S1 ED
    generalize grow (wr.drewN nq) osq=w2 at S2 |-
    go_wp2
    go_roundg (h - i)
    case measure=>omega
    case rel=>exact ⟨i,h,rfl,rfl,hi,hi1,zj,jL _,ED2,S2⟩
   go_wp2_with fail
   go_quiet_grown (first | (go_at_fn g;refine Calls.grown_of (hc _ _)))
   have S2:Aside (SWK enc k w0 blk off d (grow (wr.drewN nq) osq)):=SG.o nq osq
   have ED2:Aside ((a<h+1->tlt lt d[m]! d[h+1 - 1]! =false)/\(j<m->tlt lt d[m]! d[j]! =true)):=⟨fun _=>by rw [Nat.add_sub_cancel,<-HL.o];exact decide_eq_false zj,ED.o.2⟩
   clear lx ly hc SG S1 ED
   generalize grow (wr.drewN nq) osq=w2 at S2 |-
   have hd:(!decide (z<0))=true:=qv
   go_wp2
   go_roundg (j - (h+1))
   case measure=>omega
   case rel=>exact ⟨h+1,j,zI,rfl,zj,zj,hj,jL _,ED2,S2⟩
   rename_i hx
   exact ko0
  have hltz:decide ((i:Int)<(j:Int))=false:=zl
  obtain rfl:i=j:=zj
  have EI:=ED
  go_wp2
  clear ED
  go_loopg [17] (m - i) (fun kx s17 wv=>∃(t:Nat) (dk:Array (β×Nat)),s17= .int .i64 (t:Int)/\i<=t/\t<=m/\t - i<=kx/\dk.size=d.size/\Aside (Rot d dk t m (m+1))/\Aside (SWK enc k w0 blk off dk wv))
  case atStart=>exact ⟨m,d,rfl,hj,jL _,jL _,rfl,Rot.none d m m (m+1) zj zj (.inl rfl),S1⟩
  case round=>
   clear S1
   obtain ⟨t,dk,rfl,ht,htm,hkx2,hds,RT,S1⟩:=hrel
   by_cases hlt2:i<t
   ·obtain ⟨t',rfl⟩:∃t',t=t'+1:=⟨t - 1,zj⟩
    have hltz2:decide ((i:Int)<((t'+1:Nat):Int))=true:=zl
    have hltz3:decide ((i:Int)<(t':Int)+1)=true:=zl
    go_wp2_with fail
    have ex:((t':Int)+1).toNat=t'+1:=zj
    have px:(0:Int)<=(t':Int)+1:=zj
    have bdx:(t':Int)+1<(d.size:Int):=zj
    have rx:IntKind.i64.wrap ((t':Int)+1)=(t':Int)+1:=zr
    have ey:((t':Int)).toNat=t':=zj
    have py:(0:Int)<=(t':Int):=zj
    have bdy:(t':Int)<(d.size:Int):=zj
    have ry:IntKind.i64.wrap ((t':Int))=(t':Int):=zr
    have S2:Aside (SWK enc k w0 blk off (swp dk (t'+1) (t')) ((wr.drew.setCells blk (off+(t'+1)*k) (enc dk[t']!)).setCells blk (off+(t')*k) (enc dk[t'+1]!))):=S1.o.swapped R (t'+1) (t') zj zj
    have la:=S1.o.ld1 R zj P (t'+1) zj
    have lb:=S1.o.ld1 R zj P (t') zj
    have sa:=S1.o.st1 R zj P (t'+1) zj dk[t']!
    have sb:=S1.o.st2 R zj P (t'+1) (t') zj zj dk[t']! dk[t'+1]!
    have na:(enc dk[t'+1]!).length=k:=R.hk _
    have nb:(enc dk[t']!).length=k:=R.hk _
    generalize enc dk[t'+1]! =cI at S2 la sb na
    generalize enc dk[t']! =cJ at S2 lb sa sb nb
    clear S1
    go_big_region_o
    clear la lb sa sb
    generalize (wr.drew.setCells blk (off+(t'+1)*k) cJ).setCells blk (off+(t')*k) cI=w2 at S2 |-
    go_wp2
    go_roundg (t' - i)
    case measure=>omega
    case rel=>exact ⟨t',swp dk (t'+1) t',by first | rfl | go_num | (congr 1;omega),zj,zj,jL _,by rw [swp_size];exact hds,RT.o.down zj zj,S2⟩
   have hltz2:decide ((i:Int)<(t:Int))=false:=zl
   go_wp2
   (try simp only [Exit.inBlock,Exit.then])
   refine bodyPost_ret (results_none rfl _ _ _) rfl ?_
   have ht2:t=i:=zj
   have RT2:Rot d dk i m (m+1):=by rw [<-ht2];exact RT.o
   have h1:=H1.o
   subst h1
   exact ⟨rfl,dk,⟨permIn_mono d dk _ _ _ _ hi zg hb RT2.perm,Runs.last V.swo HR.o hi hj (fun h=>EI.o.1 h) (fun h=>EI.o.2 h) RT2⟩,S1.o⟩
