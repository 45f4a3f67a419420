import Derived.Test.YtpdbnnimdkfajaaGreatDoorHeldTk
import Derived.Test.YtpdbnnimdkfajaaGreatDoorVS06
import Derived.Test.YtpdbnnimdkfajaaGreatDoorVS10
import Derived.Deep.RegionHeld3
set_option linter.unusedSimpArgs false
set_option linter.unusedVariables false
set_option maxRecDepth 100000
set_option maxHeartbeats 64000000
namespace Go.Proofs.YtpdbnnimdkfajaaGreatDoor
open Go.Proofs.Tryz
variable {name s value:ByteArray} {f:CSta} {t:Int} {ms:List Mov} {bc bm bt k n:Nat} {ad:Nat→Addr} {v:Value} {w w':World}
section
open Go.RowKit Go.Maps
structure CellsAt (w:World) (bc bm n:Nat) (f:CSta):Prop where
 cell:w.heap[bc]? =some (.cells #[.map (some bm)] 193 (0,0))
 map:CMapAt w bm n f
theorem CellsAt.c0 (h:CellsAt w bc bm n f):w.cell? ⟨bc,0,none⟩=some (.map (some bm)):=by simp [World.cell?,h.cell]
theorem CellsAt.lt {w:World} {bc bm n:Nat} {f:CSta} (h:CellsAt w bc bm n f):bc<w.heap.size/\bm<w.heap.size:=⟨(jk.1 h.cell).1,h.map.lt⟩
theorem CellsAt.ne (h:CellsAt w bc bm n f):bc≠bm:=fun e=>by
 obtain ⟨⟨D,⟨es,clock,hb,_⟩,_⟩,_⟩:=h.map
 have:=h.cell
 rw [e,hb] at this
 cases this
theorem CellsAt.same {w w':World} {bc bm n:Nat} {f:CSta} (h:CellsAt w bc bm n f) (h1:w'.heap[bc]? =w.heap[bc]?) (h2:w'.heap[bm]? =w.heap[bm]?):CellsAt w' bc bm n f:=⟨h1.trans h.cell,h.map.same h2⟩
theorem CellsAt.later (h:CellsAt w bc bm n f) (hb:Below w.heap.size w w'):CellsAt w' bc bm n f:=h.same (hb.block _ h.lt.1) (hb.block _ h.lt.2)
theorem CellsAt.mono {w:World} {bc bm n n':Nat} {f:CSta} (h:CellsAt w bc bm n f) (hn:n<=n'):CellsAt w bc bm n' f:=⟨h.cell,h.map.mono hn⟩
theorem cellsNew (w:World):Calls prog 47 #[] w fun e w'=>e= .returned (.pointer (some ⟨w.heap.size+1,0,none⟩))/\w'=(w.alloc (.map #[] 0)).alloc (.cells #[.map (some w.heap.size)] 193):=by
 have hmm:= @run_makeMap prog
 go_enter func47,ntmps47
 go_wp2
 go_ret
 exact ⟨rfl,rfl⟩
theorem lessB_clt (a b:Int×Int):lessB a.1 a.2 b.1 b.2=decide (CLt a b):=by
 unfold lessB CLt
 by_cases h:a.1=b.1
 ·rw [if_pos h]
  simp [h]
 rw [if_neg h]
 simp [h]
def CPutOk (w:World) (bc bm n:Nat) (f:CSta) (m:CKey×CMark) (w':World):Prop:=CellsAt w' bc bm (n+1) (setC f m)/\Keeps (fun j=>j=bm) w w'
theorem put_any (w:World) (bc bm n:Nat) (f:CSta) (a:Int) (s c:ByteArray) (t b:Int) (h:CellsAt w bc bm n f) (hn:n<=1000000) (hk:WfK (a,s)):
  Calls prog 195 #[.pointer (some ⟨bc,0,none⟩),.agg #[.int .i64 a,.string s],.agg #[.string c,.int .i64 t,.int .i64 b]] w fun e w'=>e= .returned (.bool (goesC f (a,s) (c,(t,b))))/\CPutOk w bc bm n f ((a,s),(c,(t,b))) w':=by
 obtain ⟨S,hS⟩:=za w.heap.size
 obtain ⟨U,hU⟩:=za ((w.alloc (.cells #[.int .i64 a,.string s] 234)).alloc (.cells #[.string c,.int .i64 t,.int .i64 b] 236))
 have hKU:Keeps (fun _=>False) w U:=by rw [hU];exact ((Keeps.refl _ w).alloc _).alloc _
 have hsU:U.heap.size=S+2:=by rw [hU,hS];simp
 have hu1:U.heap[S+1]? =some (.cells #[.string c,.int .i64 t,.int .i64 b] 236 (0,0)):=by
  have:=heap_alloc_new (w.alloc (.cells #[.int .i64 a,.string s] 234)) (.cells #[.string c,.int .i64 t,.int .i64 b] 236)
  rw [jI] at this
  rw [hU,hS]
  exact this
 have hu0:U.heap[S]? =some (.cells #[.int .i64 a,.string s] 234 (0,0)):=by
  rw [hU,hS,jp _ _ _ zm]
  exact heap_alloc_new w _
 have hA:CellsAt U bc bm n f:=h.same (hKU.block _ h.lt.1 (fun e=>e)) (hKU.block _ h.lt.2 (fun e=>e))
 obtain ⟨Z,hZ⟩:=za (U.alloc (.cells #[.string ⟨#[]⟩,.int .i64 0,.int .i64 0] 236))
 have hbZ:Below U.heap.size U Z:=by rw [hZ];exact zg U _
 have hAZ:CellsAt Z bc bm n f:=hA.later hbZ
 have c0:U.cell? ⟨bc,0,none⟩=some (.map (some bm)):=hA.c0
 have c1:=hAZ.c0
 have l0:=(hA.later (jo _ U).drew).map.look hk
 have l1:=(hAZ.later (jo _ Z).drew).map.look hk
 have k0:U.cell? ⟨S,0,none⟩=some (.int .i64 a):=by simp [World.cell?,hu0]
 have k1:U.cell? ⟨S,1,none⟩=some (.string s):=by simp [World.cell?,hu0]
 have j0:Z.cell? ⟨S,0,none⟩=some (.int .i64 a):=(hbZ.cell (p:=⟨S,0,none⟩) zN).trans k0
 have j1:Z.cell? ⟨S,1,none⟩=some (.string s):=(hbZ.cell (p:=⟨S,1,none⟩) zN).trans k1
 unfold encK at l0 l1
 cases hf:f (a,s) with
 | none=>
  have hg:goesC f (a,s) (c,(t,b))=true:=by unfold goesC;rw [hf]
  rw [hg]
  rw [hf] at l0 l1
  simp only [Option.getD_none,Option.isSome_none] at l0 l1
  unfold encC zeroC at l0 l1
  dsimp only at l0 l1
  have HA:Aside (CellsAt U bc bm n f/\Keeps (fun _=>False) w U/\U.heap.size=S+2/\U.heap[S]? =some (.cells #[.int .i64 a,.string s] 234 (0,0))/\U.heap[S+1]? =some (.cells #[.string c,.int .i64 t,.int .i64 b] 236 (0,0))):=⟨hA,hKU,hsU,hu0,hu1⟩
  clear hA hKU hu0 hu1 hAZ hbZ h hg
  subst hZ
  go_enter func195,ntmps195
  go_wp2_with fail
  rw [<-hU,<-hS]
  have HS:Aside (S=w.heap.size):=hS
  clear hU hS
  have hu1':=HA.o.2.2.2.2
  have hbV:=(jo U.heap.size U).alloc ze (.cells #[.string ⟨#[]⟩,.int .i64 0,.int .i64 0] 236)
  have m0:(U.alloc (.cells #[.string ⟨#[]⟩,.int .i64 0,.int .i64 0] 236)).cell? ⟨S+1,0,none⟩=some (.string c):=(hbV.cell (p:=⟨S+1,0,none⟩) zN).trans xj
  have m1:(U.alloc (.cells #[.string ⟨#[]⟩,.int .i64 0,.int .i64 0] 236)).cell? ⟨S+1,1,none⟩=some (.int .i64 t):=(hbV.cell (p:=⟨S+1,1,none⟩) zN).trans xj
  have m2:(U.alloc (.cells #[.string ⟨#[]⟩,.int .i64 0,.int .i64 0] 236)).cell? ⟨S+1,2,none⟩=some (.int .i64 b):=(hbV.cell (p:=⟨S+1,2,none⟩) zN).trans xj
  obtain ⟨w2,hrun,hM2,hT2⟩:=((HA.o.1.later hbV).later (jo _ _).drew |>.later (jo _ _).drew).map.store zD hk (c,(t,b))
  have HP:Aside (CPutOk w bc bm n f ((a,s),(c,(t,b))) w2):=by
   have hKV:=keeps_of_grown hT2.grown
   have hne:=HA.o.1.ne
   have hlt:=HA.o.1.lt
   have hs2:=hbV.size
   refine ⟨⟨?_,?_⟩,?_⟩
   ·rw [hKV.block bc (by simp [World.drew];omega) (fun e=>hne zZ)]
    exact (hbV.block bc hlt.1).trans HA.o.1.cell
   ·have:setC f ((a,s),(c,(t,b)))=fun x=>if x=(a,s) then some (c,(t,b)) else f x:=setC_goes (by unfold goesC;rw [hf])
    rw [this]
    exact hM2
   exact ((HA.o.2.1.mono (fun _ _ e=>e.elim)).then (((keeps_of_below hbV).drew).drew) (fun i hi e=>by have:=HA.o.2.1.size;omega)).then hKV (fun i hi e=>zZ)
  unfold encK encC at hrun
  dsimp only at hrun
  have HR:=HP
  clear hM2 hT2 hbV hu1'
  go_region
  all_goals
   go_wp2_with fail
   go_region
  all_goals
   go_wp2
   go_ret
   exact ⟨rfl,HP.o⟩
 | some o=>
  obtain ⟨vo,tO,bo⟩:=o
  rw [hf] at l0 l1
  simp only [uC,Option.isSome_some] at l0 l1
  unfold encC at l0 l1
  dsimp only at l0 l1
  obtain ⟨V,hV⟩:=za ((U.alloc (.cells #[.string vo,.int .i64 tO,.int .i64 bo] 236)).drew)
  have hbV:Below U.heap.size U V:=by rw [hV];exact ((jo U.heap.size U).alloc ze _).drew
  have hv1:V.heap[S+1]? =some (.cells #[.string c,.int .i64 t,.int .i64 b] 236 (0,0)):=(hbV.block _ zi).trans hu1
  have hv0:V.heap[S]? =some (.cells #[.int .i64 a,.string s] 234 (0,0)):=(hbV.block _ zi).trans hu0
  have hv2:V.heap[S+2]? =some (.cells #[.string vo,.int .i64 tO,.int .i64 bo] 236 (0,0)):=by
   rw [hV,<-hsU]
   exact heap_alloc_new U _
  have hKV:Keeps (fun _=>False) w V:=(hKU.then (keeps_of_below hbV) (fun i hi e=>by have:=hKU.size;omega))
  have hAV:CellsAt V bc bm n f:=hA.later hbV
  have hsV:V.heap.size=S+3:=by rw [hV];show (U.alloc _).heap.size=_;rw [jI,hsU]
  have hg:goesC f (a,s) (c,(t,b))=lessB tO bo t b:=by unfold goesC;rw [hf];exact (lessB_clt (tO,bo) (t,b)).symm
  rw [hg]
  have HA:Aside (CellsAt V bc bm n f/\Keeps (fun _=>False) w V/\V.heap.size=S+3/\V.heap[S]? =some (.cells #[.int .i64 a,.string s] 234 (0,0))/\V.heap[S+1]? =some (.cells #[.string c,.int .i64 t,.int .i64 b] 236 (0,0))/\V.heap[S+2]? =some (.cells #[.string vo,.int .i64 tO,.int .i64 bo] 236 (0,0))/\goesC f (a,s) (c,(t,b))=lessB tO bo t b):=⟨hAV,hKV,hsV,hv0,hv1,hv2,hg⟩
  have x1:V.cell? ⟨S+1,1,none⟩=some (.int .i64 t):=by simp [World.cell?,hv1]
  have x2:V.cell? ⟨S+1,2,none⟩=some (.int .i64 b):=by simp [World.cell?,hv1]
  have y1:V.cell? ⟨S+2,1,none⟩=some (.int .i64 tO):=yq
  have y2:V.cell? ⟨S+2,2,none⟩=some (.int .i64 bo):=yq
  clear hA hKU hu0 hu1 hAZ hbZ h hg hbV hv0 hv1 hv2 hKV hAV hsV
  subst hZ
  go_enter func195,ntmps195
  go_wp2_with fail
  rw [<-hU,<-hS]
  have HS:Aside (S=w.heap.size):=hS
  clear hU hS
  go_region
  all_goals
   rw [<-hV]
   clear l0 l1 c0 c1 k0 k1 j0 j1 hV
   go_wp2_with fail
   refine (less_any tO bo t b _).mono ?_
   rintro e w3 ⟨rfl,hb3⟩
   have hA3:CellsAt w3 bc bm n f:=HA.o.1.later hb3
   have hK3:Keeps (fun _=>False) w w3:=HA.o.2.1.then (keeps_of_below hb3) (fun i hi e=>by have:=HA.o.2.1.size;omega)
   cases hl:lessB tO bo t b with
   | false=>
    have HP:Aside (CPutOk w bc bm n f ((a,s),(c,(t,b))) w3):=by
     have:setC f ((a,s),(c,(t,b)))=f:=setC_stays (HA.o.2.2.2.2.2.2.trans hl)
     exact ⟨by rw [this];exact hA3.mono (Nat.le_succ n),hK3.mono (fun _ _ e=>e.elim)⟩
    clear hA3 hK3 hb3
    go_wp2
    go_ret
    exact ⟨by rw [hl];rfl,HP.o⟩
   | true=>
    obtain ⟨w2,hrun,hM2,hT2⟩:=(hA3.later (jo _ _).drew).map.store zD hk (c,(t,b))
    have HP:Aside (CPutOk w bc bm n f ((a,s),(c,(t,b))) w2):=by
     have hKV:=keeps_of_grown hT2.grown
     refine ⟨⟨?_,?_⟩,?_⟩
     ·rw [hKV.block bc hA3.lt.1 (fun e=>hA3.ne zZ)]
      exact hA3.cell
     ·have:setC f ((a,s),(c,(t,b)))=fun x=>if x=(a,s) then some (c,(t,b)) else f x:=setC_goes (HA.o.2.2.2.2.2.2.trans hl)
      rw [this]
      exact hM2
     exact ((hK3.mono (fun _ _ e=>e.elim)).drew).then hKV (fun i hi e=>zZ)
    have c3:=hA3.c0
    have hs3:=HA.o.2.2.1
    have k0:w3.cell? ⟨S,0,none⟩=some (.int .i64 a):=(hb3.cell (p:=⟨S,0,none⟩) zN).trans (by simp [World.cell?,HA.o.2.2.2.1])
    have k1:w3.cell? ⟨S,1,none⟩=some (.string s):=(hb3.cell (p:=⟨S,1,none⟩) zN).trans (by simp [World.cell?,HA.o.2.2.2.1])
    have m0:w3.cell? ⟨S+1,0,none⟩=some (.string c):=(hb3.cell (p:=⟨S+1,0,none⟩) zN).trans yS
    have m1:w3.cell? ⟨S+1,1,none⟩=some (.int .i64 t):=(hb3.cell (p:=⟨S+1,1,none⟩) zN).trans yS
    have m2:w3.cell? ⟨S+1,2,none⟩=some (.int .i64 b):=(hb3.cell (p:=⟨S+1,2,none⟩) zN).trans yS
    unfold encK encC at hrun
    dsimp only at hrun
    clear hA3 hK3 hb3 hM2 hT2 hs3
    go_wp2_with fail
    go_region
    all_goals
     go_wp2
     go_ret
     exact ⟨by rw [hl];rfl,HP.o⟩
end
section
open Go.RowKit Go.Maps
def setE_ (x:OpX):Nat:=if errO x=0 then (if x.2.2.2.1=115 then 0 else 5) else errO x
def setD (f:CSta) (x:OpX):Bool:=if errO x=0/\x.2.2.2.1=115 then goesC f (keyO x) (cellO x) else false
def SetOk (w:World) (bc bm n:Nat) (f:CSta) (x:OpX) (w':World):Prop:=CellsAt w' bc bm (n+1) (stepO f x)/\Keeps (fun j=>j=bm) w w'
theorem setOk_none {x:OpX} (h:CellsAt w bc bm n f) (hx:¬(errO x=0/\x.2.2.2.1=115)) (hb:Below w.heap.size w w'):SetOk w bc bm n f x w':=by
 have:stepO f x=f:=by unfold stepO;rw [if_neg hx]
 exact ⟨by rw [this];exact (h.later hb).mono (Nat.le_succ n),(keeps_of_below hb).mono (fun k hk e=>zi)⟩
theorem wfK_op {b n:Int} {node other:Int} (h:opE t b n k node other name.data.toList value.data.toList=0) (hs:name.size<=1000000):WfK (node,name):=by
 obtain ⟨h1,h2,h3,h4,h5,h6,h7,h8,h9,_⟩:=opE_zero h
 exact wfK_of zN zN hs
theorem cset_wrong (w:World) (bc:Nat) (t b n:Int) (k:Nat) (node other:Int) (name value:ByteArray) (hE:Op4 ad w) (hsn:name.size<=1000000) (hsv:value.size<=1000000) (hop:opE t b n k node other name.data.toList value.data.toList≠0):
  Calls prog 128 #[.pointer (some ⟨bc,0,none⟩),.agg #[.int .i64 t,.int .i64 b,.int .i64 n,.int .u8 (k:Int),.int .i64 node,.int .i64 other,.string name,.string value]] w fun e w'=>e= .returned (.tuple #[.bool false,eV ad (opE t b n k node other name.data.toList value.data.toList)])/\Below w.heap.size w w':=by
 obtain ⟨w1,hw1⟩:=za (w.alloc (.cells #[.int .i64 t,.int .i64 b,.int .i64 n,.int .u8 (k:Int),.int .i64 node,.int .i64 other,.string name,.string value] 38))
 have B1:Below w.heap.size w w1:=xM
 have hck:=opcheck_any t b n k node other name value w1 (hE.later B1) hsn hsv
 obtain ⟨er,her⟩:∃er,Aside (opE t b n k node other name.data.toList value.data.toList=er):=⟨_,rfl⟩
 rw [her.o] at hck hop |-
 unfold eV at hck |-
 rw [if_neg hop] at hck |-
 have H1:Aside (Below w.heap.size w w1):=B1
 clear B1 hE hop
 go_enter func128,ntmps128
 go_wp2_with fail
 rw [<-hw1]
 clear hw1
 refine hck.mono ?_
 clear hck
 rintro e w2 ⟨rfl,hb2⟩
 have H2:Aside (Below w.heap.size w w2):=zh H1.o hb2
 clear hb2 H1
 go_wp2
 go_ret2
 exact ⟨rfl,H2.o⟩
theorem cset_kind (w:World) (bc:Nat) (t b n:Int) (k:Nat) (node other:Int) (name value:ByteArray) (hE:Op4 ad w) (hsn:name.size<=1000000) (hsv:value.size<=1000000) (hop:opE t b n k node other name.data.toList value.data.toList=0) (hk:k≠115):
  Calls prog 128 #[.pointer (some ⟨bc,0,none⟩),.agg #[.int .i64 t,.int .i64 b,.int .i64 n,.int .u8 (k:Int),.int .i64 node,.int .i64 other,.string name,.string value]] w fun e w'=>e= .returned (.tuple #[.bool false,eV ad 5])/\Below w.heap.size w w':=by
 obtain ⟨w1,hw1⟩:=za (w.alloc (.cells #[.int .i64 t,.int .i64 b,.int .i64 n,.int .u8 (k:Int),.int .i64 node,.int .i64 other,.string name,.string value] 38))
 have O1:OpAt w1 w.heap.size t b n k node other name value:=by rw [hw1];exact OpAt.new w t b n k node other name value 38
 have B1:Below w.heap.size w w1:=xM
 have hck:=opcheck_any t b n k node other name value w1 (hE.later B1) hsn hsv
 rw [hop] at hck
 have e0:eV ad 0= .nilIface:=rfl
 rw [e0] at hck
 have e5:eV ad 5= .iface 399 (.pointer (some (ad 4))):=rfl
 rw [e5]
 have H1:Aside (OpAt w1 w.heap.size t b n k node other name value/\Op4 ad w1/\Below w.heap.size w w1):=⟨O1,hE.later B1,B1⟩
 have dk:((k:Int) !=115)=true:=zk
 clear B1 hE hop O1 e0 e5
 go_enter func128,ntmps128
 go_wp2_with fail
 rw [<-hw1]
 clear hw1
 refine hck.mono ?_
 clear hck
 rintro e w2 ⟨rfl,hb2⟩
 have c3:=(H1.o.1.later hb2).c3
 have g4:=(H1.o.2.1.later hb2).c4
 have H2:Aside (Below w.heap.size w w2):=zh H1.o.2.2 hb2
 clear hb2 H1
 go_wp2_with fail
 go_quiet (fail)
 go_wp2
 go_ret2
 exact ⟨rfl,⟨H2.o.os,H2.o.tape,H2.o.output,H2.o.size,H2.o.block⟩⟩
theorem cset_ok (w:World) (bc bm m:Nat) (f:CSta) (t b n node other:Int) (name value:ByteArray) (hE:Op4 ad w) (hC:CellsAt w bc bm m f) (hm:m<=1000000) (hsn:name.size<=1000000) (hsv:value.size<=1000000) (hop:opE t b n 115 node other name.data.toList value.data.toList=0):
  Calls prog 128 #[.pointer (some ⟨bc,0,none⟩),.agg #[.int .i64 t,.int .i64 b,.int .i64 n,.int .u8 (115:Int),.int .i64 node,.int .i64 other,.string name,.string value]] w fun e w'=>e= .returned (.tuple #[.bool (goesC f (node,name) (value,(t,b))),.nilIface])/\CPutOk w bc bm m f ((node,name),(value,(t,b))) w':=by
 obtain ⟨w1,hw1⟩:=za (w.alloc (.cells #[.int .i64 t,.int .i64 b,.int .i64 n,.int .u8 (115:Int),.int .i64 node,.int .i64 other,.string name,.string value] 38))
 have O1:OpAt w1 w.heap.size t b n 115 node other name value:=by rw [hw1];exact OpAt.new w t b n 115 node other name value 38
 have B1:Below w.heap.size w w1:=xM
 have hck:=opcheck_any t b n 115 node other name value w1 (hE.later B1) hsn hsv
 have hwf:=wfK_op hop hsn
 rw [hop] at hck
 have e0:eV ad 0= .nilIface:=rfl
 rw [e0] at hck
 have H1:Aside (OpAt w1 w.heap.size t b n 115 node other name value/\CellsAt w1 bc bm m f/\Below w.heap.size w w1/\WfK (node,name)):=⟨O1,hC.later B1,B1,hwf⟩
 clear B1 hE hop O1 e0 hC hwf
 go_enter func128,ntmps128
 go_wp2_with fail
 rw [<-hw1]
 clear hw1
 refine hck.mono ?_
 clear hck
 rintro e w2 ⟨rfl,hb2⟩
 obtain ⟨c0,c1,c2,c3,c4,c5,c6,c7⟩:=H1.o.1.later hb2
 have hput:=put_any w2 bc bm m f node name value t b (H1.o.2.1.later hb2) hm H1.o.2.2.2
 have H2:Aside (Below w.heap.size w w2):=zh H1.o.2.2.1 hb2
 clear hb2 H1
 go_wp2_with fail
 refine hput.mono ?_
 clear hput
 rintro e w3 ⟨rfl,hP⟩
 have HP:Aside (CPutOk w bc bm m f ((node,name),(value,(t,b))) w3):=⟨hP.1,(keeps_of_below H2.o).mono (fun k hk e=>zi) |>.then hP.2 (fun i hi e=>e)⟩
 clear hP H2
 go_wp2
 go_ret2
 exact ⟨rfl,HP.o⟩
theorem cset_all (w:World) (bc bm m:Nat) (f:CSta) (t b n:Int) (k:Nat) (node other:Int) (name value:ByteArray) (hE:Op4 ad w) (hC:CellsAt w bc bm m f) (hm:m<=1000000) (hsn:name.size<=1000000) (hsv:value.size<=1000000):
  Calls prog 128 #[.pointer (some ⟨bc,0,none⟩),.agg #[.int .i64 t,.int .i64 b,.int .i64 n,.int .u8 (k:Int),.int .i64 node,.int .i64 other,.string name,.string value]] w fun e w'=>e= .returned (.tuple #[.bool (setD f (t,b,n,k,node,other,name,value)),eV ad (setE_ (t,b,n,k,node,other,name,value))])/\SetOk w bc bm m f (t,b,n,k,node,other,name,value) w':=by
 by_cases h0:opE t b n k node other name.data.toList value.data.toList=0
 ·by_cases hk:k=115
  ·subst hk
   have hx:errO (t,b,n,115,node,other,name,value)=0/\(115:Nat)=115:=⟨h0,rfl⟩
   have e1:setD f (t,b,n,115,node,other,name,value)=goesC f (node,name) (value,(t,b)):=by unfold setD;rw [if_pos hx];rfl
   have e2:setE_ (t,b,n,115,node,other,name,value)=0:=by unfold setE_;rw [if_pos (show errO (t,b,n,115,node,other,name,value)=0 from h0)];rfl
   have e3:stepO f (t,b,n,115,node,other,name,value)=setC f ((node,name),(value,(t,b))):=by unfold stepO;rw [if_pos hx];rfl
   rw [e1,e2]
   refine (cset_ok w bc bm m f t b n node other name value hE hC hm hsn hsv h0).mono ?_
   rintro e w' ⟨rfl,hP⟩
   exact ⟨rfl,by rw [e3];exact hP.1,hP.2⟩
  have hx:¬(errO (t,b,n,k,node,other,name,value)=0/\k=115):=fun h=>hk h.2
  have e1:setD f (t,b,n,k,node,other,name,value)=false:=by unfold setD;rw [if_neg hx]
  have e2:setE_ (t,b,n,k,node,other,name,value)=5:=by unfold setE_;rw [if_pos (show errO (t,b,n,k,node,other,name,value)=0 from h0)];exact if_neg hk
  rw [e1,e2]
  refine (cset_kind w bc t b n k node other name value hE hsn hsv h0 hk).mono ?_
  rintro e w' ⟨rfl,hb⟩
  exact ⟨rfl,setOk_none hC hx hb⟩
 have hx:¬(errO (t,b,n,k,node,other,name,value)=0/\k=115):=fun h=>h0 h.1
 have e1:setD f (t,b,n,k,node,other,name,value)=false:=by unfold setD;rw [if_neg hx]
 have e2:setE_ (t,b,n,k,node,other,name,value)=opE t b n k node other name.data.toList value.data.toList:=by unfold setE_;rw [if_neg (show ¬errO (t,b,n,k,node,other,name,value)=0 from h0)];rfl
 rw [e1,e2]
 refine (cset_wrong w bc t b n k node other name value hE hsn hsv h0).mono ?_
 rintro e w' ⟨rfl,hb⟩
 exact ⟨rfl,setOk_none hC hx hb⟩
end
section
open Go.RowKit Go.Maps
theorem emptyYes (h:s.size=0):s.toList.isEmpty=true:=by
 rw [jV]
 have:s.data.toList.length=0:=xa
 rw [jC.1 this]
 rfl
theorem emptyNo (h:s.size≠0):s.toList.isEmpty=false:=by
 rw [jV]
 have:s.data.toList.length≠0:=xa
 cases hs:s.data.toList with
 | nil=>rw [hs] at this;simp at this
 | cons a r=>rfl
end
section
open Go.RowKit Go.Maps
open scoped Classical
structure TreeAt (base:Nat) (w:World) (bt bm:Nat) (v:Value) (ms:List Mov):Prop where
 cell:TreeCell w bt bm v
 row:∃L,LogTo ms ms.length L/\w.ownsRow base 284 8 v ms.length (flat encE L)
 map:∃n,n<=300*ms.length/\MapAt prog 3 w bm n (madeBy ms)
 by_:ByStamp ms
 fine:∀m∈ms,FineP m.2
theorem TreeAt.good {base:Nat} (h:TreeAt base w bt bm v ms):Good (madeBy ms):=good_made h.fine
theorem TreeAt.lt {base:Nat} {w:World} {bt bm:Nat} {v:Value} {ms:List Mov} (h:TreeAt base w bt bm v ms):bt<w.heap.size/\bm<w.heap.size/\∀g,v.ownBlock=some g->g<w.heap.size:=by
 obtain ⟨n,_,hM⟩:=h.map
 obtain ⟨L,_,hR⟩:=h.row
 exact ⟨h.cell.lt,hM.lt,fun g hg=>(hR.lt g hg).2⟩
theorem owns_same {base:Nat} {e:TypeId} {xs:List Value} (h:w.ownsRow base e k v n xs) (hs:∀g,v.ownBlock=some g->w'.heap[g]? =w.heap[g]?):w'.ownsRow base e k v n xs:=by
 refine ⟨h.1,?_⟩
 rcases h.2 with h0 | ⟨g,cap,cur,rfl,h1,hg,h2⟩
 ·exact .inl h0
 exact .inr ⟨g,cap,cur,rfl,h1,(hs g rfl).trans hg,h2⟩
theorem TreeAt.same {base:Nat} {w w':World} {bt bm:Nat} {v:Value} {ms:List Mov} (h:TreeAt base w bt bm v ms) (h1:w'.heap[bt]? =w.heap[bt]?) (h2:w'.heap[bm]? =w.heap[bm]?) (h3:∀g,v.ownBlock=some g->w'.heap[g]? =w.heap[g]?):TreeAt base w' bt bm v ms:=by
 obtain ⟨n,hn,hM⟩:=h.map
 obtain ⟨L,hL,hR⟩:=h.row
 exact ⟨h1.trans h.cell,⟨L,hL,owns_same hR h3⟩,⟨n,hn,hM.same h2⟩,h.by_,h.fine⟩
theorem TreeAt.later {base:Nat} (h:TreeAt base w bt bm v ms) (hb:Below w.heap.size w w'):TreeAt base w' bt bm v ms:=
 h.same (hb.block _ h.lt.1) (hb.block _ h.lt.2.1) (fun g hg=>hb.block g (h.lt.2.2 g hg))
theorem move_fine {b n:Int} {node other:Int} (h:opE t b n 109 node other name.data.toList value.data.toList=0):FineP (node,other,name):=by
 have h0:=opE_zero h
 unfold opE at h
 rw [if_pos ⟨h0.1,h0.2.1,h0.2.2.1,h0.2.2.2.1,h0.2.2.2.2.1,h0.2.2.2.2.2.1⟩] at h
 unfold kindE at h
 rw [if_pos rfl] at h
 unfold moveE at h
 split at h
 ·cases h
 rename_i hc
 have hl:name.data.toList.length=name.size:=zm
 obtain ⟨_,_,_,_,_,_,_,_,_,_,_,_,h12,_⟩:=h0
 refine ⟨?_,?_,?_,?_,?_,?_⟩<;>dsimp only<;>omega
def UndoOk:Prop:=∀(w:World) (base bt bm n at_:Nat) (v:Value) (ms:List Mov) (L:List Ent),TreeCell w bt bm v->LogTo ms ms.length L->w.ownsRow base 284 8 v ms.length (flat encE L)->MapAt prog 3 w bm n (madeBy ms)->(∀m∈ms,FineP m.2)->at_<=ms.length->ms.length<=1000->n<=1000000->
  Calls prog 188 #[.pointer (some ⟨bt,0,none⟩),.int .i64 (at_:Int)] w fun e w'=>(∃u,e= .returned u)/\MapAt prog 3 w' bm (n+(ms.length - at_)) (madeBy (ms.take at_))/\Keeps (fun k=>k=bm) w w'
end
section
open Go.RowKit Go.Maps
open scoped Classical
theorem find_at (w:World) (base bt bm n:Nat) (v:Value) (ms:List Mov) (L:List Ent) (s:Int×Int) (hT:TreeCell w bt bm v) (hL:LogTo ms ms.length L) (hR:w.ownsRow base 284 8 v ms.length (flat encE L)) (hby:ByStamp ms) (hlen:ms.length<=1000) (_hM:MapAt prog 3 w bm n (madeBy ms)):
  Calls prog 187 #[.pointer (some ⟨bt,0,none⟩),.agg #[.int .i64 s.1,.int .i64 s.2]] w fun e w'=>(∃(i:Nat) (b:Bool),e= .returned (.tuple #[.int .i64 (i:Int),.bool b])/\Found ms s i b)/\Below w.heap.size w w':=by
 have hll:=hL.len
 rcases hR.2 with ⟨hv,h0⟩ | ⟨g,cap,cur,hv,_,hg,hnc,_⟩
 ·have hL0:L= []:=jC.1 zi
  subst hv
  exact find_any w bt bt 0 none L ms s hL.movs hby zi (by rw [hll,h0];exact hT.c1) (.inl hL0) hT.lt (fun j u hj=>by rw [hL0] at hj;simp [flat] at hj)
 subst hv
 exact find_any w bt g cap (some ⟨g,0,none⟩) L ms s hL.movs hby zi (by rw [hll];exact hT.c1) (.inr rfl) (jk.1 hg).1 (row_at hR)
theorem apply_core (hU:UndoOk) (w:World) (base bt bm:Nat) (v:Value) (ms:List Mov) (t b n node other:Int) (name value:ByteArray) (hE:Op4 ad w) (hT:TreeAt base w bt bm v ms) (hbase:base<=w.heap.size) (hlen:ms.length<=140)
  (hsn:name.size<=1000000) (hsv:value.size<=1000000) (hop:opE t b n 109 node other name.data.toList value.data.toList=0) (hnew:∀m∈ms,m.1≠(t,b)):
  Calls prog 125 #[.pointer (some ⟨bt,0,none⟩),.agg #[.int .i64 t,.int .i64 b,.int .i64 n,.int .u8 109,.int .i64 node,.int .i64 other,.string name,.string value]] w fun e w'=>e= .returned .nilIface/\∃v' ms',TreeAt base w' bt bm v' ms'/\ms'.Perm (((t,b),(node,other,name))::ms)/\Keeps (fun k=>k=bt\/k=bm\/some k=v.ownBlock) w w'/\(v'.ownBlock=v.ownBlock\/∀g,v'.ownBlock=some g->w.heap.size<=g):=by
 have hbx:∀o,Below w.heap.size w (w.alloc o):=fun o=>(jo _ w).alloc ze o
 obtain ⟨w1,hw1⟩:=za (w.alloc (.cells #[.int .i64 t,.int .i64 b,.int .i64 n,.int .u8 109,.int .i64 node,.int .i64 other,.string name,.string value] 38))
 have O1:OpAt w1 w.heap.size t b n 109 node other name value:=by rw [hw1];exact OpAt.new w t b n 109 node other name value 38
 have B1:Below w.heap.size w w1:=by rw [hw1];exact hbx _
 have hck:=opcheck_any t b n 109 node other name value w1 (hE.later B1) hsn hsv
 rw [hop] at hck
 have e0:eV ad 0= .nilIface:=rfl
 rw [e0] at hck
 have s1:w1.heap.size=w.heap.size+1:=xP
 have H1:Aside (OpAt w1 w.heap.size t b n 109 node other name value/\TreeAt base w1 bt bm v ms/\Below w.heap.size w w1):=⟨O1,hT.later B1,B1⟩
 have HT:Aside (TreeAt base w bt bm v ms):=hT
 clear hT B1 hE hbx e0
 go_enter func125,ntmps125
 go_wp2_with fail
 rw [<-hw1]
 clear hw1 O1
 refine hck.mono ?_
 clear hck
 rintro e w2 ⟨rfl,hb2⟩
 have H2:Aside (OpAt w2 w.heap.size t b n 109 node other name value/\TreeAt base w2 bt bm v ms/\Below w.heap.size w w2/\w.heap.size+1<=w2.heap.size):=⟨H1.o.1.later hb2,H1.o.2.1.later hb2,zh H1.o.2.2 hb2,by have:=hb2.size;omega⟩
 clear hb2 H1
 obtain ⟨c0,c1,c2,c3,c4,c5,c6,c7⟩:=H2.o.1
 have c3:w2.cell? ⟨w.heap.size,3,none⟩=some (.int .u8 109):=c3
 go_wp2_with fail
 obtain ⟨L,hL,hR⟩:=H2.o.2.1.row
 obtain ⟨nn,hnn,hM⟩:=H2.o.2.1.map
 refine (find_at w2 base bt bm nn v ms L (t,b) H2.o.2.1.cell hL hR H2.o.2.1.by_ zi hM).mono ?_
 rintro e w3 ⟨⟨i,bo,rfl,hF⟩,hb3⟩
 obtain ⟨rfl,hil,hF1,hF2⟩:=found_new hF hnew
 have H3:Aside (OpAt w3 w.heap.size t b n 109 node other name value/\TreeAt base w3 bt bm v ms/\Below w.heap.size w w3/\w.heap.size+1<=w3.heap.size/\(∀x∈ms.take i,SLt x.1 (t,b))/\(∀x∈ms.drop i,SLt (t,b) x.1)):=⟨H2.o.1.later hb3,H2.o.2.1.later hb3,zh H2.o.2.2.1 hb3,by have:=H2.o.2.2.2;have:=hb3.size;omega,hF1,hF2⟩
 clear hb3 H2 hF hF1 hF2 c0 c1 c2 c3 c4 c5 c6 c7 hM hR hL hnn
 clear L nn
 go_wp2_with fail
 obtain ⟨L,hL,hR⟩:=H3.o.2.1.row
 obtain ⟨nn,hnn,hM⟩:=H3.o.2.1.map
 refine (hU w3 base bt bm nn i v ms L H3.o.2.1.cell hL hR hM H3.o.2.1.fine hil zi zi).mono ?_
 rintro e w4 ⟨⟨u,rfl⟩,hM4,hk4⟩
 have hsz4:=hk4.size
 have htl:=H3.o.2.1.lt
 have htm:=H3.o.2.1.cell.ne_map hM
 have hbxm:w.heap.size≠bm:=by
  intro e
  obtain ⟨es,ck,hb⟩:=hM.block
  have:=H3.o.1.c0
  rw [e] at this
  simp [World.cell?,hb] at this
 have hT4:TreeCell w4 bt bm v:=(hk4.block bt htl.1 htm).trans H3.o.2.1.cell
 have hR4:w4.ownsRow base 284 8 v ms.length (flat encE L):=owns_same hR (fun g hg=>hk4.block g (htl.2.2 g hg) (by
  rcases hR.2 with ⟨hv,_⟩ | ⟨g',cap',cur,hv,_⟩
  ·rw [hv] at hg;cases hg
  ·subst hv;cases hg;exact row_ne_map hR hM))
 have hbB:w.heap.size<w3.heap.size:=by have:=H3.o.2.2.2.1;omega
 have hB4:w4.heap[w.heap.size]? =w3.heap[w.heap.size]? :=hk4.block _ hbB hbxm
 have O4:OpAt w4 w.heap.size t b n 109 node other name value:=by
  have h:=fun o=>jr (a:=⟨w.heap.size,o,none⟩) hB4
  exact ⟨(h 0).trans H3.o.1.c0,(h 1).trans H3.o.1.c1,(h 2).trans H3.o.1.c2,(h 3).trans H3.o.1.c3,(h 4).trans H3.o.1.c4,(h 5).trans H3.o.1.c5,(h 6).trans H3.o.1.c6,(h 7).trans H3.o.1.c7⟩
 have hK4:Keeps (fun k=>k=bt\/k=bm\/some k=v.ownBlock) w w4:=((keeps_of_below H3.o.2.2.1).mono (fun k hk e=>zi)).then hk4 (fun k _ e=>.inr (.inl e))
 obtain ⟨c0,c1,c2,c3,c4,c5,c6,c7⟩:=O4
 have c3:w4.cell? ⟨w.heap.size,3,none⟩=some (.int .u8 109):=c3
 have t1:=hT4.c1
 have z1:=hT4.fz 1
 go_wp2_with fail
 obtain ⟨B,hB⟩:=za w.heap.size
 rw [<-hB] at c0 c1 c2 c3 c4 c5 c6 c7 hbB hbxm |-
 have HB:Aside (B=w.heap.size):=hB
 clear hB
 have hbtg:∀g,v.ownBlock=some g->g≠bt/\g≠bm/\g<w4.heap.size:=fun g hg=>by
  rcases hR4.2 with ⟨hv,_⟩ | ⟨g',cap',cur,hv,_⟩
  ·rw [hv] at hg;cases hg
  subst hv;cases hg;exact ⟨row_ne_tree hR4 hT4,row_ne_map hR4 hM4,(hR4.lt _ rfl).2⟩
 have hxw:∀X:World,X=(w4.alloc (.cells #[.int .i64 t,.int .i64 b,.int .i64 node,.int .i64 other,.string name,.int .i64 0,.int .i64 0,.string ⟨#[]⟩] 284)).drew->Calls prog 189 #[v,.int .i64 (i:Int),.slice (some ⟨w4.heap.size,0,none⟩) 1 1] X
   fun e w'=>∃g' cap',e= .returned (.slice (some ⟨g',0,none⟩) (ms.length+1) cap')/\Aside (w'.ownsRow base 284 8 (.slice (some ⟨g',0,none⟩) (ms.length+1) cap') (ms.length+1) (flat encE (layIn L i (((t,b),(node,other,name)),zeroP)))/\Keeps (fun k=>some k=v.ownBlock) w4 w'/\(some g'=v.ownBlock\/w4.heap.size<=g'))/\w'.cell? ⟨bt,1,none⟩=some v/\w'.frozen? ⟨bt,1,none⟩=false/\(w'.cell? ⟨B,0,none⟩=some (.int .i64 t)/\w'.cell? ⟨B,1,none⟩=some (.int .i64 b)/\w'.cell? ⟨B,4,none⟩=some (.int .i64 node)/\w'.cell? ⟨B,5,none⟩=some (.int .i64 other)/\w'.cell? ⟨B,6,none⟩=some (.string name)/\w'.cell? ⟨bt,1,none⟩=some v):=by
  rintro X rfl
  obtain ⟨Y,hY⟩:=za ((w4.alloc (.cells #[.int .i64 t,.int .i64 b,.int .i64 node,.int .i64 other,.string name,.int .i64 0,.int .i64 0,.string ⟨#[]⟩] 284)).drew)
  have hnb:Y.heap[w4.heap.size]? =some (.cells #[.int .i64 t,.int .i64 b,.int .i64 node,.int .i64 other,.string name,.int .i64 0,.int .i64 0,.string ⟨#[]⟩] 284 (0,0)):=by rw [hY];exact heap_alloc_new w4 _
  have hYk:Keeps (fun _=>False) w4 Y:=by rw [hY];exact ((Keeps.refl _ w4).alloc _).drew
  have hYs:Y.heap.size=w4.heap.size+1:=by rw [hY];simp
  have hRY:=owns_same (w':=Y) hR4 (fun g hg=>hYk.block g (hbtg g hg).2.2 (fun e=>e))
  rw [<-hY]
  refine (layEnt_any Y base ms.length i v (flat encE L) (encE (((t,b),(node,other,name)),zeroP)) hRY zi w4.heap.size rfl (fun j u hj=> ?_) (encE_one _) (flat_one encE_one L) (fun e=>by have:=(hbtg _ e.symm).2.2;omega) ?_ (fun j=> ?_) (by have:=hK4.size;omega) hil).mono ?_
  ·simp only [World.cell?,hnb]
   rw [<-hj]
   simp [encE,zeroP]
  ·simp [World.shape?,hnb]
  ·simp [World.frozen?,hnb]
  rintro e w' ⟨v',rfl,ho,hk,hv'⟩
  obtain ⟨g',cap',rfl⟩:=ownsRow_succ ho
  have hkk:Keeps (fun k=>some k=v.ownBlock) w4 w':=(hYk.mono (fun _ _ e=>e.elim)).trans hk
  have hTb:=hkk.block bt zi (fun e=>(hbtg bt e.symm).1 rfl)
  have hT5:TreeCell w' bt bm v:=hTb.trans hT4
  rw [<-flat_lay encE_len L i (by rw [hL.len];exact hil)] at ho
  have hBb:=hkk.block B zi (fun e=>by have:=HT.o.lt.2.2 B e.symm;have:=HB.o;omega)
  have hBc:=fun o=>jr (a:=⟨B,o,none⟩) hBb
  refine ⟨g',cap',rfl,⟨ho,hkk,?_⟩,hT5.c1,hT5.fz 1,(hBc 0).trans c0,(hBc 1).trans c1,(hBc 4).trans c4,(hBc 5).trans c5,(hBc 6).trans c6,hT5.c1⟩
  rcases hv' with e | e
  ·exact .inl e
  right
  have:g'=Y.heap.size:=by simpa [Value.ownBlock] using e
  omega
 have t1a:∀o,(w4.alloc o).cell? ⟨bt,1,none⟩=some v:=fun o=>(jr (a:=⟨bt,1,none⟩) (jp w4 o bt hT4.lt)).trans t1
 have hbtB:bt≠B:=by have:=HT.o.lt.1;have:=HB.o;omega
 have hBbt:B≠bt:=fun e=>hbtB e.symm
 have hBl:B<w4.heap.size:=zi
 have hBn:B≠w4.heap.size:=zi
 have hBm:w4.heap.size≠B:=zi
 have htn:bt≠w4.heap.size:=by have:=hT4.lt;omega
 have htn':w4.heap.size≠bt:=by have:=hT4.lt;omega
 refine wp_region_Z (S:=(fun w'=>w'.cell? ⟨B,0,none⟩=some (.int .i64 t)/\w'.cell? ⟨B,1,none⟩=some (.int .i64 b)/\w'.cell? ⟨B,4,none⟩=some (.int .i64 node)/\w'.cell? ⟨B,5,none⟩=some (.int .i64 other)/\w'.cell? ⟨B,6,none⟩=some (.string name)/\w'.cell? ⟨bt,1,none⟩=some v)) (z:=20) zj ⟨c0,c1,c4,c5,c6,t1⟩ (fun hHeld=> ?_)
 refine wpAnyZ_free (i:=0) (v:= ?v0) zo rfl zj zj zj (fun _ _ _ h=>h) (Or.inl ⟨zu,?hy0⟩) hHeld ?rest0
 case hy0=>(intro w' _;go_simp;try with_reducible rfl)
 simp only [Act.put,jq,jx,jy]
 refine wpAnyZ_free (i:=1) (v:= ?v1) zo rfl zj zj zj (fun _ _ _ h=>h) (Or.inl ⟨zu,?hy1⟩) hHeld ?rest1
 case hy1=>(intro w' _;go_simp;try with_reducible rfl)
 simp only [Act.put,jq,jx,jy]
 refine wpAnyZ_free (i:=2) (v:= ?v2) zo rfl zj zj zj (fun _ _ _ h=>h) (Or.inl ⟨zu,?hy2⟩) hHeld ?rest2
 case hy2=>(intro w' _;go_simp;try with_reducible rfl)
 simp only [Act.put,jq,jx,jy]
 refine wpAnyZ_free (i:=3) (v:= ?v3) zo rfl zj zj zj (fun _ _ _ h=>h) (Or.inl ⟨zu,?hy3⟩) hHeld ?rest3
 case hy3=>(intro w' _;go_simp;try with_reducible rfl)
 simp only [Act.put,jq,jx,jy]
 refine wpAnyZ_take (i:=4) (v:= ?v4) zo zj rfl zj zj zj zj (fun _ _ _ h=>h) (Or.inl ⟨zu,?hy4⟩) hHeld ?rest4
 case hy4=>(intro w' hSw;obtain ⟨k0,k1,k4,k5,k6,k7⟩:=hSw;go_simp;try with_reducible rfl)
 simp only [Act.put,jq,jx,jy]
 refine wpAnyZ_free (i:=5) (v:= ?v5) zo rfl zj zj zj (fun _ _ _ h=>h) (Or.inl ⟨zu,?hy5⟩) hHeld ?rest5
 case hy5=>(intro w' _;go_simp;try with_reducible rfl)
 simp only [Act.put,jq,jx,jy]
 refine wpAnyZ_free (i:=6) (v:= ?v6) zo rfl zj zj zj (fun _ _ _ h=>h) (Or.inl ⟨zu,?hy6⟩) hHeld ?rest6
 case hy6=>(intro w' _;go_simp;try with_reducible rfl)
 simp only [Act.put,jq,jx,jy]
 refine wpAnyZ_take (i:=7) (v:= ?v7) zo zj rfl zj zj zj zj (fun _ _ _ h=>h) (Or.inl ⟨zu,?hy7⟩) hHeld ?rest7
 case hy7=>(intro w' hSw;obtain ⟨k0,k1,k4,k5,k6,k7⟩:=hSw;go_simp;try with_reducible rfl)
 simp only [Act.put,jq,jx,jy]
 refine wpAnyZ_free (i:=8) (v:= ?v8) zo rfl zj zj zj (fun _ _ _ h=>h) (Or.inl ⟨zu,?hy8⟩) hHeld ?rest8
 case hy8=>(intro w' _;go_simp;try with_reducible rfl)
 simp only [Act.put,jq,jx,jy]
 refine wpAnyZ_take (i:=9) (v:= ?v9) zo zj rfl zj zj zj zj (fun _ _ _ h=>h) (Or.inl ⟨zu,?hy9⟩) hHeld ?rest9
 case hy9=>(intro w' hSw;obtain ⟨k0,k1,k4,k5,k6,k7⟩:=hSw;go_simp;try with_reducible rfl)
 simp only [Act.put,jq,jx,jy]
 refine wpAnyZ_free (i:=10) (v:= ?v10) zo rfl zj zj zj (fun _ _ _ h=>h) (Or.inl ⟨zu,?hy10⟩) hHeld ?rest10
 case hy10=>(intro w' _;go_simp;try with_reducible rfl)
 simp only [Act.put,jq,jx,jy]
 refine wpAnyZ_take (i:=11) (v:= ?v11) zo zj rfl zj zj zj zj (fun _ _ _ h=>h) (Or.inl ⟨zu,?hy11⟩) hHeld ?rest11
 case hy11=>(intro w' hSw;obtain ⟨k0,k1,k4,k5,k6,k7⟩:=hSw;go_simp;try with_reducible rfl)
 simp only [Act.put,jq,jx,jy]
 refine wpAnyZ_free (i:=12) (v:= ?v12) zo rfl zj zj zj (fun _ _ _ h=>h) (Or.inl ⟨zu,?hy12⟩) hHeld ?rest12
 case hy12=>(intro w' _;go_simp;try with_reducible rfl)
 simp only [Act.put,jq,jx,jy]
 refine wpAnyZ_take (i:=13) (v:= ?v13) zo zj rfl zj zj zj zj (fun _ _ _ h=>h) (Or.inl ⟨zu,?hy13⟩) hHeld ?rest13
 case hy13=>(intro w' hSw;obtain ⟨k0,k1,k4,k5,k6,k7⟩:=hSw;go_simp;try with_reducible rfl)
 simp only [Act.put,jq,jx,jy]
 refine wpAnyZ_free (i:=14) (v:= ?v14) zo rfl zj zj zj (fun _ _ _ h=>h) (Or.inl ⟨zu,?hy14⟩) hHeld ?rest14
 case hy14=>(intro w' _;go_simp;try with_reducible rfl)
 simp only [Act.put,jq,jx,jy]
 refine wpAnyZ_free (i:=15) (v:= ?v15) zo rfl zj zj zj (fun _ _ _ h=>h) (Or.inl ⟨zu,?hy15⟩) hHeld ?rest15
 case hy15=>(intro w' _;go_simp;try with_reducible rfl)
 simp only [Act.put,jq,jx,jy]
 refine wpAnyZ_one (i:=16) zj rfl (fun K hK=> ?_)
 go_simp
 refine hK _ _ (.inl ?s16) ?n16
 case s16=>
  have hbl:=fun o=>jr (a:=⟨B,o,none⟩) (jp w4 (.cells #[.int .i64 t,.int .i64 b,.int .i64 node,.int .i64 other,.string name,.int .i64 0,.int .i64 0,.string ⟨#[]⟩] 284) B hBl)
  exact ⟨(hbl 0).trans c0,(hbl 1).trans c1,(hbl 4).trans c4,(hbl 5).trans c5,(hbl 6).trans c6,t1a _⟩
 clear hK K hHeld
 refine wpAnyZ_one (i:=17) zj rfl (fun K hK=> ?_)
 go_simp
 refine (hxw _ rfl).mono ?_
 rintro e w5 ⟨g',cap',rfl,H5,u1,u2,u3⟩
 refine hK _ _ (.inl u3) ?_
 clear hK K
 refine qn ?_
 refine wpAnyZ_free (i:=18) (v:= ?v18) zo rfl zj zj zj (fun _ _ _ h=>h) (Or.inl ⟨zu,?hy18⟩) u3 ?rest18
 case hy18=>(intro w' _;go_simp;try with_reducible rfl)
 refine qn ?_
 refine wpAnyZ_free (i:=19) (v:= ?v19) zo rfl zj zj zj (fun _ _ _ h=>h) (Or.inl ⟨zu,?hy19⟩) u3 ?rest19
 case hy19=>(intro w' _;go_simp;try with_reducible rfl)
 refine qn ?_
 refine wpAnyZ_one (i:=20) zj rfl (fun K hK=> ?_)
 go_simp
 refine hK _ _ (.inr ⟨rfl,zo⟩) ?_
 clear hK K
 refine wpAnyZ_done zj ?_ _
 obtain ⟨w6,hw6⟩:=za (w5.setCell ⟨bt,1,none⟩ (.slice (some ⟨g',0,none⟩) (ms.length+1) cap'))
 rw [<-hw6]
 have hk45:=H5.o.2.1
 have hT5:TreeCell w5 bt bm v:=(hk45.block bt hT4.lt (fun e=>(hbtg bt e.symm).1 rfl)).trans hT4
 have hM5:=hM4.same (hk45.block bm hM4.lt (fun e=>(hbtg bm e.symm).2.1 rfl))
 have hgbt:=row_ne_tree H5.o.1 hT5
 have hgbm:=row_ne_map H5.o.1 hM5
 have hk56:Keeps (fun k=>k=bt) w5 w6:=by rw [hw6];exact setCells_keeps bt [_] 1 w5
 have hT6:TreeCell w6 bt bm (.slice (some ⟨g',0,none⟩) (ms.length+1) cap'):=by rw [hw6];exact heap_setCell_same w5 bt 1 _ _ _ hT5
 have hM6:=hM5.same (hk56.block bm hM5.lt (fun e=>htm e.symm))
 have hgl5:=(H5.o.1.lt g' rfl).2
 have hR6:=row_same H5.o.1 (hk56.block g' hgl5 hgbt)
 have hlen':(insAt ms i ((t,b),(node,other,name))).length=ms.length+1:=insAt_length _ _ _
 have hL6:=layIn_to (m:=((t,b),(node,other,name))) hL hil zeroP
 have hfine':∀m∈insAt ms i ((t,b),(node,other,name)),FineP m.2:=fun m hm=>by
  rcases jn.1 ((insAt_perm ms i _).mem_iff.1 hm) with rfl | hm
  ·exact move_fine hop
  exact H3.o.2.1.fine m hm
 have hdo:=do_any w6 bt bm base g' cap' i (nn+(ms.length - i)) (layIn L i (((t,b),(node,other,name)),zeroP)) (insAt ms i ((t,b),(node,other,name))) (by rw [hlen'];exact hT6) (by rw [hlen'];exact hR6) hL6 (by rw [insAt_take hil];exact hM6) hfine' zi zi zi
 have hKF:Aside (Keeps (fun k=>k=bt\/k=bm\/some k=v.ownBlock) w w6/\TreeCell w6 bt bm (.slice (some ⟨g',0,none⟩) (ms.length+1) cap')/\(some g'=v.ownBlock\/w.heap.size<=g')/\g'≠bt/\bm≠bt/\bt<w6.heap.size):=
  ⟨(hK4.then hk45 (fun _ _ e=>.inr (.inr e))).then hk56 (fun _ _ e=>.inl e),hT6,H5.o.2.2.imp id (fun h=>by have:=hK4.size;omega),hgbt,fun e=>htm e.symm,hT6.lt⟩
 have hHi:Aside (ByStamp (insAt ms i ((t,b),(node,other,name)))/\(∀m∈insAt ms i ((t,b),(node,other,name)),FineP m.2)):=⟨insAt_by H3.o.2.1.by_ H3.o.2.2.2.2.1 H3.o.2.2.2.2.2,hfine'⟩
 clear hw6 hk45 hT5 hM5 hgbt hgbm hk56 hT6 hM6 hgl5 hR6 hL6 H5 u1 u2 u3 hxw c0 c1 c2 c3 c4 c5 c6 c7 t1 z1 t1a hfine' hK4 hR4 hT4 hM4 hk4 hB4
 go_wp2_with fail
 refine hdo.mono ?_
 clear hdo
 rintro e w7 ⟨⟨u',rfl⟩,L',n',hL',hown',hM',hn',hk'⟩
 have FIN:Aside (∃v' ms',TreeAt base w7 bt bm v' ms'/\ms'.Perm (((t,b),(node,other,name))::ms)/\Keeps (fun k=>k=bt\/k=bm\/some k=v.ownBlock) w w7/\(v'.ownBlock=v.ownBlock\/∀g,v'.ownBlock=some g->w.heap.size<=g)):=by
  have hgn:=hKF.o.2.2.2.1
  refine ⟨.slice (some ⟨g',0,none⟩) (ms.length+1) cap',insAt ms i ((t,b),(node,other,name)),⟨?_,⟨L',hL',by rw [hlen'] at hown' |-;exact hown'⟩,⟨n',zi,hM'⟩,hHi.o.1,hHi.o.2⟩,insAt_perm _ _ _,?_,?_⟩
  ·exact (hk'.block bt hKF.o.2.2.2.2.2 (fun e=>e.elim (fun e=>hKF.o.2.2.2.2.1 e.symm) (fun e=>hgn e.symm))).trans hKF.o.2.1
  ·refine hKF.o.1.then hk' (fun k hk e=> ?_)
   rcases e with e | e
   ·exact .inr (.inl e)
   rcases hKF.o.2.2.1 with h | h
   ·exact .inr (.inr (by rw [e];exact h))
   omega
  rcases hKF.o.2.2.1 with h | h
  ·exact .inl h
  exact .inr (fun g hg=>by cases hg;exact h)
 clear hL' hown' hM' hk' hKF hHi hn'
 go_wp2
 go_ret
 exact ⟨rfl,FIN.o⟩
