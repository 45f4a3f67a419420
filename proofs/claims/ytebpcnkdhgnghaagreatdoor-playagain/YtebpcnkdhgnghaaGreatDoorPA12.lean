import Derived.Test.YtebpcnkdhgnghaaGreatDoorHeldTk
import Derived.Test.YtebpcnkdhgnghaaGreatDoorPA05
import Derived.Test.YtebpcnkdhgnghaaGreatDoorPA06
import Derived.Test.YtebpcnkdhgnghaaGreatDoorPA07
import Derived.Laws.Cover1
set_option linter.unusedSimpArgs false
set_option linter.unusedVariables false
set_option maxRecDepth 100000
set_option maxHeartbeats 64000000
namespace Go.Proofs.YtebpcnkdhgnghaaGreatDoor
open Go.Proofs.Tryz
variable {T b other t:Int} {name value:List UInt8} {i k n o pb v:Nat} {x:OpX} {W w w' w0 w1:World}
section
open Go.RowKit
structure But (pb:Nat) (w w':World):Prop where
 os:w'.os=w.os
 tape:w'.tape=w.tape
 output:w'.output=w.output
 size:w.heap.size<=w'.heap.size
 block:∀k,k<w.heap.size->k≠pb->w'.heap[k]? =w.heap[k]?
theorem But.of_below (h:Below w.heap.size w w'):But pb w w':=⟨h.os,h.tape,h.output,h.size,fun k hk _=>h.block k hk⟩
theorem But.later (h:But pb w w1) (hb:Below w1.heap.size w1 w'):But pb w w':=
 ⟨hb.os.trans h.os,hb.tape.trans h.tape,hb.output.trans h.output,jM h.size hb.size,fun k hk hn=>(hb.block k (jW hk h.size)).trans (h.block k hk hn)⟩
theorem But.setCell {pb o:Nat} {w w1:World} (h:But pb w w1) (v:Value):But pb w (w1.setCell ⟨pb,o,none⟩ v):=by
 have hb:Below 0 w1 (w1.setCell ⟨pb,o,none⟩ v):=(jN 0 w1).setCell (jX _) v
 exact ⟨hb.os.trans h.os,hb.tape.trans h.tape,hb.output.trans h.output,jM h.size hb.size,fun k hk hn=>(Below.heap_setCell w1 ⟨pb,o,none⟩ v k hn).trans (h.block k hk hn)⟩
theorem Ms (b:Int) (w:World) (h3:0<=b) (h4:b<4):
  Calls prog 65 #[.int .i64 b] w fun e w'=>e= .returned (.tuple #[.pointer (some ⟨w.heap.size,0,none⟩),.nilIface])/\w'=w.alloc (.cells #[.int .i64 0,.int .i64 b] 108):=by
 go_enter func65,ntmps65
 go_wp2
 go_ret2
 exact ki0
structure Clk (pb:Nat) (T b:Int) (w:World):Prop where
 t:w.cell? ⟨pb,0,none⟩=some (.int .i64 T)
 b:w.cell? ⟨pb,1,none⟩=some (.int .i64 b)
 f:w.frozen? ⟨pb,0,none⟩=false
theorem Clk.lt (h:Clk pb T b w):pb<w.heap.size:=jR w ⟨pb,0,none⟩ h.t
theorem Clk.later (h:Clk pb T b w) (hb:Below w.heap.size w w'):Clk pb T b w':=
 ⟨cell_later hb h.t,cell_later hb h.b,(hb.frozen (p:=⟨pb,0,none⟩) h.lt).trans h.f⟩
theorem Clk.set (h:Clk pb T b w) (T':Int):Clk pb T' b (w.setCell ⟨pb,0,none⟩ (.int .i64 T')):=
 ⟨World.cell?_setCell_same _ _ _ h.t,(World.cell?_setCell_other _ _ _ _ zq).trans h.b,by rw [World.frozen?_setCell];exact h.f⟩
theorem Fc (pb:Nat) (T c:Int) (w:World) (eb:Value) (hg:w.cell? ⟨2,0,none⟩=some eb) (hC:Clk pb T c w) (hT:1073741824<=T):
  Calls prog 359 #[.pointer (some ⟨pb,0,none⟩)] w fun e w'=>e= .returned (.tuple #[.agg #[.int .i64 0,.int .i64 0],eb])/\Below w.heap.size w w':=by
 obtain ⟨k0,k1,kf⟩:=hC
 have hz:2<w.heap.size:=jR w ⟨2,0,none⟩ hg
 have hp:pb<w.heap.size:=jR w ⟨pb,0,none⟩ k0
 go_enter func359,ntmps359
 go_wp2
 go_region
 all_goals try go_wp2
 exact bodyPost_ret (v:=.tuple #[.agg #[.int .i64 0,.int .i64 0],eb]) jm rfl ⟨rfl,(zh _ _).drew⟩
theorem LH (pb:Nat) (T c:Int) (w:World) (hC:Clk pb T c w) (h0:0<=T) (hT:T<1073741824):
  Calls prog 359 #[.pointer (some ⟨pb,0,none⟩)] w fun e w'=>e= .returned (.tuple #[.agg #[.int .i64 (T+1),.int .i64 c],.nilIface])/\But pb w w'/\Clk pb (T+1) c w':=by
 obtain ⟨k0,k1,kf⟩:=hC
 have hp:pb<w.heap.size:=jR w ⟨pb,0,none⟩ k0
 go_enter func359,ntmps359
 go_wp2
 exact bodyPost_ret (v:=.tuple #[.agg #[.int .i64 (T+1),.int .i64 c],.nilIface]) jm rfl
  ⟨rfl,((But.of_below (jN _ _)).setCell _).later (zh _ _),(Clk.set (T:=T) ⟨k0,k1,kf⟩ (T+1)).later (zh _ _)⟩
end
section
open Go.RowKit
def Fu (pb:Nat) (T t:Int) (w w':World):Prop:=(T<t/\∃W,Below w.heap.size w W/\w'.heap=(W.setCell ⟨pb,0,none⟩ (.int .i64 t)).heap/\Keeps (fun k=>k=pb) W w')\/(¬T<t/\Below w.heap.size w w')
theorem Lg (pb:Nat) (T c t b:Int) (w:World) (hC:Clk pb T c w) (h1:1<=t) (h2:t<=1073741824) (h3:0<=b) (h4:b<4):
  Calls prog 198 #[.pointer (some ⟨pb,0,none⟩),.agg #[.int .i64 t,.int .i64 b]] w fun e w'=>e= .returned .nilIface/\Fu pb T t w w':=by
 have C0:=hC.later ((jN _ _).alloc zg (.cells #[.int .i64 t,.int .i64 b] 59))
 have hlt:=hC.lt
 clear hC
 by_cases hgt:T<t
 ·have HT:Aside (T<t):=hgt
  go_enter func198,ntmps198
  go_wp2_with fail
  refine (kq t b _ h1 h2 h3 h4).mono ?_
  rintro e w1 ⟨rfl,hb⟩
  have s0:w1.cell? ⟨w.heap.size,0,none⟩=some (.int .i64 t):=cell_later hb ye
  have B1:Below w.heap.size w w1:=(zh _ _).trans (hb.mono zq)
  have C1:=C0.later hb
  obtain ⟨k0,k1,kf⟩:=C1
  clear C0 hb
  go_wp2
  go_quiet (fail)
  go_wp2
  go_ret
  exact ⟨rfl,.inl ⟨HT.o,_,Go.below_drewN B1 _,rfl,aY pb [_] 0 _⟩⟩
 have HT:Aside (¬T<t):=hgt
 go_enter func198,ntmps198
 go_wp2_with fail
 refine (kq t b _ h1 h2 h3 h4).mono ?_
 rintro e w1 ⟨rfl,hb⟩
 have s0:w1.cell? ⟨w.heap.size,0,none⟩=some (.int .i64 t):=cell_later hb ye
 have B1:Below w.heap.size w w1:=(zh _ _).trans (hb.mono zq)
 have C1:=C0.later hb
 obtain ⟨k0,k1,kf⟩:=C1
 clear C0 hb
 go_wp2
 go_quiet (fail)
 go_wp2
 go_ret
 exact ⟨rfl,.inr ⟨by have:=HT.o;omega,Go.below_drewN B1 _⟩⟩
theorem DU (pb:Nat) (T c t b:Int) (w:World) (hC:Clk pb T c w) (h1:1<=t) (h2:t<=1073741824) (h3:0<=b) (h4:b<4):
  Calls prog 134 #[.pointer (some ⟨pb,0,none⟩),.agg #[.int .i64 t,.int .i64 b]] w fun e w'=>(∃u,e= .returned u)/\∃W,Below w.heap.size w W/\Fu pb T t W w':=by
 obtain ⟨S,hS⟩:=za w.heap.size
 obtain ⟨U,hU⟩:=za (w.alloc (.cells #[.int .i64 t,.int .i64 b] 59))
 have hb:Below w.heap.size w U:=zN
 have hs:U.heap[S]? =some (.cells #[.int .i64 t,.int .i64 b] 59 (0,0)):=by rw [hU,hS];exact heap_alloc_new w _
 have s0:U.cell? ⟨S,0,none⟩=some (.int .i64 t):=by simp [World.cell?,hs]
 have s1:U.cell? ⟨S,1,none⟩=some (.int .i64 b):=by simp [World.cell?,hs]
 have hcall:∀W,Below U.heap.size U W->Calls prog 198 #[.pointer (some ⟨pb,0,none⟩),.agg #[.int .i64 t,.int .i64 b]] W fun e w'=>e= .returned .nilIface/\Fu pb T t W w':=fun W hW=>Lg pb T c t b W ((hC.later hb).later hW) h1 h2 h3 h4
 have HB:Aside (Below w.heap.size w U):=hb
 clear hb hs hC
 go_enter func134,ntmps134
 go_wp2_with fail
 rw [<-hU,<-hS]
 clear hU hS
 refine bJ (S:=(fun w'=>Below U.heap.size U w')) (z:=4) zk (jN _ U).drew (fun hHeld=> ?_)
 refine aW (i:=0) (v:= ?va0) zo rfl zk zk zk (fun _ _ _ h=>h) (Or.inl ⟨zt,?hy0⟩) hHeld ?rest0
 case hy0=>(intro w' _;go_simp;try with_reducible rfl)
 refine qn ?_
 refine aW (i:=1) (v:= ?va1) zo rfl zk zk zk (fun _ _ _ h=>h) (Or.inl ⟨zt,?hy1⟩) hHeld ?rest1
 case hy1=>(intro w' _;go_simp;try with_reducible rfl)
 refine qn ?_
 refine aW (i:=2) (v:= ?va2) zo rfl zk zk zk (fun _ _ _ h=>h) (Or.inl ⟨zt,?hy2⟩) hHeld ?rest2
 case hy2=>(intro w' _;go_simp;try with_reducible rfl)
 refine qn ?_
 refine ay (i:=3) (v:= ?va3) zo zk rfl zk zk zk zk (fun _ _ _ h=>h) (Or.inl ⟨zt,?hy3⟩) hHeld ?rest3
 case hy3=>(intro w' hSw;have j0:=cell_later hSw s0;have j1:=cell_later hSw s1;go_simp;try with_reducible rfl)
 refine qn ?_
 refine aI (i:=4) zk rfl (fun K hK=> ?_)
 go_simp
 refine (hcall U.drew (jN _ U).drew).mono ?_
 clear hcall
 rintro e w' ⟨rfl,hh⟩
 have HH:Aside (Fu pb T t U.drew w'):=hh
 clear hh
 refine hK _ _ (.inr ⟨rfl,zo⟩) ?_
 clear hK K
 refine bI zk ?_ _
 go_wp2
 go_end0
 exact ⟨⟨_,rfl⟩,U.drew,HB.o.drew,HH.o⟩
end
section
def iN (x:OpX):Nat:=opE x.1 x.2.1 x.2.2.1 x.2.2.2.1 x.2.2.2.2.1 x.2.2.2.2.2.1 x.2.2.2.2.2.2.1.data.toList x.2.2.2.2.2.2.2.data.toList
def Jr (c:Nat):Nat:=if c % 2=1 then (c / 2)^^^3988292384 else c / 2
def tB:Nat->Nat->Nat
 | 0,c=>c
 | n+1,c=>tB n (Jr c)
theorem mS:∀(n c:Nat),tB (n+1) c=Jr (tB n c)
 | 0,c=>rfl
 | n+1,c=>by
  show tB (n+1) (Jr c)=_
  rw [mS n (Jr c)]
  rfl
def Ku (c:Nat):List UInt8->Nat
 | []=>c
 | b::l=>Ku (tB 8 (c^^^b.toNat)) l
def rg (l:List UInt8):Nat:=4294967295 - Ku 4294967295 l
theorem Kd {c:Nat} (h:c<4294967296):Jr c<4294967296:=by
 unfold Jr
 split
 ·exact Nat.xor_lt_two_pow (n:=32) zj zj
 omega
theorem ot:∀(n:Nat) {c:Nat},c<4294967296->tB n c<4294967296
 | 0,_,h=>h
 | n+1,_,h=>ot n (Kd h)
theorem Gm {c:Nat} (h:c<4294967296) (b:UInt8):c^^^b.toNat<4294967296:=Nat.xor_lt_two_pow (n:=32) zj (by have:=b.toNat_lt;omega)
theorem rf:∀(l:List UInt8) (c:Nat) (b:UInt8),Ku c (l++ [b])=tB 8 (Ku c l^^^b.toNat)
 | [],c,b=>rfl
 | a::l,c,b=>rf l _ b
theorem Gj (l:List UInt8):rg l<4294967296:=by unfold rg;omega
theorem Ly (h:v<4294967296):4294967295^^^v=4294967295 - v:=by
 have h1:(BitVec.allOnes 32^^^BitVec.ofNat 32 v).toNat=(~~~ BitVec.ofNat 32 v).toNat:=by rw [BitVec.allOnes_xor]
 rw [BitVec.toNat_xor,BitVec.toNat_not,BitVec.toNat_allOnes,BitVec.toNat_ofNat,Nat.mod_eq_of_lt zj] at h1
 simpa using h1
def ip:Nat->Nat->List UInt8
 | 0,_=>[]
 | n+1,v=>ip n (v / 16)++ [iF (v % 16)]
theorem kg:∀n v,(ip n v).length=n
 | 0,_=>rfl
 | n+1,v=>by simp [ip,kg n]
theorem rp:∀n,ip n 0=List.replicate n 48
 | 0=>rfl
 | n+1=>by
  rw [List.replicate_succ']
  show ip n (0 / 16)++ [iF (0 % 16)]=_
  rw [show 0 / 16=0 from rfl,rp n]
  rfl
theorem At:∀(m k v:Nat),v<16^k->ip (m+k) v=List.replicate m 48++ip k v
 | m,0,v,h=>by
  have:v=0:=qy
  subst this
  rw [vI,rp]
  simp [ip]
 | m,k+1,v,h=>by
  show ip (m+k) (v / 16)++ [iF (v % 16)]=List.replicate m 48++(ip k (v / 16)++ [iF (v % 16)])
  rw [At m k (v / 16) (by rw [uP] at h;omega),vn]
theorem EP:∀n:Fin 16,45<=(iF n).toNat:=yI
def bs (t:List UInt8):List UInt8:=t++35::(ip 8 (rg t)++ [10])
theorem bB (t:List UInt8):(bs t).length=t.length+10:=by
 unfold bs
 simp [kg]
def aA (x:OpX):List UInt8:=dX x.1 x.2.1 x.2.2.1 x.2.2.2.1 x.2.2.2.2.1 x.2.2.2.2.2.1 x.2.2.2.2.2.2.1.data.toList x.2.2.2.2.2.2.2.data.toList
def gi (l:List UInt8):Option OpX:=match bH l with
 | none=>none
 | some (c,n1,n2,n3,n4,n5,nm,v)=>if opE n1 n2 n3 c.toNat n4 n5 nm v=0 then some ((n1:Int),(n2:Int),(n3:Int),c.toNat,(n4:Int),(n5:Int),⟨nm.toArray⟩,⟨v.toArray⟩) else none
theorem Aj (h:iN x=0):gi (aA x)=some x:=by
 obtain ⟨t,b,n,k,nd,o,s,v⟩:=x
 have h':opE t b n k nd o s.data.toList v.data.toList=0:=h
 have hp:=Bw h'
 obtain ⟨h1,h2,h3,h4,h5,h6,hk,h7,h8,h9,h10,-⟩:=ax h'
 have e1:((t.toNat:Nat):Int)=t:=zj
 have e2:((b.toNat:Nat):Int)=b:=zj
 have e3:((n.toNat:Nat):Int)=n:=zj
 have e4:((nd.toNat:Nat):Int)=nd:=zj
 have e5:((o.toNat:Nat):Int)=o:=zj
 have ek:(UInt8.ofNat k).toNat=k:=by rcases hk with rfl | rfl | rfl | rfl<;>rfl
 unfold gi aA
 dsimp only
 rw [hp]
 dsimp only
 rw [e1,e2,e3,e4,e5,ek,if_pos h']
theorem Cw {l:List UInt8} (h:gi l=some x):aA x=l/\iN x=0:=by
 unfold gi at h
 split at h
 ·cases h
 rename_i c n1 n2 n3 n4 n5 nm v hp
 split at h
 ·rename_i he
  cases h
  exact ⟨nC hp,he⟩
 cases h
theorem Id {n:Int} {node:Int} (h:opE t b n k node other name value=0):name= []\/cO name=true:=by
 by_cases hn:cO name=true
 ·exact .inr hn
 by_cases he:name= []
 ·exact .inl he
 exfalso
 have hn':cO name=false:=yV
 have h4:(if cO name=false then 4 else if value≠ [] then 3 else 0)=4:=if_pos hn'
 unfold opE kB cR nH oM oQ at h
 rw [if_pos hn',if_pos he,if_pos he,if_pos hn'] at h
 repeat' (split at h)
 all_goals cases h
theorem KS {n:Int} {node:Int} (h:opE t b n k node other name value=0):∀c∈name,45<=c.toNat:=fun c hc=>by
 rcases Id h with rfl | hn
 ·simp at hc
 unfold cO at hn
 simp only [uk,decide_eq_true_eq] at hn
 have:=List.all_eq_true.1 hn.2 _ hc
 unfold lz at this
 simp only [decide_eq_true_eq] at this
 omega
theorem LC (a:Int) (h0:0<=a):∀c∈Lib.itoa a,45<=c.toNat:=fun c hc=>by
 rw [Lib.itoa,if_neg zj] at hc
 have:=pq _ _ hc
 omega
theorem Dp:∀(l:List UInt8),∀c∈lW l,45<=c.toNat
 | [],c,h=>by simp [lW] at h
 | a::r,c,h=>by
  have ha:=a.toNat_lt
  simp only [lW,jQ] at h
  rcases h with rfl | rfl | h
  ·exact EP ⟨a.toNat / 16,zj⟩
  ·exact EP ⟨a.toNat % 16,zj⟩
  exact Dp r c h
theorem AI:∀(x:List (List UInt8)),(∀l∈x,∀c∈l,45<=c.toNat)->∀c∈eY 124 x,45<=c.toNat
 | [],_,c,h=>by simp [eY] at h
 | [a],hx,c,h=>by
  simp only [eY] at h
  exact hx a zq c h
 | a::b::r,hx,c,h=>by
  simp only [eY] at h
  rcases jO.1 h with q | q
  ·exact hx a zq c q
  rcases jQ.1 q with rfl | q
  ·decide
  exact AI (b::r) (fun l hl=>hx l (vf _ hl)) c q
theorem tL (h:iN x=0):∀c∈aA x,45<=c.toNat:=by
 obtain ⟨t,b,n,k,nd,o,s,v⟩:=x
 have h':opE t b n k nd o s.data.toList v.data.toList=0:=h
 obtain ⟨h1,h2,h3,h4,h5,h6,hk,h7,h8,h9,h10,-⟩:=ax h'
 unfold aA dX
 dsimp only
 refine AI _ (fun l hl=> ?_)
 simp only [jQ,uu,or_false] at hl
 rcases hl with rfl | rfl | rfl | rfl | rfl | rfl | rfl | rfl
 ·intro c hc
  rw [jS.1 hc]
  rcases hk with rfl | rfl | rfl | rfl<;>decide
 ·exact kn7
 ·exact kn7
 ·exact kn7
 ·exact kn7
 ·exact kn7
 ·exact KS h'
 exact Dp _
theorem fG (h:iN x=0):(aA x).length<=1000:=by
 exact kb7
def ahead:List UInt8->List UInt8
 | []=>[]
 | c::l=>if c=35 then [] else c::ahead l
theorem kT:∀ {t:List UInt8} (r:List UInt8),(∀c∈t,45<=c.toNat)->ahead (t++35::r)=t
 | [],r,_=>rfl
 | c::t,r,h=>by
  have hc:c≠35:=fun e=>by have:=h c zq;rw [e] at this;revert this;decide
  show (if c=35 then [] else c::ahead (t++35::r))=c::t
  rw [if_neg hc,kT r (fun d hd=>h d (by simp [hd]))]
theorem nh:∀ {l:List UInt8},(35:UInt8)∉l->ahead l=l
 | [],_=>rfl
 | c::l,h=>by
  have hc:c≠35:=fun e=>h (by simp [e])
  show (if c=35 then [] else c::ahead l)=c::l
  rw [if_neg hc,nh (fun q=>h (by simp [q]))]
theorem rd:∀(l:List UInt8),(ahead l).length<=l.length
 | []=>jL _
 | c::l=>by
  unfold ahead
  split
  ·simp
  have:=rd l
  simp;omega
def cY (b:List UInt8):Option (OpX×Nat):=match gi (ahead b) with
 | none=>none
 | some x=>if bs (ahead b)<+:b then some (x,(bs (ahead b)).length) else none
theorem Fk (h:iN x=0) (r:List UInt8):cY (bs (aA x)++r)=some (x,(bs (aA x)).length):=by
 have ha:ahead (bs (aA x)++r)=aA x:=by
  unfold bs
  rw [vn]
  exact kT _ (tL h)
 unfold cY
 rw [ha,Aj h]
 dsimp only
 rw [if_pos ⟨r,rfl⟩]
theorem ni {b:List UInt8} (h:cY b=some (x,n)):iN x=0/\n=(bs (aA x)).length/\∃r,b=bs (aA x)++r:=by
 unfold cY at h
 split at h
 ·cases h
 rename_i y hy
 obtain ⟨h1,h2⟩:=Cw hy
 split at h
 ·rename_i hp
  cases h
  obtain ⟨r,hr⟩:=hp
  rw [<-h1] at hr
  exact ⟨h2,by rw [h1],r,hr.symm⟩
 cases h
theorem ET (h:iN x=0) (hn:n<(bs (aA x)).length):cY ((bs (aA x)).take n)=none:=by
 unfold cY
 split
 ·rfl
 rename_i y hy
 rw [if_neg]
 rintro ⟨r,hr⟩
 have hl:=congrArg List.length hr
 rw [jP,vj,bB] at hl
 by_cases hq:n<=(aA x).length
 ·have e:(bs (aA x)).take n=(aA x).take n:=by
   unfold bs
   rw [vv hq]
  have h35:(35:UInt8)∉(bs (aA x)).take n:=by
   rw [e]
   intro q
   have:=tL h 35 (uc q)
   revert this;decide
  rw [nh h35] at hl
  rw [vj] at hl
  omega
 have ha:ahead ((bs (aA x)).take n)=aA x:=by
  obtain ⟨m,rfl⟩:∃m,n=(aA x).length+(m+1):=⟨n - (aA x).length - 1,zj⟩
  unfold bs
  rw [List.take_length_add_append,List.take_succ_cons]
  exact kT _ (tL h)
 rw [ha] at hl
 have:=bB (aA x)
 omega
theorem rT:cY []=none:=by
 have:gi []=none:=zt
 unfold cY
 rw [show ahead []= [] from rfl,this]
def mi:Nat->List UInt8->List OpX×Nat
 | 0,_=>([],0)
 | k+1,b=>match cY b with
  | none=>([],0)
  | some (x,n)=>(x::(mi k (b.drop n)).1,n+(mi k (b.drop n)).2)
def ab (b:List UInt8):List OpX×Nat:=mi b.length b
theorem iS {b:List UInt8} (h:cY b=some (x,n)):10<=n/\n<=b.length:=by
 obtain ⟨_,h2,r,h3⟩:=ni h
 rw [bB] at h2
 have:=congrArg List.length h3
 rw [jP,bB] at this
 omega
theorem nO:∀(k m:Nat) (b:List UInt8),b.length<=k->b.length<=m->mi k b=mi m b
 | 0,0,b,_,_=>rfl
 | 0,m+1,b,h,_=>by
  exact kl4
 | k+1,0,b,_,h=>by
  exact kl4
 | k+1,m+1,b,h1,h2=>by
  cases hr:cY b with
  | none=>simp only [mi,hr]
  | some p=>
   obtain ⟨x,n⟩:=p
   have:=iS hr
   simp only [mi,hr]
   rw [nO k m (b.drop n) yP yP]
theorem im {b:List UInt8} (h:cY b=none):ab b=([],0):=by
 unfold ab
 cases hb:b.length with
 | zero=>rfl
 | succ k=>simp only [mi,h]
theorem kW {b:List UInt8} (h:cY b=some (x,n)):ab b=(x::(ab (b.drop n)).1,n+(ab (b.drop n)).2):=by
 have hp:=iS h
 unfold ab
 cases hb:b.length with
 | zero=>omega
 | succ k=>
  simp only [mi,h]
  rw [nO k (b.drop n).length (b.drop n) yP zg]
def cu:List OpX->List UInt8
 | []=>[]
 | x::l=>bs (aA x)++cu l
theorem kJ:∀(a b:List OpX),cu (a++b)=cu a++cu b
 | [],b=>rfl
 | x::a,b=>by
  show bs (aA x)++cu (a++b)=_
  rw [kJ a b,<-vn]
  rfl
theorem iq:∀(l:List OpX) (r:List UInt8),(∀x∈l,iN x=0)->cY r=none->ab (cu l++r)=(l,(cu l).length)
 | [],r,_,h=>by
  show ab r=([],0)
  exact im h
 | x::l,r,hl,h=>by
  have e:cu (x::l)++r=bs (aA x)++(cu l++r):=by
   show bs (aA x)++cu l++r=_
   rw [vn]
  rw [e,kW (Fk (hl x zq) _),List.drop_left,iq l r (fun y hy=>hl y xE) h]
  show (x::l,(bs (aA x)).length+(cu l).length)=(x::l,(bs (aA x)++cu l).length)
  rw [jP]
theorem wa:∀(k:Nat) (b:List UInt8),b.length<=k->∃r,b=cu (ab b).1++r/\cY r=none/\(ab b).2=(cu (ab b).1).length/\∀x∈(ab b).1,iN x=0
 | k,b,hk=>by
  cases hr:cY b with
  | none=>
   rw [im hr]
   exact ⟨b,rfl,hr,rfl,fun x hx=>zP⟩
  | some p=>
   obtain ⟨x,n⟩:=p
   have hp:=iS hr
   obtain ⟨h1,h2,r,h3⟩:=ni hr
   rw [kW hr]
   have hd:b.drop n=r:=by rw [h3,h2,List.drop_left]
   match k,hk with
   | 0,hk=>omega
   | k+1,hk=>
    obtain ⟨r',q1,q2,q3,q4⟩:=wa k (b.drop n) yP
    refine ⟨r',?_,q2,?_,fun y hy=> ?_⟩
    ·show b=bs (aA x)++cu (ab (b.drop n)).1++r'
     rw [vn,<-q1,hd]
     exact h3
    ·show n+_=(bs (aA x)++cu (ab (b.drop n)).1).length
     rw [jP,q3,h2]
    rcases jQ.1 hy with rfl | hy
    ·exact h1
    exact q4 y hy
end
section
open Go.RowKit Go.Lib Go.Sort
theorem LV (h:v<4294967296):bits .and .u32 (v:Int) 1=((v % 2:Nat):Int):=by
 have:=u32_and_nat v 1 h zj
 rw [Nat.and_one_is_mod] at this
 exact this
theorem JT (h:v<4294967296):bits .xor .u32 (v:Int) 3988292384=((v^^^3988292384:Nat):Int):=u32_xor_nat v 3988292384 h zj
theorem Kz (h:v<4294967296):bits .xor .u32 IntKind.u32.max (v:Int)=((4294967295 - v:Nat):Int):=by
 have e:IntKind.u32.max=((4294967295:Nat):Int):=zo
 rw [e,u32_xor_nat _ _ zj h,Ly h]
theorem Af (c:Nat) (w:World) (hc:c<4294967296):
  Calls prog 344 #[.int .u32 (c:Int)] w fun e w'=>e= .returned (.int .u32 ((tB 8 c:Nat):Int))/\w'=w:=by
 go_enter func344,ntmps344
 go_wp2
 go_loopg [0,4] 8 (fun kx s0 s4 wr=>∃(j v:Nat),s0= .int .u32 (v:Int)/\s4= .int .i64 (j:Int)/\j<=8/\8 - j<=kx/\v<4294967296/\Aside (v=tB j c/\wr=w))
 case atStart=>exact ⟨0,c,rfl,rfl,zj,zj,hc,rfl,rfl⟩
 case round=>
  obtain ⟨j,v,rfl,rfl,hj,hjx,hv,A⟩:=hrel
  by_cases hlt:j<8
  ·have d1:decide ((j:Int)<(8:Int))=true:=by simp;omega
   have d1n:decide (j<8)=true:=zl
   have ha:=LV hv
   obtain ⟨hf,hhf⟩:∃hf:Nat,Aside (hf=v / 2):=⟨_,rfl⟩
   have hh:(v:Int) / 2=(hf:Int):=by rw [hhf.o];omega
   by_cases hb:v % 2=1
   ·rw [hb] at ha
    have hx:=JT (v:=hf) (by rw [hhf.o];omega)
    have hvj:hf^^^3988292384=tB (j+1) c:=by rw [mS,<-A.o.1,hhf.o];unfold Jr;rw [if_pos hb]
    obtain ⟨v',hv'⟩:∃v':Nat,Aside (v'=hf^^^3988292384):=⟨_,rfl⟩
    rw [<-hv'.o] at hx hvj
    have HV:Aside (v'=tB (j+1) c/\wr=w/\v'<4294967296):=⟨hvj,A.o.2,by rw [hvj];exact ot _ hc⟩
    clear A hvj
    go_wp2
    go_roundg (8 - (j+1))
    case measure=>omega
    case rel=>exact ⟨j+1,v',rfl,zI,zj,jL _,HV.o.2.2,HV.o.1,HV.o.2.1⟩
   rw [show v % 2=0 by omega] at ha
   have hvj:hf=tB (j+1) c:=by rw [mS,<-A.o.1,hhf.o];unfold Jr;rw [if_neg hb]
   have HV:Aside (hf=tB (j+1) c/\wr=w/\hf<4294967296):=⟨hvj,A.o.2,by rw [hvj];exact ot _ hc⟩
   clear A hvj
   go_wp2
   go_roundg (8 - (j+1))
   case measure=>omega
   case rel=>exact ⟨j+1,hf,rfl,zI,zj,jL _,HV.o.2.2,HV.o.1,HV.o.2.1⟩
  have d1:decide ((j:Int)<(8:Int))=false:=zl
  have d1n:decide (j<8)=false:=zl
  have HV:Aside (v=tB 8 c/\wr=w):=by
   have e8:j=8:=zj
   have:=A.o
   rwa [e8] at this
  clear A
  go_wp2
  go_ret
  exact ⟨by rw [HV.o.1];rfl,HV.o.2⟩
theorem MP (s:ByteArray) (w:World) (hs:s.size<=1000000):
  Calls prog 322 #[.string s] w fun e w'=>e= .returned (.int .u32 ((rg s.data.toList:Nat):Int))/\w'=w:=by
 go_enter func322,ntmps322
 go_wp2
 go_loopg [3,7] s.size (fun kx s3 s7 wr=>∃(j v:Nat),s3= .int .u32 (v:Int)/\s7= .int .i64 (j:Int)/\j<=s.size/\s.size - j<=kx/\v<4294967296/\Aside (v=Ku 4294967295 (s.data.toList.take j)/\wr=w))
 case atStart=>exact ⟨0,4294967295,rfl,rfl,zj,zj,zj,rfl,rfl⟩
 case round=>
  obtain ⟨j,v,rfl,rfl,hj,hjx,hv,A⟩:=hrel
  by_cases hlt:j<s.size
  ·have d1:decide ((j:Int)<(s.size:Int))=true:=by simp;omega
   have d1n:decide (j<s.size)=true:=zl
   obtain ⟨x,hx⟩:∃x:Nat,Aside (x=v^^^s[j].toNat):=⟨v^^^s[j].toNat,rfl⟩
   have hb:=s[j].toNat_lt
   have hcv:IntKind.u32.wrap (s[j].toNat:Int)=(s[j].toNat:Int):=by rw [IntKind.wrap_u32'];omega
   have hxx:bits .xor .u32 (v:Int) (s[j].toNat:Int)=(x:Int):=by rw [hx.o];exact u32_xor_nat v s[j].toNat hv zj
   have hx32:x<4294967296:=by rw [hx.o];exact Gm hv s[j]
   have hdv:=Af x wr hx32
   obtain ⟨v',hv'⟩:∃v':Nat,Aside (v'=tB 8 x):=⟨_,rfl⟩
   rw [<-hv'.o] at hdv
   have HV:Aside (v'=Ku 4294967295 (s.data.toList.take (j+1))/\wr=w/\v'<4294967296):=⟨by rw [<-FX s j hlt,rf,<-A.o.1,hv'.o,hx.o],A.o.2,by rw [hv'.o];exact ot 8 hx32⟩
   clear A
   go_wp2_with fail
   refine hdv.mono ?_
   clear hdv
   rintro e w1 ⟨rfl,rfl⟩
   go_wp2
   go_roundg (s.size - (j+1))
   case measure=>omega
   case rel=>exact ⟨j+1,v',rfl,zI,zj,jL _,HV.o.2.2,HV.o.1,HV.o.2.1⟩
  have d1:decide ((j:Int)<(s.size:Int))=false:=zl
  have d1n:decide (j<s.size)=false:=zl
  have hvv:v=Ku 4294967295 s.data.toList:=by
   have:=A.o.1
   rwa [vm zl] at this
  have HV:Aside (rg s.data.toList=4294967295 - v/\wr=w):=⟨by rw [hvv];rfl,A.o.2⟩
  clear A hvv
  go_wp2
  go_ret
  refine ⟨?_,HV.o.2⟩
  rw [HV.o.1]
  show Ending.returned (Value.int .u32 _)=_
  rw [Kz hv]
end
section
open Go.RowKit Go.Lib Go.Sort
theorem PR (w:World) (hz:w.cell? ⟨16,15,none⟩=some (.int .u8 4)):
  Calls prog 325 #[.int .u64 16] w fun e w'=>e= .returned (.int .i64 4)/\w'=w:=by
 have e0:IntKind.u64.wrap (-16)=18446744073709551600:=zo
 have e1:bits .and .u64 16 18446744073709551600=16:=zo
 have e2:IntKind.u64.wrap 4573923408821661840=4573923408821661840:=zo
 go_enter func325,ntmps325
 exact ka9
theorem PI (w:World) (hz:w.cell? ⟨16,15,none⟩=some (.int .u8 4)):
  Calls prog 276 #[.int .u64 16] w fun e w'=>e= .returned (.int .i64 4)/\w'=w:=by
 have h:=PR w hz
 clear hz
 go_enter func276,ntmps276
 go_wp2_with fail
 refine h.mono ?_
 rintro e w1 ⟨rfl,rfl⟩
 exact ka9
theorem OJ (w:World):Calls prog 275 #[.int .i64 16] w fun e w'=>e= .returned (.bool true)/\w'=w:=by
 have e1:bits .and .i64 16 15=0:=zo
 go_enter func275,ntmps275
 exact ka9
theorem nQ:∀(k v:Nat),ip (k+1) v=iF (v / 16^k % 16)::ip k v
 | 0,v=>by simp [ip]
 | k+1,v=>by
  show ip (k+1) (v / 16)++ [iF (v % 16)]=iF (v / 16^(k+1) % 16)::(ip k (v / 16)++ [iF (v % 16)])
  rw [nQ k (v / 16),Nat.div_div_eq_div_mul,uP,uY 16]
  rfl
def HexAt (W:World) (b k v:Nat):Prop:=∃arr:Array Value,W.heap[b]? =some (.cells arr 369 (0,0))/\arr.size=65/\∀(j:Nat) (c:UInt8),(ip k v)[j]? =some c->arr[65 - k+j]? =some (.int .u8 (c.toNat:Int))
theorem HexAt.start {b:Nat} (v:Nat) (h:W.heap[b]? =some (.cells zeroCells369 369 (0,0))):HexAt W b 0 v:=⟨_,h,zk,fun j c hj=>by simp [ip] at hj⟩
theorem HexAt.cell {W:World} {b k v:Nat} (h:HexAt W b k v) {i:Nat} (hi:i<65):(∃o,W.cell? ⟨b,i,none⟩=some o)/\W.frozen? ⟨b,i,none⟩=false:=by
 obtain ⟨arr,h1,h2,_⟩:=h
 refine ⟨⟨arr[i],?_⟩,by simp [World.frozen?,h1]⟩
 simp [World.cell?,h1,h2,hi]
theorem HexAt.put {b:Nat} (h:HexAt W b k v) (hi:i+(k+1)=65):HexAt (W.setCell ⟨b,i,none⟩ (.int .u8 ((iF (v / 16^k % 16)).toNat:Int))) b (k+1) v:=by
 obtain ⟨arr,h1,h2,h3⟩:=h
 refine ⟨_,heap_setCell_same W b i _ _ _ h1,by simp [h2],fun j c hj=> ?_⟩
 rw [nQ] at hj
 rw [Array.getElem?_setIfInBounds]
 match j,hj with
 | 0,hj=>
  have e:iF (v / 16^k % 16)=c:=yj
  rw [if_pos zj,if_pos zj,e]
 | j+1,hj=>
  rw [if_neg zj]
  have:=h3 j c yj
  rw [<-this]
  congr 1
  omega
theorem NW (x:Nat) (w:World) (h1:x<16):(Instr.index 9 (.string ⟨#[48,49,50,51,52,53,54,55,56,57,97,98,99,100,101,102,103,104,105,106,107,108,109,110,111,112,113,114,115,116,117,118,119,120,121,122]⟩) (.int .u64 (x:Int))).run prog w= .ok (.int .u8 ((iF x).toNat:Int)) w:=by
 rcases (show x=0\/x=1\/x=2\/x=3\/x=4\/x=5\/x=6\/x=7\/x=8\/x=9\/x=10\/x=11\/x=12\/x=13\/x=14\/x=15 by omega) with rfl | rfl | rfl | rfl | rfl | rfl | rfl | rfl | rfl | rfl | rfl | rfl | rfl | rfl | rfl | rfl
 all_goals kernel_rfl
theorem ME {u:Nat} (h:u<4294967296):bits .and .u64 (u:Int) 15=((u % 16:Nat):Int):=by
 have:=u64_and_nat u 15 zj zj
 rw [show (15:Nat)=2^4 - 1 from rfl,Nat.and_two_pow_sub_one_eq_mod] at this
 exact this
theorem HexAt.conv {b:Nat} (h:HexAt W b k v) (hi:i+k=65):Sem.run prog (convert 184 9 (.slice (some ⟨b,i,none⟩) k k)) W= .ok (.string ⟨(ip k v).toArray⟩) W:=by
 obtain ⟨arr,h1,h2,h3⟩:=h
 have hl:=kg k v
 have:=run_convert_bytes_back (P:=prog) W 184 9 5 ⟨b,i,none⟩ k (ip k v) underlying184 underlying5 underlying9 (fun j hj=>by
  have e:=h3 j _ (jK hj)
  rw [show 65 - k+j=i+j by omega] at e
  rw [Addr.add_lit]
  simp [World.cell?,h1,e])
 rw [hl] at this
 exact this
theorem OQ (v:Nat) (w:World) (hv:v<4294967296) (hz:w.cell? ⟨16,15,none⟩=some (.int .u8 4)):
  Calls prog 221 #[.slice none 0 0,.int .u64 (v:Int),.int .i64 16,.bool false,.bool false] w fun e w'=>∃k,(1<=k/\k<=8/\v<16^k)/\e= .returned (.tuple #[.slice none 0 0,.string ⟨(ip k v).toArray⟩])/\Below w.heap.size w w':=by
 obtain ⟨b,hb⟩:=ze w.heap.size
 obtain ⟨U,hU⟩:=ze (w.alloc (.cells zeroCells369 369))
 have hbU:Below w.heap.size w U:=yg
 have H0:Aside (HexAt U b 0 v/\Below w.heap.size w U):=⟨HexAt.start v (by rw [hU.o,hb.o];exact heap_alloc_new w _),hbU⟩
 have hp:=OJ U
 have ht:=PI U (by rw [vi (a:=⟨16,15,none⟩) (hbU.block _ (jR w ⟨16,15,none⟩ hz))];exact hz)
 clear hbU hz
 go_enter func221,ntmps221
 go_upto_region 7 with fail
 rw [<-hU.o,<-hb.o]
 go_wp2_with fail
 refine hp.mono ?_
 clear hp
 rintro e w1 ⟨rfl,rfl⟩
 go_wp2_with fail
 refine ht.mono ?_
 clear ht
 rintro e w2 ⟨rfl,rfl⟩
 have HV:Aside (v<4294967296):=hv
 go_wp2
 go_loopg [1,13] 8 (fun kx s1 s13 wr=>∃(k u i:Nat),s1= .int .u64 (u:Int)/\s13= .int .i64 (i:Int)/\i+k=65/\k<=7/\8 - k<=kx/\u<4294967296/\Aside (u=v / 16^k/\HexAt wr b k v/\Below w.heap.size w wr))
 case atStart=>exact ⟨0,v,65,rfl,rfl,rfl,zj,zj,hv,zq,H0.o⟩
 case round=>
  obtain ⟨k,u,i,rfl,rfl,hik,hk,hkx,hu,A⟩:=hrel
  clear H0
  obtain ⟨j,hj⟩:∃j,i=j+1:=⟨i - 1,zj⟩
  subst hj
  have hw1:IntKind.i64.wrap (((j+1:Nat):Int) - 1)=(j:Int):=zr
  obtain ⟨⟨o,c1⟩,c2⟩:=A.o.2.1.cell (i:=j) zj
  have pj:(0:Int)<=(j:Int):=zj
  have lj:(j:Int)<65:=zj
  by_cases hlt:16<=u
  ·have d1:decide ((16:Int)<=(u:Int))=true:=by simp;omega
   have d1n:decide (16<=u)=true:=zl
   have ha:=ME hu
   obtain ⟨r,hr⟩:∃r:Nat,Aside (r=u % 16):=⟨u % 16,rfl⟩
   rw [<-hr.o] at ha
   have hx:=NW r
   have hr16:r<16:=by rw [hr.o];omega
   have hxr:∀w:World,(Instr.index 9 (.string ⟨#[48,49,50,51,52,53,54,55,56,57,97,98,99,100,101,102,103,104,105,106,107,108,109,110,111,112,113,114,115,116,117,118,119,120,121,122]⟩) (.int .u64 (r:Int))).run prog w= .ok (.int .u8 ((iF r).toNat:Int)) w:=fun w=>hx w hr16
   obtain ⟨u',hu'⟩:∃u':Nat,Aside (u'=u / 16):=⟨u / 16,rfl⟩
   have hsh:(u:Int) / 16=(u':Int):=by rw [hu'.o];omega
   obtain ⟨hd,hhd⟩:∃hd:Int,Aside (hd=((iF r).toNat:Int)):=⟨_,rfl⟩
   have HN:Aside (u'=v / 16^(k+1)/\HexAt (wr.setCell ⟨b,j,none⟩ (.int .u8 hd)) b (k+1) v/\Below w.heap.size w (wr.setCell ⟨b,j,none⟩ (.int .u8 hd))/\k+1<=7/\u'<4294967296):=by
    have e1:=A.o.1
    have hk7:k+1<=7:=by
     by_cases q:k=7
     ·subst q
      have:v / 16^7<16:=zj
      omega
     omega
    refine ⟨?_,?_,?_,hk7,by rw [hu'.o];omega⟩
    ·rw [hu'.o,e1,Nat.div_div_eq_div_mul,<-uP]
    ·rw [hhd.o,hr.o,e1]
     exact A.o.2.1.put zj
    exact ki8
   rw [<-hhd.o] at hxr
   clear A hx
   go_wp2
   go_roundg (8 - (k+1))
   case measure=>omega
   case rel=>exact ⟨k+1,u',j,rfl,rfl,zj,HN.o.2.2.2.1,jL _,HN.o.2.2.2.2,HN.o.1,HN.o.2.1,HN.o.2.2.1⟩
  have d1:decide ((16:Int)<=(u:Int))=false:=zl
  have d1n:decide (16<=u)=false:=zl
  have hx:=NW u
  have hxr:∀w:World,(Instr.index 9 (.string ⟨#[48,49,50,51,52,53,54,55,56,57,97,98,99,100,101,102,103,104,105,106,107,108,109,110,111,112,113,114,115,116,117,118,119,120,121,122]⟩) (.int .u64 (u:Int))).run prog w= .ok (.int .u8 ((iF u).toNat:Int)) w:=fun w=>hx w zj
  obtain ⟨hd,hhd⟩:∃hd:Int,Aside (hd=((iF u).toNat:Int)):=⟨_,rfl⟩
  have HN:Aside (HexAt (wr.setCell ⟨b,j,none⟩ (.int .u8 hd)) b (k+1) v/\Below w.heap.size w (wr.setCell ⟨b,j,none⟩ (.int .u8 hd))/\v<16^(k+1)):=by
   have e1:=A.o.1
   refine ⟨?_,?_,?_⟩
   ·have e2:u=v / 16^k % 16:=by omega
    rw [hhd.o,e2]
    exact A.o.2.1.put zj
   ·exact ki8
   have q:=(Nat.div_lt_iff_lt_mul (Nat.pow_pos (n:=k) (show 0<16 by omega))).1 (show v / 16^k<16 by rw [<-e1];omega)
   rw [uP,uY]
   exact q
  have hcv:=HN.o.1.conv (i:=j) zj
  rw [<-hhd.o] at hxr
  have lk:(65:Int) - (j:Int)=((k+1:Nat):Int):=zj
  have lkn:65 - j=k+1:=zj
  have hsl:∀W:World,(Instr.sliceAt 369 (.pointer (some ⟨b,0,none⟩)) (some (.int .i64 (j:Int))) none none).run prog W= .ok (.slice (some ⟨b,j,none⟩) (k+1) (k+1)) W:=fun W=>by
   have e:prog.arrayLen 369=65:=zk
   rw [run_sliceAt_array_l W 369 ⟨b,0,none⟩ zk .i64 (j:Int) zj (by rw [e];omega),e]
   have hj65:¬65=j:=zj
   simp [go_sem,slicedAt,hj65,lkn,Addr.add]
   omega
  clear A hx
  go_wp2
  go_ret2
  exact ⟨k+1,⟨zj,zj,HN.o.2.2⟩,rfl,HN.o.2.1⟩
end
section
open Go.RowKit Go.Lib Go.Sort
def DeB (w:World):Prop:=w.cell? ⟨16,15,none⟩=some (.int .u8 4)
theorem DeB.later (h:DeB w) (hb:Below w.heap.size w w'):DeB w':=by
 unfold DeB at*
 rw [vi (a:=⟨16,15,none⟩) (hb.block _ (jR w ⟨16,15,none⟩ h))]
 exact h
theorem GG (v:Nat) (w:World) (hv:v<4294967296) (hz:DeB w):
  Calls prog 343 #[.int .u64 (v:Int),.int .i64 16] w fun e w'=>∃k,(1<=k/\k<=8/\v<16^k)/\e= .returned (.string ⟨(ip k v).toArray⟩)/\Below w.heap.size w w':=by
 have h:=OQ v w hv hz
 clear hz
 go_enter func343,ntmps343
 exact kg0
theorem Hs (v:Nat) (w:World) (hv:v<4294967296) (hz:DeB w):
  Calls prog 321 #[.int .u64 (v:Int),.int .i64 16] w fun e w'=>∃k,(1<=k/\k<=8/\v<16^k)/\e= .returned (.string ⟨(ip k v).toArray⟩)/\Below w.heap.size w w':=by
 have h:=GG v w hv hz
 clear hz
 go_enter func321,ntmps321
 exact kg0
theorem gL:∀n,Lib.repeatL [48] n=List.replicate n 48
 | 0=>rfl
 | n+1=>by
  show [48]++Lib.repeatL [48] n=_
  rw [gL n]
  rfl
theorem wJ (s:ByteArray) (w:World) (hs:s.size<=1000000) (hz:DeB w):
  Calls prog 272 #[.string s] w fun e w'=>e= .returned (.string ⟨(ip 8 (rg s.data.toList)).toArray⟩)/\Below w.heap.size w w':=by
 have hsum:=MP s w hs
 obtain ⟨v,hv⟩:∃v:Nat,Aside (v=rg s.data.toList):=⟨_,rfl⟩
 rw [<-hv.o] at hsum |-
 have hv32:v<4294967296:=by rw [hv.o];exact Gj _
 have hcv:IntKind.u64.wrap (v:Int)=(v:Int):=by rw [IntKind.wrap_u64];omega
 have hf:=Hs v w hv32 hz
 clear hz
 go_enter func272,ntmps272
 go_wp2_with fail
 refine hsum.mono ?_
 clear hsum
 rintro e w1 ⟨rfl,rfl⟩
 go_wp2_with fail
 refine hf.mono ?_
 clear hf
 rintro e w2 ⟨k,hk,rfl,hb⟩
 obtain ⟨D,hD⟩:∃D:ByteArray,Aside (D=⟨(ip k v).toArray⟩):=⟨_,rfl⟩
 rw [<-hD.o]
 have hDs:D.size=k:=jj
 obtain ⟨m,hm⟩:∃m:Nat,m+k=8:=⟨8 - k,zj⟩
 have hw:IntKind.i64.wrap (8 - (D.size:Int))=(m:Int):=by rw [IntKind.wrap_i64,hDs];omega
 have hr:=Tryz.strings_Repeat ⟨#[48]⟩ m w2 zj (by show 1*m<=_;omega)
 obtain ⟨E,hE,hEs,ha⟩:=oX ⟨(Lib.repeatL [48] m).toArray⟩ D (by rw [hDs,gL];simp [ByteArray.size];omega)
 have HE:Aside (E=⟨(ip 8 v).toArray⟩):=by
  apply EE
  rw [hE,hD.o,<-hm,At m k v hk.2.2,gL]
 have H:Aside (Below w1.heap.size w1 w2):=hb
 obtain ⟨Z,hZ⟩:∃Z:ByteArray,Aside (Z=⟨(Lib.repeatL [48] m).toArray⟩):=⟨_,rfl⟩
 have hr2:Calls prog 323 #[.string ⟨#[48]⟩,.int .i64 (m:Int)] w2 fun e w'=>e= .returned (.string Z)/\Below w2.heap.size w2 w':=by rw [hZ.o];exact hr
 rw [<-hZ.o] at ha
 clear hE hEs hk hDs hb hr
 go_wp2_with fail
 refine hr2.mono ?_
 clear hr2
 rintro e w3 ⟨rfl,hb3⟩
 have H3:Aside (Below w1.heap.size w1 w3):=zi H.o hb3
 clear hb3
 go_wp2
 go_ret
 exact ⟨by rw [HE.o];rfl,H3.o⟩
theorem nR (s:ByteArray) (w:World) (hs:s.size<=1000000) (hz:DeB w):
  Calls prog 216 #[.string s] w fun e w'=>∃r:ByteArray,r.data.toList=bs s.data.toList/\e= .returned (.string r)/\Below w.heap.size w w':=by
 have hst:=wJ s w hs hz
 obtain ⟨D,hD⟩:∃D:ByteArray,Aside (D=⟨(ip 8 (rg s.data.toList)).toArray⟩):=⟨_,rfl⟩
 rw [<-hD.o] at hst
 have hDs:D.size=8:=jj
 obtain ⟨E1,h1,h1s,a1⟩:=oX s ⟨#[35]⟩ (by show s.size+1<=_;omega)
 have hE1s:E1.size=s.size+1:=h1s
 obtain ⟨E2,h2,h2s,a2⟩:=oX E1 D zj
 obtain ⟨E3,h3,h3s,a3⟩:=oX E2 ⟨#[10]⟩ (by show E2.size+1<=_;omega)
 have HE:Aside (E3.data.toList=bs s.data.toList):=by
  show _=_
  rw [h3,h2,h1,hD.o]
  unfold bs
  simp
 clear h1 h2 h3 h1s h2s h3s hE1s hDs hz
 go_enter func216,ntmps216
 go_wp2_with fail
 refine hst.mono ?_
 clear hst
 rintro e w1 ⟨rfl,hb⟩
 have H:Aside (Below w.heap.size w w1):=hb
 clear hb
 go_wp2
 go_ret
 exact ⟨E3,HE.o,rfl,H.o⟩
end
section
open Go.RowKit
theorem eK (s:ByteArray) (n:Nat) (w:World) (h:kY 10 s.data.toList=some n):Calls prog 362 #[.string s,.int .i64 10] w fun e w'=>e= .returned (.tuple #[.int .i64 (n:Int),.bool true])/\w'=w:=by
 have:=rt 10 zo s w
 rw [h] at this
 exact this
theorem eN (s:ByteArray) (w:World) (h:kY 10 s.data.toList=none):Calls prog 362 #[.string s,.int .i64 10] w fun e w'=>e= .returned (.tuple #[.int .i64 0,.bool false])/\w'=w:=by
 have:=rt 10 zo s w
 rw [h] at this
 exact this
theorem Ga (s:ByteArray) (v:List UInt8) (w:World) (hs:s.size<=1000000) (h:bK s.data.toList=some v):Calls prog 363 #[.string s] w fun e w'=>e= .returned (.tuple #[.string ⟨v.toArray⟩,.bool true])/\Below w.heap.size w w':=by
 have:=mC s w hs
 rw [h] at this
 exact this
theorem IZ (s:ByteArray) (w:World) (hs:s.size<=1000000) (h:bK s.data.toList=none):Calls prog 363 #[.string s] w fun e w'=>e= .returned (.tuple #[.string ⟨#[]⟩,.bool false])/\Below w.heap.size w w':=by
 have:=mC s w hs
 rw [h] at this
 exact this
theorem Md (c:UInt8) (x:List (List UInt8)) (q:List UInt8) (h:q∈hd [c] x):q.length<=1\/∃r∈x,q.length<=r.length+1:=by
 cases x with
 | nil=>simp [hd] at h;subst h;exact .inl zq
 | cons p ps=>
  simp only [hd,jQ] at h
  rcases h with rfl | h
  ·exact .inr ⟨p,zq,zq⟩
  exact .inr ⟨q,by simp [h],zj⟩
theorem BT (p:UInt8) (l q:List UInt8) (h:q∈dh p l):q.length<=l.length:=by
 induction l generalizing q with
 | nil=>simp [dh] at h;subst h;simp
 | cons c r ih=>
  by_cases hc:c=p
  ·subst hc
   rw [iR] at h
   rcases jQ.1 h with rfl | h
   ·simp
   have:=ih q h;simp;omega
  rw [dL p c r hc] at h
  rcases Md c _ q h with h | ⟨x,hx,h⟩
  ·simp;omega
  have:=ih x hx;simp;omega
theorem EJ (s:ByteArray) (m:Int) (w:World) (hs:s.size<=1000000) (hm:w.cell? ⟨14,0,none⟩=some (.int .i64 m)):
  Calls prog 361 #[.string s,.string ⟨#[124]⟩,.int .i64 9] w fun e w'=>∃(P:List ByteArray) (cap g:Nat),e= .returned (.slice (some ⟨g,0,none⟩) P.length cap)/\w.heap.size<=g/\P.length<=cap/\(∀(j:Nat) p,P[j]? =some p->w'.cell? ⟨g,j,none⟩=some (.string p))/\
   ((dh 124 s.data.toList).length=8->P.map (·.data.toList)=dh 124 s.data.toList)/\((dh 124 s.data.toList).length≠8->P.length≠8)/\Below w.heap.size w w':=by
 refine (Tryz.strings_SplitN s ⟨#[124]⟩ 9 m w zj hm zo zo zo).mono ?_
 rintro e w' ⟨rfl,rfl⟩
 have hl:s.data.toList.length=s.size:=zq
 have hd:(Lib.splitB ⟨#[124]⟩ 0 (min 9 (s.size+1) - 1) s).map (·.data.toList)=Lib.splitK [124] 0 (min 9 (s.size+1) - 1) s.data.toList:=Lib.splitB_data ⟨#[124]⟩ 0 _ s
 have hn:=od 124 s.data.toList (min 9 (s.size+1) - 1)
 have hle:=me 124 s.data.toList
 rw [hl] at hle
 have hlen:(Lib.splitB ⟨#[124]⟩ 0 (min 9 (s.size+1) - 1) s).length=min (min 9 (s.size+1) - 1+1) (dh 124 s.data.toList).length:=by
  have:=congrArg List.length hd
  rw [vy] at this
  rw [this,hn]
 refine ⟨_,_,_,rfl,jL _,by rw [hlen];omega,?_,fun h4=> ?_,fun h4=>by rw [hlen];omega,zh _ _⟩
 ·intro j p hj
  have hj2:j<(Lib.splitB ⟨#[124]⟩ 0 (min 9 (s.size+1) - 1) s).length:=(jI.1 hj).1
  rw [World.cell?_alloc_at _ _ _ _ rfl]
  unfold Lib.cellsOf
  rw [List.getElem?_toArray,uC (by simpa using hj2),vP,hj]
  rfl
 rw [hd]
 exact FP _ _ _ zj
structure ResO (w0:World) (w:World):Prop where
 z:OpAt w w0.heap.size 0 0 0 0 0 0 ⟨#[]⟩ ⟨#[]⟩
 f0:w.frozen? ⟨w0.heap.size,0,none⟩=false
 f1:w.frozen? ⟨w0.heap.size,1,none⟩=false
 f2:w.frozen? ⟨w0.heap.size,2,none⟩=false
 f3:w.frozen? ⟨w0.heap.size,3,none⟩=false
 f4:w.frozen? ⟨w0.heap.size,4,none⟩=false
 f5:w.frozen? ⟨w0.heap.size,5,none⟩=false
 f6:w.frozen? ⟨w0.heap.size,6,none⟩=false
 f7:w.frozen? ⟨w0.heap.size,7,none⟩=false
 b:Below w0.heap.size w0 w
theorem bv {b:Nat} {v:Bool} (hb:Below w.heap.size w w') (hz:b<w.heap.size) (h:w.frozen? ⟨b,o,none⟩=v):w'.frozen? ⟨b,o,none⟩=v:=by
 rw [hb.frozen (p:=⟨b,o,none⟩) hz];exact h
theorem ResO.lt (h:ResO w0 w):w0.heap.size<w.heap.size:=jR w ⟨w0.heap.size,0,none⟩ h.z.c0
theorem ResO.later {w0 w w':World} (h:ResO w0 w) (hb:Below w.heap.size w w'):ResO w0 w':=
 ⟨h.z.later hb,bv hb h.lt h.f0,bv hb h.lt h.f1,bv hb h.lt h.f2,bv hb h.lt h.f3,bv hb h.lt h.f4,bv hb h.lt h.f5,bv hb h.lt h.f6,bv hb h.lt h.f7,zi h.b hb⟩
theorem ResO.new (w:World) (T:TypeId):ResO w (w.alloc (.cells #[.int .i64 0,.int .i64 0,.int .i64 0,.int .u8 0,.int .i64 0,.int .i64 0,.string ⟨#[]⟩,.string ⟨#[]⟩] T)):=by
 refine ⟨by constructor<;>simp [go_sem],?_,?_,?_,?_,?_,?_,?_,?_,zh _ _⟩<;>simp [go_sem]
def gR (r:Option LL):Value:=match r with
 | none=>.agg #[.int .i64 0,.int .i64 0,.int .i64 0,.int .u8 0,.int .i64 0,.int .i64 0,.string ⟨#[]⟩,.string ⟨#[]⟩]
 | some (c,n1,n2,n3,n4,n5,nm,v)=>.agg #[.int .i64 (n1:Int),.int .i64 (n2:Int),.int .i64 (n3:Int),.int .u8 (c.toNat:Int),.int .i64 (n4:Int),.int .i64 (n5:Int),.string ⟨nm.toArray⟩,.string ⟨v.toArray⟩]
theorem FF (s:ByteArray) (w:World) (hs:s.size<=1000000) (m:Int) (hm:w.cell? ⟨14,0,none⟩=some (.int .i64 m)) (h8:(dh 124 s.data.toList).length≠8):
  Calls prog 358 #[.string s] w fun e w'=>e= .returned (.tuple #[gR (bH s.data.toList),.bool (bH s.data.toList).isSome])/\Below w.heap.size w w':=by
 have R0:=ResO.new w 61
 have HM:=Lib.hid (aQ ((jN w.heap.size w).alloc zg (.cells #[.int .i64 0,.int .i64 0,.int .i64 0,.int .u8 0,.int .i64 0,.int .i64 0,.string ⟨#[]⟩,.string ⟨#[]⟩] 61)) hm)
 clear hm
 have H8:=Lib.hid h8
 have HE:=Lib.hid (Co h8)
 clear h8
 generalize bH s.data.toList=R at HE |-
 go_enter func358,ntmps358
 go_wp2_with fail
 refine (EJ s m _ hs HM.o).mono ?_
 rintro e w1 ⟨P,cap,g,rfl,hg,hcap,hc,h4e,h4n,hb⟩
 have R1:=R0.later hb
 have hne:=h4n H8.o
 have d8:((P.length:Int) !=8)=true:=zl
 clear hb R0 HM hc h4e h4n hcap hne hg
 obtain ⟨⟨c0,c1,c2,c3,c4,c5,c6,c7⟩,f0,f1,f2,f3,f4,f5,f6,f7,B1⟩:=R1
 exact kb0
theorem Am (s:ByteArray) (w:World) (hs:s.size<=1000000) (m:Int) (hm:w.cell? ⟨14,0,none⟩=some (.int .i64 m)) (l0 l1 l2 l3 l4 l5 l6 l7:List UInt8) (h8:dh 124 s.data.toList= [l0,l1,l2,l3,l4,l5,l6,l7]) (h0:l0.length≠1):
  Calls prog 358 #[.string s] w fun e w'=>e= .returned (.tuple #[gR (bH s.data.toList),.bool (bH s.data.toList).isSome])/\Below w.heap.size w w':=by
 have R0:=ResO.new w 61
 have HM:=Lib.hid (aQ ((jN w.heap.size w).alloc zg (.cells #[.int .i64 0,.int .i64 0,.int .i64 0,.int .u8 0,.int .i64 0,.int .i64 0,.string ⟨#[]⟩,.string ⟨#[]⟩] 61)) hm)
 clear hm
 have HE:=Lib.hid (tZ h8 h0)
 generalize bH s.data.toList=R at HE |-
 have H8:=Lib.hid h8
 clear h8
 go_enter func358,ntmps358
 go_wp2_with fail
 refine (EJ s m _ hs HM.o).mono ?_
 rintro e w1 ⟨P,cap,g,rfl,hg,hcap,hc,h4e,h4n,hb⟩
 have R1:=R0.later hb
 have hP:=h4e (by rw [H8.o];rfl)
 rw [H8.o] at hP
 obtain ⟨p0,p1,p2,p3,p4,p5,p6,p7,rfl,e0,e1,e2,e3,e4,e5,e6,e7⟩:∃p0 p1 p2 p3 p4 p5 p6 p7,P= [p0,p1,p2,p3,p4,p5,p6,p7]/\p0.data.toList=l0/\p1.data.toList=l1/\p2.data.toList=l2/\p3.data.toList=l3/\p4.data.toList=l4/\p5.data.toList=l5/\p6.data.toList=l6/\p7.data.toList=l7:=by
  have hlen:P.length=8:=xL
  match P,hlen,hP with
  | [a0,a1,a2,a3,a4,a5,a6,a7],_,hP=>simp at hP;exact ⟨a0,a1,a2,a3,a4,a5,a6,a7,rfl,hP⟩
 have hcap8:8<=cap:=by simpa using hcap
 have k0:=hc 0 _ rfl
 have hl0:p0.size=l0.length:=by rw [<-e0];simp
 have d1:((p0.size:Int) !=1)=true:=zl
 clear hb R0 HM hc h4e h4n hcap hP hg e0 e1 e2 e3 e4 e5 e6 e7 hl0 h0 H8
 obtain ⟨⟨c0,c1,c2,c3,c4,c5,c6,c7⟩,f0,f1,f2,f3,f4,f5,f6,f7,B1⟩:=R1
 exact kb0
