import Derived.Test.YtfkekfibjnjcnaaGreatDoorMZ05
import Derived.Test.YtfkekfibjnjcnaaGreatDoorMZ10
import Derived.Sort.OwnSortedInts
set_option linter.unusedSimpArgs false
set_option linter.unusedVariables false
set_option maxRecDepth 100000
set_option maxHeartbeats 64000000
namespace Go.Proofs.YtfkekfibjnjcnaaGreatDoor
open Go.Proofs.Tryz
variable {D:DataW Unit} {t:Int} {ks:List Int} {b name value:List UInt8} {i k n v:Nat} {x:OpX} {f:TSta} {W:World}
section
def errJ (x:OpX):Nat:=opE x.1 x.2.1 x.2.2.1 x.2.2.2.1 x.2.2.2.2.1 x.2.2.2.2.2.1 x.2.2.2.2.2.2.1.data.toList x.2.2.2.2.2.2.2.data.toList
def div1 (c:Nat):Nat:=if c % 2=1 then (c / 2)^^^3988292384 else c / 2
def divN:Nat->Nat->Nat
 | 0,c=>c
 | n+1,c=>divN n (div1 c)
theorem divN_succ:∀(n c:Nat),divN (n+1) c=div1 (divN n c)
 | 0,c=>rfl
 | n+1,c=>by
  show divN (n+1) (div1 c)=_
  rw [divN_succ n (div1 c)]
  rfl
def crcL (c:Nat):List UInt8->Nat
 | []=>c
 | b::l=>crcL (divN 8 (c^^^b.toNat)) l
def crcOf (l:List UInt8):Nat:=4294967295 - crcL 4294967295 l
theorem div1_lt {c:Nat} (h:c<4294967296):div1 c<4294967296:=by
 unfold div1
 split
 ·exact Nat.xor_lt_two_pow (n:=32) zj zj
 omega
theorem divN_lt:∀(n:Nat) {c:Nat},c<4294967296->divN n c<4294967296
 | 0,_,h=>h
 | n+1,_,h=>divN_lt n (div1_lt h)
theorem xor_byte {c:Nat} (h:c<4294967296) (b:UInt8):c^^^b.toNat<4294967296:=Nat.xor_lt_two_pow (n:=32) zj (by have:=b.toNat_lt;omega)
theorem crcL_snoc:∀(l:List UInt8) (c:Nat) (b:UInt8),crcL c (l++ [b])=divN 8 (crcL c l^^^b.toNat)
 | [],c,b=>rfl
 | a::l,c,b=>crcL_snoc l _ b
theorem crcOf_lt (l:List UInt8):crcOf l<4294967296:=by unfold crcOf;omega
theorem xor_all (h:v<4294967296):4294967295^^^v=4294967295 - v:=by
 have h1:(BitVec.allOnes 32^^^BitVec.ofNat 32 v).toNat=(~~~ BitVec.ofNat 32 v).toNat:=by rw [BitVec.allOnes_xor]
 rw [BitVec.toNat_xor,BitVec.toNat_not,BitVec.toNat_allOnes,BitVec.toNat_ofNat,Nat.mod_eq_of_lt zj] at h1
 simpa using h1
def digs:Nat->Nat->List UInt8
 | 0,_=>[]
 | n+1,v=>digs n (v / 16)++ [hexd (v % 16)]
theorem digs_len:∀n v,(digs n v).length=n
 | 0,_=>rfl
 | n+1,v=>by simp [digs,digs_len n]
theorem digs_zero:∀n,digs n 0=List.replicate n 48
 | 0=>rfl
 | n+1=>by
  rw [List.replicate_succ']
  show digs n (0 / 16)++ [hexd (0 % 16)]=_
  rw [show 0 / 16=0 from rfl,digs_zero n]
  rfl
theorem digs_pad:∀(m k v:Nat),v<16^k->digs (m+k) v=List.replicate m 48++digs k v
 | m,0,v,h=>by
  have:v=0:=qO
  subst this
  rw [ui,digs_zero]
  simp [digs]
 | m,k+1,v,h=>by
  show digs (m+k) (v / 16)++ [hexd (v % 16)]=List.replicate m 48++(digs k (v / 16)++ [hexd (v % 16)])
  rw [digs_pad m k (v / 16) (by rw [Zq] at h;omega),vR]
theorem hexd_ge:∀n:Fin 16,45<=(hexd n).toNat:=yu
def recL (t:List UInt8):List UInt8:=t++35::(digs 8 (crcOf t)++ [10])
theorem recL_len (t:List UInt8):(recL t).length=t.length+10:=by
 unfold recL
 simp [digs_len]
def textO (x:OpX):List UInt8:=opTextL x.1 x.2.1 x.2.2.1 x.2.2.2.1 x.2.2.2.2.1 x.2.2.2.2.2.1 x.2.2.2.2.2.2.1.data.toList x.2.2.2.2.2.2.2.data.toList
def readO (l:List UInt8):Option OpX:=match partsL l with
 | none=>none
 | some (c,n1,n2,n3,n4,n5,nm,v)=>if opE n1 n2 n3 c.toNat n4 n5 nm v=0 then some ((n1:Int),(n2:Int),(n3:Int),c.toNat,(n4:Int),(n5:Int),⟨nm.toArray⟩,⟨v.toArray⟩) else none
theorem readO_text (h:errJ x=0):readO (textO x)=some x:=by
 obtain ⟨t,b,n,k,nd,o,s,v⟩:=x
 have h':opE t b n k nd o s.data.toList v.data.toList=0:=h
 have hp:=parts_text h'
 obtain ⟨h1,h2,h3,h4,h5,h6,hk,h7,h8,h9,h10,-⟩:=opE_zero h'
 have e1:((t.toNat:Nat):Int)=t:=zj
 have e2:((b.toNat:Nat):Int)=b:=zj
 have e3:((n.toNat:Nat):Int)=n:=zj
 have e4:((nd.toNat:Nat):Int)=nd:=zj
 have e5:((o.toNat:Nat):Int)=o:=zj
 have ek:(UInt8.ofNat k).toNat=k:=by rcases hk with rfl | rfl | rfl | rfl<;>rfl
 unfold readO textO
 dsimp only
 rw [hp]
 dsimp only
 rw [e1,e2,e3,e4,e5,ek,if_pos h']
theorem text_readO {l:List UInt8} (h:readO l=some x):textO x=l/\errJ x=0:=by
 unfold readO at h
 split at h
 ·cases h
 rename_i c n1 n2 n3 n4 n5 nm v hp
 split at h
 ·rename_i he
  cases h
  exact ⟨text_parts hp,he⟩
 cases h
theorem opE_name {b n:Int} {node other:Int} (h:opE t b n k node other name value=0):name= []\/nameOk name=true:=by
 by_cases hn:nameOk name=true
 ·exact .inr hn
 by_cases he:name= []
 ·exact .inl he
 exfalso
 have hn':nameOk name=false:=ql
 have h4:(if nameOk name=false then 4 else if value≠ [] then 3 else 0)=4:=if_pos hn'
 unfold opE kindE moveE insE delE setE at h
 rw [if_pos hn',if_pos he,if_pos he,if_pos hn'] at h
 repeat' (split at h)
 all_goals cases h
theorem name_ge {b n:Int} {node other:Int} (h:opE t b n k node other name value=0):∀c∈name,45<=c.toNat:=fun c hc=>by
 rcases opE_name h with rfl | hn
 ·simp at hc
 unfold nameOk at hn
 simp only [uQ,decide_eq_true_eq] at hn
 have:=Zl.1 hn.2 _ hc
 unfold nameB at this
 simp only [decide_eq_true_eq] at this
 omega
theorem itoa_ge (a:Int) (h0:0<=a):∀c∈Lib.itoa a,45<=c.toNat:=fun c hc=>by
 rw [Lib.itoa,if_neg zj] at hc
 have:=dec_digit _ _ hc
 omega
theorem hexL_ge:∀(l:List UInt8),∀c∈hexL l,45<=c.toNat
 | [],c,h=>by simp [hexL] at h
 | a::r,c,h=>by
  have ha:=a.toNat_lt
  simp only [hexL,vz] at h
  rcases h with rfl | rfl | h
  ·exact hexd_ge ⟨a.toNat / 16,zj⟩
  ·exact hexd_ge ⟨a.toNat % 16,zj⟩
  exact hexL_ge r c h
theorem joinP_ge:∀(x:List (List UInt8)),(∀l∈x,∀c∈l,45<=c.toNat)->∀c∈joinP 124 x,45<=c.toNat
 | [],_,c,h=>by simp [joinP] at h
 | [a],hx,c,h=>by
  simp only [joinP] at h
  exact hx a zm c h
 | a::b::r,hx,c,h=>by
  simp only [joinP] at h
  rcases vv.1 h with q | q
  ·exact hx a zm c q
  rcases vz.1 q with rfl | q
  ·decide
  exact joinP_ge (b::r) (fun l hl=>hx l (vF _ hl)) c q
theorem text_ge (h:errJ x=0):∀c∈textO x,45<=c.toNat:=by
 obtain ⟨t,b,n,k,nd,o,s,v⟩:=x
 have h':opE t b n k nd o s.data.toList v.data.toList=0:=h
 obtain ⟨h1,h2,h3,h4,h5,h6,hk,h7,h8,h9,h10,-⟩:=opE_zero h'
 unfold textO opTextL
 dsimp only
 refine joinP_ge _ (fun l hl=> ?_)
 simp only [vz,Zc,or_false] at hl
 rcases hl with rfl | rfl | rfl | rfl | rfl | rfl | rfl | rfl
 ·intro c hc
  rw [vA.1 hc]
  rcases hk with rfl | rfl | rfl | rfl<;>decide
 ·exact itoa_ge _ zj
 ·exact itoa_ge _ zj
 ·exact itoa_ge _ zj
 ·exact itoa_ge _ zj
 ·exact itoa_ge _ zj
 ·exact name_ge h'
 exact hexL_ge _
theorem textO_len (h:errJ x=0):(textO x).length<=1000:=by
 obtain ⟨t,b,n,k,nd,o,s,v⟩:=x
 have h':opE t b n k nd o s.data.toList v.data.toList=0:=h
 obtain ⟨h1,h2,h3,h4,h5,h6,hk,h7,h8,h9,h10,-,hn,hv⟩:=opE_zero h'
 have e1:=Lib.itoa_length_le t zj zj
 have e2:=Lib.itoa_length_le b zj zj
 have e3:=Lib.itoa_length_le n zj zj
 have e4:=Lib.itoa_length_le nd zj zj
 have e5:=Lib.itoa_length_le o zj zj
 have e6:=hexL_length v.data.toList
 unfold textO opTextL
 simp only [joinP,vw,vH,vT]
 omega
def ahead:List UInt8->List UInt8
 | []=>[]
 | c::l=>if c=35 then [] else c::ahead l
theorem ahead_text:∀ {t:List UInt8} (r:List UInt8),(∀c∈t,45<=c.toNat)->ahead (t++35::r)=t
 | [],r,_=>rfl
 | c::t,r,h=>by
  have hc:c≠35:=fun e=>by have:=h c zm;rw [e] at this;revert this;decide
  show (if c=35 then [] else c::ahead (t++35::r))=c::t
  rw [if_neg hc,ahead_text r (fun d hd=>h d (by simp [hd]))]
theorem ahead_none:∀ {l:List UInt8},(35:UInt8)∉l->ahead l=l
 | [],_=>rfl
 | c::l,h=>by
  have hc:c≠35:=fun e=>h (by simp [e])
  show (if c=35 then [] else c::ahead l)=c::l
  rw [if_neg hc,ahead_none (fun q=>h (by simp [q]))]
theorem ahead_len:∀(l:List UInt8),(ahead l).length<=l.length
 | []=>vm _
 | c::l=>by
  unfold ahead
  split
  ·simp
  have:=ahead_len l
  simp;omega
def readR (b:List UInt8):Option (OpX×Nat):=match readO (ahead b) with
 | none=>none
 | some x=>if recL (ahead b)<+:b then some (x,(recL (ahead b)).length) else none
theorem readR_rec (h:errJ x=0) (r:List UInt8):readR (recL (textO x)++r)=some (x,(recL (textO x)).length):=by
 have ha:ahead (recL (textO x)++r)=textO x:=by
  unfold recL
  rw [vR]
  exact ahead_text _ (text_ge h)
 unfold readR
 rw [ha,readO_text h]
 dsimp only
 rw [if_pos ⟨r,rfl⟩]
theorem readR_some (h:readR b=some (x,n)):errJ x=0/\n=(recL (textO x)).length/\∃r,b=recL (textO x)++r:=by
 unfold readR at h
 split at h
 ·cases h
 rename_i y hy
 obtain ⟨h1,h2⟩:=text_readO hy
 split at h
 ·rename_i hp
  cases h
  obtain ⟨r,hr⟩:=hp
  rw [<-h1] at hr
  exact ⟨h2,by rw [h1],r,hr.symm⟩
 cases h
theorem readR_cut (h:errJ x=0) (hn:n<(recL (textO x)).length):readR ((recL (textO x)).take n)=none:=by
 unfold readR
 split
 ·rfl
 rename_i y hy
 rw [if_neg]
 rintro ⟨r,hr⟩
 have hl:=congrArg List.length hr
 rw [vw,vP,recL_len] at hl
 by_cases hq:n<=(textO x).length
 ·have e:(recL (textO x)).take n=(textO x).take n:=by
   unfold recL
   rw [vZ hq]
  have h35:(35:UInt8)∉(recL (textO x)).take n:=by
   rw [e]
   intro q
   have:=text_ge h 35 (uz q)
   revert this;decide
  rw [ahead_none h35] at hl
  rw [vP] at hl
  omega
 have ha:ahead ((recL (textO x)).take n)=textO x:=by
  obtain ⟨m,rfl⟩:∃m,n=(textO x).length+(m+1):=⟨n - (textO x).length - 1,zj⟩
  unfold recL
  rw [List.take_length_add_append,List.take_succ_cons]
  exact ahead_text _ (text_ge h)
 rw [ha] at hl
 have:=recL_len (textO x)
 omega
theorem readR_nil:readR []=none:=by
 have:readO []=none:=zu
 unfold readR
 rw [show ahead []= [] from rfl,this]
def readN:Nat->List UInt8->List OpX×Nat
 | 0,_=>([],0)
 | k+1,b=>match readR b with
  | none=>([],0)
  | some (x,n)=>(x::(readN k (b.drop n)).1,n+(readN k (b.drop n)).2)
def readL_ (b:List UInt8):List OpX×Nat:=readN b.length b
theorem readR_pos (h:readR b=some (x,n)):10<=n/\n<=b.length:=by
 obtain ⟨_,h2,r,h3⟩:=readR_some h
 rw [recL_len] at h2
 have:=congrArg List.length h3
 rw [vw,recL_len] at this
 omega
theorem readN_more:∀(k m:Nat) (b:List UInt8),b.length<=k->b.length<=m->readN k b=readN m b
 | 0,0,b,_,_=>rfl
 | 0,m+1,b,h,_=>by
  have:b= []:=vM.1 zj
  subst this
  simp only [readN,readR_nil]
 | k+1,0,b,_,h=>by
  have:b= []:=vM.1 zj
  subst this
  simp only [readN,readR_nil]
 | k+1,m+1,b,h1,h2=>by
  cases hr:readR b with
  | none=>simp only [readN,hr]
  | some p=>
   obtain ⟨x,n⟩:=p
   have:=readR_pos hr
   simp only [readN,hr]
   rw [readN_more k m (b.drop n) qe qe]
theorem readA_none (h:readR b=none):readL_ b=([],0):=by
 unfold readL_
 cases hb:b.length with
 | zero=>rfl
 | succ k=>simp only [readN,h]
theorem readA_some (h:readR b=some (x,n)):readL_ b=(x::(readL_ (b.drop n)).1,n+(readL_ (b.drop n)).2):=by
 have hp:=readR_pos h
 unfold readL_
 cases hb:b.length with
 | zero=>omega
 | succ k=>
  simp only [readN,h]
  rw [readN_more k (b.drop n).length (b.drop n) qe zg]
def recsL:List OpX->List UInt8
 | []=>[]
 | x::l=>recL (textO x)++recsL l
theorem recsL_append:∀(a b:List OpX),recsL (a++b)=recsL a++recsL b
 | [],b=>rfl
 | x::a,b=>by
  show recL (textO x)++recsL (a++b)=_
  rw [recsL_append a b,<-vR]
  rfl
theorem readA_recs:∀(l:List OpX) (r:List UInt8),(∀x∈l,errJ x=0)->readR r=none->readL_ (recsL l++r)=(l,(recsL l).length)
 | [],r,_,h=>by
  show readL_ r=([],0)
  exact readA_none h
 | x::l,r,hl,h=>by
  have e:recsL (x::l)++r=recL (textO x)++(recsL l++r):=by
   show recL (textO x)++recsL l++r=_
   rw [vR]
  rw [e,readA_some (readR_rec (hl x zm) _),List.drop_left,readA_recs l r (fun y hy=>hl y xq) h]
  show (x::l,(recL (textO x)).length+(recsL l).length)=(x::l,(recL (textO x)++recsL l).length)
  rw [vw]
theorem readA_is:∀(k:Nat) (b:List UInt8),b.length<=k->∃r,b=recsL (readL_ b).1++r/\readR r=none/\(readL_ b).2=(recsL (readL_ b).1).length/\∀x∈(readL_ b).1,errJ x=0
 | k,b,hk=>by
  cases hr:readR b with
  | none=>
   rw [readA_none hr]
   exact ⟨b,rfl,hr,rfl,fun x hx=>zO⟩
  | some p=>
   obtain ⟨x,n⟩:=p
   have hp:=readR_pos hr
   obtain ⟨h1,h2,r,h3⟩:=readR_some hr
   rw [readA_some hr]
   have hd:b.drop n=r:=by rw [h3,h2,List.drop_left]
   match k,hk with
   | 0,hk=>omega
   | k+1,hk=>
    obtain ⟨r',q1,q2,q3,q4⟩:=readA_is k (b.drop n) qe
    refine ⟨r',?_,q2,?_,fun y hy=> ?_⟩
    ·show b=recL (textO x)++recsL (readL_ (b.drop n)).1++r'
     rw [vR,<-q1,hd]
     exact h3
    ·show n+_=(recL (textO x)++recsL (readL_ (b.drop n)).1).length
     rw [vw,q3,h2]
    rcases vz.1 hy with rfl | hy
    ·exact h1
    exact q4 y hy
end
section
open Go.RowKit Go.Lib Go.Sort
theorem and_one (h:v<4294967296):bits .and .u32 (v:Int) 1=((v % 2:Nat):Int):=by
 have:=u32_and_nat v 1 h zj
 rw [Nat.and_one_is_mod] at this
 exact this
theorem xor_poly (h:v<4294967296):bits .xor .u32 (v:Int) 3988292384=((v^^^3988292384:Nat):Int):=u32_xor_nat v 3988292384 h zj
theorem not_u32 (h:v<4294967296):bits .xor .u32 IntKind.u32.max (v:Int)=((4294967295 - v:Nat):Int):=by
 have e:IntKind.u32.max=((4294967295:Nat):Int):=zt
 rw [e,u32_xor_nat _ _ zj h,xor_all h]
theorem divide_any (c:Nat) (w:World) (hc:c<4294967296):
  Calls prog 238 #[.int .u32 (c:Int)] w fun e w'=>e= .returned (.int .u32 ((divN 8 c:Nat):Int))/\w'=w:=by
 go_enter func238,ntmps238
 go_wp2
 go_loopg [0,4] 8 (fun kx s0 s4 wr=>∃(j v:Nat),s0= .int .u32 (v:Int)/\s4= .int .i64 (j:Int)/\j<=8/\8 - j<=kx/\v<4294967296/\Aside (v=divN j c/\wr=w))
 case atStart=>exact ⟨0,c,rfl,rfl,zj,zj,hc,rfl,rfl⟩
 case round=>
  obtain ⟨j,v,rfl,rfl,hj,hjx,hv,A⟩:=hrel
  by_cases hlt:j<8
  ·have d1:decide ((j:Int)<(8:Int))=true:=by simp;omega
   have d1n:decide (j<8)=true:=zl
   have ha:=and_one hv
   obtain ⟨hf,hhf⟩:∃hf:Nat,Aside (hf=v / 2):=⟨_,rfl⟩
   have hh:(v:Int) / 2=(hf:Int):=by rw [hhf.o];omega
   by_cases hb:v % 2=1
   ·rw [hb] at ha
    have hx:=xor_poly (v:=hf) (by rw [hhf.o];omega)
    have hvj:hf^^^3988292384=divN (j+1) c:=by rw [divN_succ,<-A.o.1,hhf.o];unfold div1;rw [if_pos hb]
    obtain ⟨v',hv'⟩:∃v':Nat,Aside (v'=hf^^^3988292384):=⟨_,rfl⟩
    rw [<-hv'.o] at hx hvj
    have HV:Aside (v'=divN (j+1) c/\wr=w/\v'<4294967296):=⟨hvj,A.o.2,by rw [hvj];exact divN_lt _ hc⟩
    clear A hvj
    go_wp2
    go_roundg (8 - (j+1))
    case measure=>omega
    case rel=>exact ⟨j+1,v',rfl,zL,zj,vm _,HV.o.2.2,HV.o.1,HV.o.2.1⟩
   rw [show v % 2=0 by omega] at ha
   have hvj:hf=divN (j+1) c:=by rw [divN_succ,<-A.o.1,hhf.o];unfold div1;rw [if_neg hb]
   have HV:Aside (hf=divN (j+1) c/\wr=w/\hf<4294967296):=⟨hvj,A.o.2,by rw [hvj];exact divN_lt _ hc⟩
   clear A hvj
   go_wp2
   go_roundg (8 - (j+1))
   case measure=>omega
   case rel=>exact ⟨j+1,hf,rfl,zL,zj,vm _,HV.o.2.2,HV.o.1,HV.o.2.1⟩
  have d1:decide ((j:Int)<(8:Int))=false:=zl
  have d1n:decide (j<8)=false:=zl
  have HV:Aside (v=divN 8 c/\wr=w):=by
   have e8:j=8:=zj
   have:=A.o
   rwa [e8] at this
  clear A
  go_wp2
  go_ret
  exact ⟨by rw [HV.o.1];rfl,HV.o.2⟩
theorem sum_any (s:ByteArray) (w:World) (hs:s.size<=1000000):
  Calls prog 194 #[.string s] w fun e w'=>e= .returned (.int .u32 ((crcOf s.data.toList:Nat):Int))/\w'=w:=by
 go_enter func194,ntmps194
 go_wp2
 go_loopg [3,7] s.size (fun kx s3 s7 wr=>∃(j v:Nat),s3= .int .u32 (v:Int)/\s7= .int .i64 (j:Int)/\j<=s.size/\s.size - j<=kx/\v<4294967296/\Aside (v=crcL 4294967295 (s.data.toList.take j)/\wr=w))
 case atStart=>exact ⟨0,4294967295,rfl,rfl,zj,zj,zj,rfl,rfl⟩
 case round=>
  obtain ⟨j,v,rfl,rfl,hj,hjx,hv,A⟩:=hrel
  by_cases hlt:j<s.size
  ·have d1:decide ((j:Int)<(s.size:Int))=true:=by simp;omega
   have d1n:decide (j<s.size)=true:=zl
   obtain ⟨x,hx⟩:∃x:Nat,Aside (x=v^^^s[j].toNat):=⟨v^^^s[j].toNat,rfl⟩
   have hb:=s[j].toNat_lt
   have hcv:IntKind.u32.wrap (s[j].toNat:Int)=(s[j].toNat:Int):=by rw [IntKind.wrap_u32'];omega
   have hxx:bits .xor .u32 (v:Int) (s[j].toNat:Int)=(x:Int):=by rw [hx.o];exact u32_xor_nat v s[j].toNat hv zj
   have hx32:x<4294967296:=by rw [hx.o];exact xor_byte hv s[j]
   have hdv:=divide_any x wr hx32
   obtain ⟨v',hv'⟩:∃v':Nat,Aside (v'=divN 8 x):=⟨_,rfl⟩
   rw [<-hv'.o] at hdv
   have HV:Aside (v'=crcL 4294967295 (s.data.toList.take (j+1))/\wr=w/\v'<4294967296):=⟨by rw [<-take_byte s j hlt,crcL_snoc,<-A.o.1,hv'.o,hx.o],A.o.2,by rw [hv'.o];exact divN_lt 8 hx32⟩
   clear A
   go_wp2_with fail
   refine hdv.mono ?_
   clear hdv
   rintro e w1 ⟨rfl,rfl⟩
   go_wp2
   go_roundg (s.size - (j+1))
   case measure=>omega
   case rel=>exact ⟨j+1,v',rfl,zL,zj,vm _,HV.o.2.2,HV.o.1,HV.o.2.1⟩
  have d1:decide ((j:Int)<(s.size:Int))=false:=zl
  have d1n:decide (j<s.size)=false:=zl
  have hvv:v=crcL 4294967295 s.data.toList:=by
   have:=A.o.1
   rwa [vG zl] at this
  have HV:Aside (crcOf s.data.toList=4294967295 - v/\wr=w):=⟨by rw [hvv];rfl,A.o.2⟩
  clear A hvv
  go_wp2
  go_ret
  refine ⟨?_,HV.o.2⟩
  rw [HV.o.1]
  show Ending.returned (Value.int .u32 _)=_
  rw [not_u32 hv]
end
section
open Go.RowKit Go.Lib Go.Sort
theorem tz64 (w:World) (hz:w.cell? ⟨14,15,none⟩=some (.int .u8 4)):
  Calls prog 245 #[.int .u64 16] w fun e w'=>e= .returned (.int .i64 4)/\w'=w:=by
 have e0:IntKind.u64.wrap (-16)=18446744073709551600:=zt
 have e1:bits .and .u64 16 18446744073709551600=16:=zt
 have e2:IntKind.u64.wrap 4573923408821661840=4573923408821661840:=zt
 go_enter func245,ntmps245
 go_wp2
 go_ret
 exact ⟨rfl,rfl⟩
theorem tz16 (w:World) (hz:w.cell? ⟨14,15,none⟩=some (.int .u8 4)):
  Calls prog 202 #[.int .u64 16] w fun e w'=>e= .returned (.int .i64 4)/\w'=w:=by
 have h:=tz64 w hz
 clear hz
 go_enter func202,ntmps202
 go_wp2_with fail
 refine h.mono ?_
 rintro e w1 ⟨rfl,rfl⟩
 go_wp2
 go_ret
 exact ⟨rfl,rfl⟩
theorem pow16 (w:World):Calls prog 201 #[.int .i64 16] w fun e w'=>e= .returned (.bool true)/\w'=w:=by
 have e1:bits .and .i64 16 15=0:=zt
 go_enter func201,ntmps201
 go_wp2
 go_ret
 exact ⟨rfl,rfl⟩
theorem digs_front:∀(k v:Nat),digs (k+1) v=hexd (v / 16^k % 16)::digs k v
 | 0,v=>by simp [digs]
 | k+1,v=>by
  show digs (k+1) (v / 16)++ [hexd (v % 16)]=hexd (v / 16^(k+1) % 16)::(digs k (v / 16)++ [hexd (v % 16)])
  rw [digs_front k (v / 16),Nat.div_div_eq_div_mul,Zq,ZA 16]
  rfl
def HexAt (W:World) (b k v:Nat):Prop:=∃arr:Array Value,W.heap[b]? =some (.cells arr 276 (0,0))/\arr.size=65/\∀(j:Nat) (c:UInt8),(digs k v)[j]? =some c->arr[65 - k+j]? =some (.int .u8 (c.toNat:Int))
theorem HexAt.start {b:Nat} (v:Nat) (h:W.heap[b]? =some (.cells zeroCells276 276 (0,0))):HexAt W b 0 v:=⟨_,h,zk,fun j c hj=>by simp [digs] at hj⟩
theorem HexAt.cell {W:World} {b k v:Nat} (h:HexAt W b k v) {i:Nat} (hi:i<65):(∃o,W.cell? ⟨b,i,none⟩=some o)/\W.frozen? ⟨b,i,none⟩=false:=by
 obtain ⟨arr,h1,h2,_⟩:=h
 refine ⟨⟨arr[i],?_⟩,by simp [World.frozen?,h1]⟩
 simp [World.cell?,h1,h2,hi]
theorem HexAt.put {b:Nat} (h:HexAt W b k v) (hi:i+(k+1)=65):HexAt (W.setCell ⟨b,i,none⟩ (.int .u8 ((hexd (v / 16^k % 16)).toNat:Int))) b (k+1) v:=by
 obtain ⟨arr,h1,h2,h3⟩:=h
 refine ⟨_,heap_setCell_same W b i _ _ _ h1,by simp [h2],fun j c hj=> ?_⟩
 rw [digs_front] at hj
 rw [Array.getElem?_setIfInBounds]
 match j,hj with
 | 0,hj=>
  have e:hexd (v / 16^k % 16)=c:=yB
  rw [if_pos zj,if_pos zj,e]
 | j+1,hj=>
  rw [if_neg zj]
  have:=h3 j c yB
  rw [<-this]
  congr 1
  omega
theorem idx36 (x:Nat) (w:World) (h1:x<16):(Instr.index 9 (.string ⟨#[48,49,50,51,52,53,54,55,56,57,97,98,99,100,101,102,103,104,105,106,107,108,109,110,111,112,113,114,115,116,117,118,119,120,121,122]⟩) (.int .u64 (x:Int))).run prog w= .ok (.int .u8 ((hexd x).toNat:Int)) w:=by
 rcases (show x=0\/x=1\/x=2\/x=3\/x=4\/x=5\/x=6\/x=7\/x=8\/x=9\/x=10\/x=11\/x=12\/x=13\/x=14\/x=15 by omega) with rfl | rfl | rfl | rfl | rfl | rfl | rfl | rfl | rfl | rfl | rfl | rfl | rfl | rfl | rfl | rfl
 all_goals kernel_rfl
theorem and_15 {u:Nat} (h:u<4294967296):bits .and .u64 (u:Int) 15=((u % 16:Nat):Int):=by
 have:=u64_and_nat u 15 zj zj
 rw [show (15:Nat)=2^4 - 1 from rfl,Nat.and_two_pow_sub_one_eq_mod] at this
 exact this
theorem HexAt.conv {b:Nat} (h:HexAt W b k v) (hi:i+k=65):Sem.run prog (convert 123 9 (.slice (some ⟨b,i,none⟩) k k)) W= .ok (.string ⟨(digs k v).toArray⟩) W:=by
 obtain ⟨arr,h1,h2,h3⟩:=h
 have hl:=digs_len k v
 have:=run_convert_bytes_back (P:=prog) W 123 9 5 ⟨b,i,none⟩ k (digs k v) underlying123 underlying5 underlying9 (fun j hj=>by
  have e:=h3 j _ (vj hj)
  rw [show 65 - k+j=i+j by omega] at e
  rw [Addr.add_lit]
  simp [World.cell?,h1,e])
 rw [hl] at this
 exact this
theorem fmt16 (v:Nat) (w:World) (hv:v<4294967296) (hz:w.cell? ⟨14,15,none⟩=some (.int .u8 4)):
  Calls prog 147 #[.slice none 0 0,.int .u64 (v:Int),.int .i64 16,.bool false,.bool false] w fun e w'=>∃k,(1<=k/\k<=8/\v<16^k)/\e= .returned (.tuple #[.slice none 0 0,.string ⟨(digs k v).toArray⟩])/\Below w.heap.size w w':=by
 obtain ⟨b,hb⟩:=ze w.heap.size
 obtain ⟨U,hU⟩:=ze (w.alloc (.cells zeroCells276 276))
 have hbU:Below w.heap.size w U:=yA
 have H0:Aside (HexAt U b 0 v/\Below w.heap.size w U):=⟨HexAt.start v (by rw [hU.o,hb.o];exact heap_alloc_new w _),hbU⟩
 have hp:=pow16 U
 have ht:=tz16 U (by rw [vI (a:=⟨14,15,none⟩) (hbU.block _ (vp w ⟨14,15,none⟩ hz))];exact hz)
 clear hbU hz
 go_enter func147,ntmps147
 go_upto_region 7 with fail
 rw [<-hU.o,<-hb.o]
 go_wp2_with fail
 refine hp.mono ?_
 clear hp
 rintro e w1 ⟨rfl,rfl⟩
 go_wp2_with fail
 refine ht.mono ?_
 clear ht
 rintro e w2 ⟨rfl,rfl⟩
 have HV:Aside (v<4294967296):=hv
 go_wp2
 go_loopg [1,13] 8 (fun kx s1 s13 wr=>∃(k u i:Nat),s1= .int .u64 (u:Int)/\s13= .int .i64 (i:Int)/\i+k=65/\k<=7/\8 - k<=kx/\u<4294967296/\Aside (u=v / 16^k/\HexAt wr b k v/\Below w.heap.size w wr))
 case atStart=>exact ⟨0,v,65,rfl,rfl,rfl,zj,zj,hv,zm,H0.o⟩
 case round=>
  obtain ⟨k,u,i,rfl,rfl,hik,hk,hkx,hu,A⟩:=hrel
  clear H0
  obtain ⟨j,hj⟩:∃j,i=j+1:=⟨i - 1,zj⟩
  subst hj
  have hw1:IntKind.i64.wrap (((j+1:Nat):Int) - 1)=(j:Int):=zv
  obtain ⟨⟨o,c1⟩,c2⟩:=A.o.2.1.cell (i:=j) zj
  have pj:(0:Int)<=(j:Int):=zj
  have lj:(j:Int)<65:=zj
  by_cases hlt:16<=u
  ·have d1:decide ((16:Int)<=(u:Int))=true:=by simp;omega
   have d1n:decide (16<=u)=true:=zl
   have ha:=and_15 hu
   obtain ⟨r,hr⟩:∃r:Nat,Aside (r=u % 16):=⟨u % 16,rfl⟩
   rw [<-hr.o] at ha
   have hx:=idx36 r
   have hr16:r<16:=by rw [hr.o];omega
   have hxr:∀w:World,(Instr.index 9 (.string ⟨#[48,49,50,51,52,53,54,55,56,57,97,98,99,100,101,102,103,104,105,106,107,108,109,110,111,112,113,114,115,116,117,118,119,120,121,122]⟩) (.int .u64 (r:Int))).run prog w= .ok (.int .u8 ((hexd r).toNat:Int)) w:=fun w=>hx w hr16
   obtain ⟨u',hu'⟩:∃u':Nat,Aside (u'=u / 16):=⟨u / 16,rfl⟩
   have hsh:(u:Int) / 16=(u':Int):=by rw [hu'.o];omega
   obtain ⟨hd,hhd⟩:∃hd:Int,Aside (hd=((hexd r).toNat:Int)):=⟨_,rfl⟩
   have HN:Aside (u'=v / 16^(k+1)/\HexAt (wr.setCell ⟨b,j,none⟩ (.int .u8 hd)) b (k+1) v/\Below w.heap.size w (wr.setCell ⟨b,j,none⟩ (.int .u8 hd))/\k+1<=7/\u'<4294967296):=by
    have e1:=A.o.1
    have hk7:k+1<=7:=by
     by_cases q:k=7
     ·subst q
      have:v / 16^7<16:=zj
      omega
     omega
    refine ⟨?_,?_,?_,hk7,by rw [hu'.o];omega⟩
    ·rw [hu'.o,e1,Nat.div_div_eq_div_mul,<-Zq]
    ·rw [hhd.o,hr.o,e1]
     exact A.o.2.1.put zj
    have hkp:=setCells_keeps b [.int .u8 hd] j wr
    exact A.o.2.2.trans (hkp.below A.o.2.2.size (fun q e=>by have:=hb.o;omega))
   rw [<-hhd.o] at hxr
   clear A hx
   go_wp2
   go_roundg (8 - (k+1))
   case measure=>omega
   case rel=>exact ⟨k+1,u',j,rfl,rfl,zj,HN.o.2.2.2.1,vm _,HN.o.2.2.2.2,HN.o.1,HN.o.2.1,HN.o.2.2.1⟩
  have d1:decide ((16:Int)<=(u:Int))=false:=zl
  have d1n:decide (16<=u)=false:=zl
  have hx:=idx36 u
  have hxr:∀w:World,(Instr.index 9 (.string ⟨#[48,49,50,51,52,53,54,55,56,57,97,98,99,100,101,102,103,104,105,106,107,108,109,110,111,112,113,114,115,116,117,118,119,120,121,122]⟩) (.int .u64 (u:Int))).run prog w= .ok (.int .u8 ((hexd u).toNat:Int)) w:=fun w=>hx w zj
  obtain ⟨hd,hhd⟩:∃hd:Int,Aside (hd=((hexd u).toNat:Int)):=⟨_,rfl⟩
  have HN:Aside (HexAt (wr.setCell ⟨b,j,none⟩ (.int .u8 hd)) b (k+1) v/\Below w.heap.size w (wr.setCell ⟨b,j,none⟩ (.int .u8 hd))/\v<16^(k+1)):=by
   have e1:=A.o.1
   refine ⟨?_,?_,?_⟩
   ·have e2:u=v / 16^k % 16:=by omega
    rw [hhd.o,e2]
    exact A.o.2.1.put zj
   ·have hkp:=setCells_keeps b [.int .u8 hd] j wr
    exact A.o.2.2.trans (hkp.below A.o.2.2.size (fun q e=>by have:=hb.o;omega))
   have q:=(Nat.div_lt_iff_lt_mul (Nat.pow_pos (n:=k) (show 0<16 by omega))).1 (show v / 16^k<16 by rw [<-e1];omega)
   rw [Zq,ZA]
   exact q
  have hcv:=HN.o.1.conv (i:=j) zj
  rw [<-hhd.o] at hxr
  have lk:(65:Int) - (j:Int)=((k+1:Nat):Int):=zj
  have lkn:65 - j=k+1:=zj
  have hsl:∀W:World,(Instr.sliceAt 276 (.pointer (some ⟨b,0,none⟩)) (some (.int .i64 (j:Int))) none none).run prog W= .ok (.slice (some ⟨b,j,none⟩) (k+1) (k+1)) W:=fun W=>by
   have e:prog.arrayLen 276=65:=zk
   rw [run_sliceAt_array_l W 276 ⟨b,0,none⟩ zk .i64 (j:Int) zj (by rw [e];omega),e]
   have hj65:¬65=j:=zj
   simp [go_sem,slicedAt,hj65,lkn,Addr.add]
   omega
  clear A hx
  go_wp2
  go_ret2
  exact ⟨k+1,⟨zj,zj,HN.o.2.2⟩,rfl,HN.o.2.1⟩
end
section
open Go.RowKit Go.Lib Go.Sort
def DeB (w:World):Prop:=w.cell? ⟨14,15,none⟩=some (.int .u8 4)
theorem DeB.later {w w':World} (h:DeB w) (hb:Below w.heap.size w w'):DeB w':=by
 unfold DeB at*
 rw [vI (a:=⟨14,15,none⟩) (hb.block _ (vp w ⟨14,15,none⟩ h))]
 exact h
theorem ifmt_any (v:Nat) (w:World) (hv:v<4294967296) (hz:DeB w):
  Calls prog 237 #[.int .u64 (v:Int),.int .i64 16] w fun e w'=>∃k,(1<=k/\k<=8/\v<16^k)/\e= .returned (.string ⟨(digs k v).toArray⟩)/\Below w.heap.size w w':=by
 have h:=fmt16 v w hv hz
 clear hz
 go_enter func237,ntmps237
 go_wp2_with fail
 refine h.mono ?_
 clear h
 rintro e w1 ⟨k,hk,rfl,hb⟩
 have H:Aside ((1<=k/\k<=8/\v<16^k)/\Below w.heap.size w w1):=⟨hk,hb⟩
 clear hk hb
 go_wp2
 go_ret
 exact ⟨k,H.o.1,rfl,H.o.2⟩
theorem sfmt_any (v:Nat) (w:World) (hv:v<4294967296) (hz:DeB w):
  Calls prog 193 #[.int .u64 (v:Int),.int .i64 16] w fun e w'=>∃k,(1<=k/\k<=8/\v<16^k)/\e= .returned (.string ⟨(digs k v).toArray⟩)/\Below w.heap.size w w':=by
 have h:=ifmt_any v w hv hz
 clear hz
 go_enter func193,ntmps193
 go_wp2_with fail
 refine h.mono ?_
 clear h
 rintro e w1 ⟨k,hk,rfl,hb⟩
 have H:Aside ((1<=k/\k<=8/\v<16^k)/\Below w.heap.size w w1):=⟨hk,hb⟩
 clear hk hb
 go_wp2
 go_ret
 exact ⟨k,H.o.1,rfl,H.o.2⟩
theorem repeat_zero:∀n,Lib.repeatL [48] n=List.replicate n 48
 | 0=>rfl
 | n+1=>by
  show [48]++Lib.repeatL [48] n=_
  rw [repeat_zero n]
  rfl
theorem sumText_any (s:ByteArray) (w:World) (hs:s.size<=1000000) (hz:DeB w):
  Calls prog 138 #[.string s] w fun e w'=>e= .returned (.string ⟨(digs 8 (crcOf s.data.toList)).toArray⟩)/\Below w.heap.size w w':=by
 have hsum:=sum_any s w hs
 obtain ⟨v,hv⟩:∃v:Nat,Aside (v=crcOf s.data.toList):=⟨_,rfl⟩
 rw [<-hv.o] at hsum |-
 have hv32:v<4294967296:=by rw [hv.o];exact crcOf_lt _
 have hcv:IntKind.u64.wrap (v:Int)=(v:Int):=by rw [IntKind.wrap_u64];omega
 have hf:=sfmt_any v w hv32 hz
 clear hz
 go_enter func138,ntmps138
 go_wp2_with fail
 refine hsum.mono ?_
 clear hsum
 rintro e w1 ⟨rfl,rfl⟩
 go_wp2_with fail
 refine hf.mono ?_
 clear hf
 rintro e w2 ⟨k,hk,rfl,hb⟩
 obtain ⟨D,hD⟩:∃D:ByteArray,Aside (D=⟨(digs k v).toArray⟩):=⟨_,rfl⟩
 rw [<-hD.o]
 have hDs:D.size=k:=jN
 obtain ⟨m,hm⟩:∃m:Nat,m+k=8:=⟨8 - k,zj⟩
 have hw:IntKind.i64.wrap (8 - (D.size:Int))=(m:Int):=by rw [IntKind.wrap_i64,hDs];omega
 have hr:=Tryz.strings_Repeat ⟨#[48]⟩ m w2 zj (by show 1*m<=_;omega)
 obtain ⟨E,hE,hEs,ha⟩:=add_two ⟨(Lib.repeatL [48] m).toArray⟩ D (by rw [hDs,repeat_zero];simp [ByteArray.size];omega)
 have HE:Aside (E=⟨(digs 8 v).toArray⟩):=by
  apply bytes_ext
  rw [hE,hD.o,<-hm,digs_pad m k v hk.2.2,repeat_zero]
 have H:Aside (Below w1.heap.size w1 w2):=hb
 obtain ⟨Z,hZ⟩:∃Z:ByteArray,Aside (Z=⟨(Lib.repeatL [48] m).toArray⟩):=⟨_,rfl⟩
 have hr2:Calls prog 195 #[.string ⟨#[48]⟩,.int .i64 (m:Int)] w2 fun e w'=>e= .returned (.string Z)/\Below w2.heap.size w2 w':=by rw [hZ.o];exact hr
 rw [<-hZ.o] at ha
 clear hE hEs hk hDs hb hr
 go_wp2_with fail
 refine hr2.mono ?_
 clear hr2
 rintro e w3 ⟨rfl,hb3⟩
 have H3:Aside (Below w1.heap.size w1 w3):=zi H.o hb3
 clear hb3
 go_wp2
 go_ret
 exact ⟨by rw [HE.o];rfl,H3.o⟩
theorem record_any (s:ByteArray) (w:World) (hs:s.size<=1000000) (hz:DeB w):
  Calls prog 95 #[.string s] w fun e w'=>∃r:ByteArray,r.data.toList=recL s.data.toList/\e= .returned (.string r)/\Below w.heap.size w w':=by
 have hst:=sumText_any s w hs hz
 obtain ⟨D,hD⟩:∃D:ByteArray,Aside (D=⟨(digs 8 (crcOf s.data.toList)).toArray⟩):=⟨_,rfl⟩
 rw [<-hD.o] at hst
 have hDs:D.size=8:=jN
 obtain ⟨E1,h1,h1s,a1⟩:=add_two s ⟨#[35]⟩ (by show s.size+1<=_;omega)
 have hE1s:E1.size=s.size+1:=h1s
 obtain ⟨E2,h2,h2s,a2⟩:=add_two E1 D zj
 obtain ⟨E3,h3,h3s,a3⟩:=add_two E2 ⟨#[10]⟩ (by show E2.size+1<=_;omega)
 have HE:Aside (E3.data.toList=recL s.data.toList):=by
  show _=_
  rw [h3,h2,h1,hD.o]
  unfold recL
  simp
 clear h1 h2 h3 h1s h2s h3s hE1s hDs hz
 go_enter func95,ntmps95
 go_wp2_with fail
 refine hst.mono ?_
 clear hst
 rintro e w1 ⟨rfl,hb⟩
 have H:Aside (Below w.heap.size w w1):=hb
 clear hb
 go_wp2
 go_ret
 exact ⟨E3,HE.o,rfl,H.o⟩
end
section
open Go.RowKit Go.Shelf Go.Maps
open scoped Classical
attribute [local go_sem] Oper.semAt_some
def AllT (f:TSta) (ks:List Int):Prop:=ks.Nodup/\∀k,k∈ks↔(f k).isSome=true
def CollT (D:DataW Unit) (f:TSta) (left:Lit->Bool) (ks:List Int):Prop:=
 ks.Nodup/\(∀k∈ks,(f k).isSome=true/\left (.int .i64 k)=false)/\∀k,Wf k->has D (.int .i64 k)=true->left (.int .i64 k)=false->k∈ks
theorem collT_start (D:DataW Unit) (f:TSta):CollT D f (has D) []:=⟨Zj,fun p hp=>by simp at hp,fun k _ h1 h2=>by rw [h1] at h2;cases h2⟩
theorem CollT.step {left:Lit->Bool} (h:CollT D f left ks) {x:Int} (hl:left (.int .i64 x)=true) (hf:(f x).isSome=true):CollT D f (fun z=>left z && !z.sameKey (.int .i64 x)) (ks++ [x]):=by
 obtain ⟨h1,h2,h3⟩:=h
 refine ⟨?_,fun p hp=> ?_,fun k hw hh hlk=> ?_⟩
 ·rw [uf]
  refine ⟨h1,zm,fun a ha b hb=> ?_⟩
  simp only [vA] at hb
  subst hb
  intro e
  subst e
  have:=(h2 _ ha).2
  rw [hl] at this
  cases this
 ·rcases vv.1 hp with hp | hp
  ·have:=h2 p hp
   exact ⟨this.1,by show (left (.int .i64 p) &&_)=false;rw [this.2];rfl⟩
  simp only [vA] at hp
  subst hp
  refine ⟨hf,?_⟩
  show (left (.int .i64 p) && !Lit.sameKey (.int .i64 p) (.int .i64 p))=false
  rw [same_int]
  simp
 have hlk:(left (.int .i64 k) && !Lit.sameKey (.int .i64 k) (.int .i64 x))=false:=hlk
 rw [same_int] at hlk
 by_cases e:k=x
 ·subst e
  simp
 refine vN _ (h3 k hw hh ?_)
 simpa [e] using hlk
theorem CollT.all {left:Lit->Bool} (h:CollT D f left ks) (hr:ReadsT D f) (G:GoodT f) (hl:∀kl,left kl=false):AllT f ks:=by
 refine ⟨h.1,fun p=>⟨fun hp=>(h.2.1 p hp).1,fun hp=> ?_⟩⟩
 obtain ⟨q,hq⟩:=Zf.1 hp
 have hw:=G p q hq
 exact h.2.2 p hw (by rw [hr.has hw,hp]) (hl _)
theorem keys1_in (F:Fence) (n:Nat) (h8:F.fn 71) (hro:F.round=none) (hn:1<=n) (l Bm b nn:Nat) (D0:DataW Unit) (f:TSta) (hr:ReadsT D0 f) (G:GoodT f) (J Jx:List Int->World->Prop)
  (hY:∀pre x W,J pre W->pre.length<nn->YieldAt F (n - 1) prog l #[.int .i64 x] W fun e W'=>
   (e= .returned (.bool true)/\J (pre++ [x]) W'/\KeepsWalks W W')\/(e= .returned (.bool false)/\Jx (pre++ [x]) W'))
  (W:World) (hJ:AbidesFrom W.heap.size J) (hm:W.cell? ⟨Bm,0,none⟩=some (.map (some b))) (hown:W.ownsMap prog 3 ptrR b nn D0) (h0:J [] W):
  CallsIn F n prog 71 #[.func (.yield l) #[] #[],.pointer (some ⟨Bm,0,none⟩)] W fun e W'=>(∃v,e= .returned v)/\
   ((∃xs,AllT f xs/\J xs W')\/(∃pre,True/\Jx pre W')):=by
 refine callsIn_of_wp func71 rfl h8 ?_ hro
 simp only [ntmps71,vY,vH,vT,Nat.reduceAdd,Nat.reduceSub,ul,um,uy,uo,uA,ux]
 have hsn:=hown.size_le
 gi_wp2_with (first
  | (gi_at_range;refine wpListIn_range_own _ rfl _ 76 rfl 3 103 (int_keyed underlying3) underlying76 _ b nn _ rfl hown ?_;intro w0 hrg0 hg0 hs0)
  | gi_in)
 go_frame
 gi_loopw [3] (fun _ wr=>∃(left:Lit->Bool) (cnt:Nat) (ps:List Int),wr.ranges prog 3 ptrR b W.heap.size nn D0 left cnt/\ps.length+cnt<=nn/\CollT D0 f left ps/\J ps wr)
  (fun _ wr=>wr.rangeLeft b W.heap.size)
 case atStart=>
  exact ⟨_,_,[],hrg0,by simpa using hsn,collT_start D0 f,hJ [] W w0 none h0 hg0 (fun r e=>qC)⟩
 case round=>
  obtain ⟨left,cnt,ps,hrg,hcs,hC,hJs⟩:=hrel
  gi_wp2_with (first
   | (gi_at_next;refine wpListIn_next_ranges _ rfl _ rfl 3 (int_keyed underlying3) ptrR (Value.int .i64) encT_ (fun key kl hk=>qy) (fun v y hv=>by obtain ⟨c,rfl,_⟩:=ptrR_inv hv;exact ⟨c,rfl⟩) b W.heap.size nn _ _ _ rfl hrg ?_ ?_)
   | gi_in)
  ·intro hc0 hl0
   gi_wp2
   go_end0
   exact ⟨⟨_,rfl⟩,.inl ⟨ps,hC.all hr G hl0,hJs⟩⟩
  intro x c1 kl yd yp w2 cnt2 hkey hlk hv hat hrg2 hlt hg2 hs2 hen
  obtain ⟨x',ex,rfl,hwx⟩:=Maps.keyOf_int_inv underlying3 hkey
  obtain rfl:x=x':=by simpa using ex
  have hfx:(f x).isSome=true:=by rw [<-hr.has hwx];exact has_true_of_atKey hat
  have hJ2:J ps w2:=hJ ps wr w2 (some W.heap.size) hJs hg2 (fun r e=>jo)
  obtain ⟨fn,tmps,assign,body,hy,hR⟩:=hY ps x _ hJ2 zj
  have hC2:=hC.step hlk hfx
  have H3:Aside (RoundIn F (n - 1) prog l fn tmps assign body _ _):=hR
  clear hs2 hR hJ2
  gi_wp2
  refine RoundIn.mono H3.o ?_
  rintro e W3 (⟨rfl,hJ4,hk4⟩ | ⟨rfl,hJx4⟩)
  ·gi_wp2
   have hrg4:=hrg2.of_walks hk4
   go_roundw
   case rel=>exact ⟨_,cnt2,ps++ [x],hrg4,zl,hC2,hJ4⟩
   case measure=>rw [hrg4.left_eq,hrg.left_eq];exact hlt
  gi_wp2
  refine bodyPost_ret (results_none rfl _ _ _) rfl ?_
  exact ⟨⟨_,rfl⟩,.inr ⟨ps++ [x],trivial,hJx4⟩⟩
theorem keysT_in (F:Fence) (n:Nat) (hf:F.fn 43) (hro:F.round=none) (mb:Option Nat) (w:World):
  CallsIn F n prog 43 #[.map mb] w fun e w'=>e= .returned (.func (.func 71) #[] #[.pointer (some ⟨w.heap.size,0,none⟩)])/\w'=w.alloc (.cells #[.map mb] 76):=by
 refine callsIn_of_wp func43 rfl hf ?_ hro
 simp only [ntmps43,vY,vH,vT,Nat.reduceAdd,Nat.reduceSub,ul,um,uy,uo,uA,ux]
 gi_wp2
 go_ret
 exact ⟨rfl,rfl⟩
theorem keys_stops (F:Fence) (n:Nat) (h8:F.fn 71) (hro:F.round=none) (hn:1<=n) (Bm b nn:Nat) (f:TSta) (w:World) (hBm:Bm<w.heap.size) (hm:w.cell? ⟨Bm,0,none⟩=some (.map (some b))) (hM:TMapAt w b nn f):
  SeqStopsK F n prog 71 #[.pointer (some ⟨Bm,0,none⟩)] (fun x:Int=> #[.int .i64 x]) KeepsWalks (fun xs=>AllT f xs) (fun _=>True) nn w:=fun l J Jx W hW hJ _ hY h0=>by
 have hbl:=hM.lt
 obtain ⟨⟨D,hown,hr⟩,G⟩:=hM.same (hW.block b hbl)
 exact keys1_in F n h8 hro hn l Bm b nn D f hr G J Jx hY W hJ ((hW.cell (p:=⟨Bm,0,none⟩) hBm).trans hm) hown h0
theorem infoI:(prog.info? 3).map (fun i=>(i.zero,i.size,i.bytes))=some (some (.int .i64 0),1,8):=zk
theorem lit_int (w:World) (x:Int) (j:Nat) (u:Value) (hj:([Value.int .i64 x]:List Value)[j]? =some u):(w.alloc (.cells #[.int .i64 x] 3)).cell? ((⟨w.heap.size,0,none⟩:Addr).add j)=some u:=by
 rw [Addr.add_lit,vO]
 have h:=heap_alloc_new w (.cells #[.int .i64 x] 3)
 simp only [World.cell?,h]
 rw [<-hj]
 simp
theorem one_int (x:Int):∀u∈([Value.int .i64 x]:List Value),u.oneCell'=true:=qI
def intsV (ks:List Int):List Value:=ks.map fun k=>.int .i64 k
theorem appendInts_any (w:World) (Bm b nn:Nat) (f:TSta) (hBm:Bm<w.heap.size) (hm:w.cell? ⟨Bm,0,none⟩=some (.map (some b))) (hM:TMapAt w b nn f) (hnn:nn<=2000000):
  Calls prog 111 #[.slice none 0 0,.func (.func 71) #[] #[.pointer (some ⟨Bm,0,none⟩)]] w fun e w'=>∃v ps,e= .returned v/\AllT f ps/\ps.length<=nn/\w'.ownsRow w.heap.size 3 1 v ps.length (intsV ps)/\Below w.heap.size w w':=by
 obtain ⟨i0,hi,hz0,hz1,hz2⟩:=info_parts infoI
 refine (callsIn_wide (n:=4)).1 ?_
 refine callsIn_of_wp_marks func111 rfl trivial ?_ rfl
 simp only [ntmps111,vY,vH,vT,Nat.reduceAdd,Nat.reduceSub,ul,um,uy,uo,uA,ux]
 gi_wp2
 obtain ⟨w1,hw1⟩:=za (w.alloc (.cells #[.slice none 0 0] 30))
 rw [<-hw1]
 have hB0:Below w.heap.size w w1:=yV
 have hs1:w1.heap.size=w.heap.size+1:=xI
 obtain ⟨B,hB⟩:=za w.heap.size
 have e1:Boxed w1 B 30 (.slice none 0 0):=qD
 rw [<-hB] at hB0 hs1 hBm |-
 have HB:Aside (B=w.heap.size):=hB
 have hBw:B<=w.heap.size:=zj
 clear hB
 have hm1:=(hB0.cell (p:=⟨Bm,0,none⟩) hBm).trans hm
 have hM1:=hM.same (hB0.block b (by have:=HB.o;have:=hM.lt;omega))
 clear hw1 hm hM
 refine wpIn_rangeFunc_ownH rfl zj (gf:=71) (lb:= #[.pointer (some ⟨Bm,0,none⟩)]) rfl trivial (enters_of func71 zk rfl)
  (keys_stops Fence.wide (4 - 1) trivial rfl zj Bm b nn f w1 zj hm1 hM1) walksK_t (walksK_b (w:=w1)) (vu _ _) (fun _=>rfl)
  (fun pre W=>((∃v,Boxed W B 30 v/\W.ownsRow B 3 1 v pre.length (intsV pre)/\pre.length<=nn))/\(w1.heap.size<=W.heap.size/\Below B w W))
  (fun _ _ _=>False)
  (OwnFrom.and (Own.from (holdsRow_own B B 30 3 1 (fun pre=>pre.length) (fun pre=>intsV pre) (fun pre _=>pre.length<=nn)) _) (OwnFrom.and (fun _ X Y row hs hg _=>vr hs hg.size) (ownFrom_below zj zj)))
  (fun _ _ _ _ _ hs _ _=>hs)
  ⟨⟨_,e1,ud w1 B _ _,vD _⟩,vm _,hB0⟩
  (fun x a' W=>a'= {tmps:= #[.slice none 0 0,.func (.func 71) #[] #[.pointer (some ⟨Bm,0,none⟩)],.pointer (some ⟨B,0,none⟩),undef,.slice none 0 0,.int .i64 x,.func (.func 71) #[] #[.pointer (some ⟨Bm,0,none⟩)],.int .i64 x,undef,undef,undef,undef,undef],defers:=[]})
  (fun x a'=>Own.from (fun _ X Y row hs hg hr=>hs) _)
  ?assign ?body ?done ?stop
 case assign=>
  rintro l pre x W K ⟨⟨v,hv,hrow,hpl⟩,hsz,hBW⟩ hK
  have hK':Aside _:=hK
  have hBs:B<=W.heap.size:=zj
  clear hK
  gi_wp2
  refine hK'.o _ _ ((KeepsOthers.refl _).from _) (KeepsOthers.refl _).walks ⟨⟨v,hv,hrow,hpl⟩,hsz,hBW⟩ rfl
 case body=>
  rintro l pre x a' W hl _ ⟨⟨v,hv,hrow,hpl⟩,hsz,hBW⟩ rfl hlt
  have g1:=hv.cell
  have hBs:B<=W.heap.size:=zj
  gi_wp2_with (gi_at_builtin;refine wpListIn_append_own _ rfl _ _ 30 rfl B 3 i0 _ 1 8 underlying30 hi hz0 hz1 hz2 rfl zj _ _ _ rfl (hrow.alloc _) ⟨W.heap.size,0,none⟩ 1 1 [.int .i64 x] rfl rfl (lit_int W x) (one_int x) zw zj zl ?_;intro v' w2 hown' hgrow _;obtain ⟨g',cap',rfl⟩:=ownsRow_succ hown';obtain ⟨hv1,hv2,hr2,hk2,hb2⟩:=hv.appended zt hrow hBs zg hown' hgrow;have hc1:=hv1.cell;have hf1:=hv1.frozen)
  exact ⟨hk2.from _,hk2.walks,⟨⟨_,hv2,by rw [vw,uC];unfold intsV at*;rw [uq];simpa using hr2,zl⟩,jS,hBW.trans hb2⟩⟩
 case done=>
  rintro D ys W hD hall ⟨⟨v,hv,hrow,hpl⟩,hsz,hBW⟩ hK
  have g1:=hv.cell
  gi_wp2
  refine ⟨zm,.inl ⟨_,_,rfl,run_takeDeferred hK,?_⟩⟩
  refine ⟨v,by simp [results,f111,go_sem],v,ys,rfl,hall,hpl,?_,?_⟩
  ·rw [<-HB.o]
   exact ownsRow_putObj hrow _ hK rfl
  rw [<-HB.o]
  exact hBW.trans (belowK_b (w:=w) zj W D _ _ yb hK rfl rfl)
 case stop=>
  rintro D c pre W _ _ h _
  exact h.elim
theorem collectInts_any (w:World) (Bm b nn:Nat) (f:TSta) (hBm:Bm<w.heap.size) (hm:w.cell? ⟨Bm,0,none⟩=some (.map (some b))) (hM:TMapAt w b nn f) (hnn:nn<=2000000):
  Calls prog 69 #[.func (.func 71) #[] #[.pointer (some ⟨Bm,0,none⟩)]] w fun e w'=>∃v ps,e= .returned v/\AllT f ps/\ps.length<=nn/\w'.ownsRow w.heap.size 3 1 v ps.length (intsV ps)/\Below w.heap.size w w':=by
 have ha:=appendInts_any w Bm b nn f hBm hm hM hnn
 go_enter func69,ntmps69
 go_wp2_with fail
 refine ha.mono ?_
 clear ha
 rintro e w1 ⟨v,ps,rfl,h⟩
 have HH:Aside _:=h
 clear h
 go_wp2
 go_ret
 exact ⟨v,ps,rfl,HH.o⟩
theorem rise_sorted (hn:ks.Nodup):(ks.mergeSort fun x y=>decide (x<=y)).Pairwise (· < ·):=by
 have h1:=List.pairwise_mergeSort (le:=fun x y:Int=>decide (x<=y)) (fun a b c h1 h2=>by simp only [decide_eq_true_eq] at*;omega) (fun a b=>by simp only [Bool.or_eq_true,decide_eq_true_eq];omega) ks
 have h2:(ks.mergeSort fun x y=>decide (x<=y)).Nodup:=(List.mergeSort_perm ks _).nodup_iff.2 hn
 exact (h1.and h2).imp (fun {a b} h=>by have h1:=h.1;have h2:=h.2;simp only [decide_eq_true_eq] at h1;omega)
theorem sortedInts_any (w:World) (Bm b nn:Nat) (f:TSta) (hBm:Bm<w.heap.size) (hm:w.cell? ⟨Bm,0,none⟩=some (.map (some b))) (hM:TMapAt w b nn f) (hnn:nn<=100000):
  Calls prog 42 #[.func (.func 71) #[] #[.pointer (some ⟨Bm,0,none⟩)]] w fun e w'=>∃v ks,e= .returned v/\ks.Pairwise (· < ·)/\(∀k,k∈ks↔(f k).isSome=true)/\ks.length<=nn/\w'.ownsRow w.heap.size 3 1 v ks.length (intsV ks)/\Below w.heap.size w w':=by
 have hc:=collectInts_any w Bm b nn f hBm hm hM zj
 go_enter func42,ntmps42
 go_wp2_with fail
 refine hc.mono ?_
 clear hc
 rintro e w1 ⟨v,ps,rfl,hall,hpl,hown,hb⟩
 rcases hown.2 with ⟨rfl,h0⟩ | ⟨g,cap,cur,rfl,hbg,hgb,r1,r2,r3,r4⟩
 ·have hps:ps= []:=vM.1 h0
  subst hps
  have HH:Aside ((∀k,k∈([]:List Int)↔(f k).isSome=true)/\Below w.heap.size w w1):=⟨hall.2,hb⟩
  have hs:=Tryz.slices_Sort_int_none none 0 w1
  clear hall hown hb h0
  go_wp2_with fail
  refine hs.mono ?_
  clear hs
  rintro e w' ⟨rfl,rfl⟩
  go_wp2
  go_ret
  exact ⟨_,[],rfl,List.Pairwise.nil,HH.o.1,vD _,ud _ _ _ _,HH.o.2⟩
 have hH:Sort.Holds (Value.int .i64) w1 g 0 ps.toArray:=holds_of_blockI hgb (by simpa [intsV] using r4)
 have hgl:g<w1.heap.size:=(vn.1 hgb).1
 have hs:=Tryz.slices_Sort_int g 0 cap ps w1 hH hgl zj
 have hlen:(ps.mergeSort fun x y=>decide (x<=y)).length=ps.length:=List.length_mergeSort _
 have H1:Aside (∀n os,(Sort.grow (Sort.putRow (Value.int .i64) (Sort.ahead w1 n) g 0 (ps.mergeSort fun x y=>decide (x<=y)).toArray) os).ownsRow w.heap.size 3 1 (.slice (some ⟨g,0,none⟩) ps.length cap) ps.length (intsV (ps.mergeSort fun x y=>decide (x<=y)))/\Below w.heap.size w (Sort.grow (Sort.putRow (Value.int .i64) (Sort.ahead w1 n) g 0 (ps.mergeSort fun x y=>decide (x<=y)).toArray) os)):=fun n os=>
  ⟨ownsRow_sortedI hlen hbg hgb r1 r2 r3,hb.grown (grownBy_sortedI _) hb.size (fun j hj=>by cases hj;exact hbg)⟩
 have HH:Aside (AllT f ps/\ps.length<=nn):=⟨hall,hpl⟩
 have HL:Aside ((ps.mergeSort fun x y=>decide (x<=y)).length=ps.length):=hlen
 clear hall hown hb hpl hbg hgl hgb r1 r2 r3 r4 hH hlen
 go_wp2_with fail
 refine hs.mono ?_
 clear hs
 rintro e w2 ⟨rfl,n,os,rfl⟩
 have H2:=H1.o n os
 generalize Sort.grow (Sort.putRow (Value.int .i64) (Sort.ahead w1 n) g 0 (ps.mergeSort fun x y=>decide (x<=y)).toArray) os=w2 at H2 |-
 have H3:Aside _:=H2
 clear H1 H2
 go_wp2
 go_ret
 exact ⟨_,ps.mergeSort fun x y=>decide (x<=y),rfl,rise_sorted HH.o.1.1,fun k=>((List.mergeSort_perm ps _).mem_iff).trans (HH.o.1.2 k),by rw [HL.o];exact HH.o.2,by rw [HL.o];exact H3.o.1,H3.o.2⟩
