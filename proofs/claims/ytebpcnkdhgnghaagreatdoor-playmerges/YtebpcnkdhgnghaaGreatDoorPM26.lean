import Derived.Test.YtebpcnkdhgnghaaGreatDoorPM22
import Derived.Test.YtebpcnkdhgnghaaGreatDoorPM23
import Derived.Test.YtebpcnkdhgnghaaGreatDoorPM24
set_option linter.unusedSimpArgs false
set_option linter.unusedVariables false
set_option maxRecDepth 100000
set_option maxHeartbeats 64000000
namespace Go.Proofs.YtebpcnkdhgnghaaGreatDoor
open Go.Proofs.Tryz
variable {st st':DSt} {L:List (bU×aG)} {cs:List Value} {B base d:Nat} {ad:Nat→Addr} {sp:Nat→Bool} {v:Value} {W W' w w':World}
section
open Go Go.RowKit Go.Lib Go.Sort
def ND (x:OpX):Value:=.agg #[.int .i64 x.1,.int .i64 x.2.1,.int .i64 x.2.2.1,.int .u8 (x.2.2.2.1:Int),.int .i64 x.2.2.2.2.1,.int .i64 x.2.2.2.2.2.1,.string x.2.2.2.2.2.2.1,.string x.2.2.2.2.2.2.2]
structure FactJ (ad:Nat->Addr) (w:World):Prop where
 txt:TxtE ad w
 errd:Of ad w
 deb:DeB w
 et:w.cell? ⟨3,0,none⟩=some (.iface 450 (.pointer (some (ad 0))))
 mx:∃m:Int,w.cell? ⟨14,0,none⟩=some (.int .i64 m)
structure EnvJ (B:Nat) (ad:Nat->Addr) (w:World):Prop where
 size:B<=w.heap.size
 all:∀w',Below B w w'->FactJ ad w'
theorem EnvJ.mono (h:EnvJ B ad w) (hb:Below B w w'):EnvJ B ad w':=⟨vI h.size hb.size,fun w'' h'=>h.all w'' (hb.trans h')⟩
theorem EnvJ.later (h:EnvJ B ad w) (hb:Below w.heap.size w w'):EnvJ B ad w':=h.mono (hb.mono h.size)
theorem EnvJ.here (h:EnvJ B ad w):FactJ ad w:=h.all w (vG _ _)
theorem EnvJ.up {B':Nat} (h:EnvJ B ad w) (hB:B<=B') (hs:B'<=w.heap.size):EnvJ B' ad w:=⟨hs,fun w' h'=>h.all w' (h'.mono hB)⟩
def dI:DSt->List UInt8->Bool×DSt
 | st,[]=>(true,st)
 | st,c::l=>if (wr1 st c).1=true then dI (wr1 st c).2 l else (false,(wr1 st c).2)
def fG (st:DSt) (x:OpX):Nat×DSt:=if mq x≠0 then (mq x,st) else if 65536<st.1.length+(dP (ac x)).length then (8,st) else if (dI st (dP (ac x))).1=true then (0,(dI st (dP (ac x))).2) else (11,(dI st (dP (ac x))).2)
theorem Kf (st:DSt) (c:UInt8):(wr1 st c).2.1.length<=st.1.length+1:=by
 unfold wr1
 split
 ·simp
 split
 ·simp
 simp
theorem WroteD.start (h:DiskAt w d v st):WroteD d v w st w:=⟨v,h,Keeps.refl _ _,fun g hg=>.inl hg⟩
theorem WroteD.later {d:Nat} {v:Value} {w W W':World} {st:DSt} (h:WroteD d v w st W) (hb:Below W.heap.size W W'):WroteD d v w st W':=by
 obtain ⟨v',h1,h2,h3⟩:=h
 exact ⟨v',h1.later hb,h2.then (aX hb) (fun i hi q=>by have:=h2.size;omega),h3⟩
theorem WroteD.from (hb:Below w.heap.size w W) (hd:DiskAt w d v st) (h:WroteD d v W st' W'):WroteD d v w st' W':=by
 obtain ⟨v',h1,h2,h3⟩:=h
 refine ⟨v',h1,?_,fun g hg=>(h3 g hg).imp id (fun q=>vI hb.size q)⟩
 exact ((aX hb).mono (fun k hk q=>zj)).then h2 (fun i _ q=>q)
theorem WroteD.next (h:WroteD d v w st W) (k:∀v',DiskAt W d v' st->WroteD d v' W st' W'):WroteD d v w st' W':=by
 obtain ⟨v',h1,h2,h3⟩:=h
 obtain ⟨v2,k1,k2,k3⟩:=k v' h1
 refine ⟨v2,k1,h2.then k2 (fun i hi q=> ?_),fun g hg=> ?_⟩
 ·rcases q with rfl | q
  ·exact .inl rfl
  rcases h3 i q with e | e
  ·exact .inr e
  omega
 rcases k3 g hg with e | e
 ·exact h3 g e
 exact .inr (vI h2.size e)
theorem WroteD.below {d:Nat} {v:Value} {w W:World} {st:DSt} {B:Nat} (h:WroteD d v w st W) (hB:B<=w.heap.size) (hO:∀k,pL d v k->B<=k):Below B w W:=by
 obtain ⟨v',h1,h2,h3⟩:=h
 exact h2.below hB hO
theorem WroteD.own (h:WroteD d v w st W) (hB:B<=w.heap.size) (hO:∀k,pL d v k->B<=k):∃v',DiskAt W d v' st/\(∀k,pL d v' k->B<=k)/\Keeps (pL d v) w W:=by
 obtain ⟨v',h1,h2,h3⟩:=h
 refine ⟨v',h1,fun k hk=> ?_,h2⟩
 rcases hk with rfl | hk
 ·exact hO k (.inl rfl)
 rcases h3 k hk with e | e
 ·exact hO k (.inr e)
 omega
theorem CP (w:World) (x:OpX) (hD:DiskAt w d v st) (hE:EnvJ B ad w) (hO:∀k,pL d v k->B<=k) (hs1:x.2.2.2.2.2.2.1.size<=1000000) (hs2:x.2.2.2.2.2.2.2.size<=1000000) (hB:st.1.length<=65536):
  Calls prog 161 #[.pointer (some ⟨d,0,none⟩),ND x] w fun e w'=>e= .returned (eV ad (fG st x).1)/\Aside (WroteD d v w (fG st x).2 w'):=by
 obtain ⟨t,b,n,kd,nd,o,s,vl⟩:=x
 dsimp only at hs1 hs2
 obtain ⟨x,hx⟩:∃x:OpX,Aside (x=(t,b,n,kd,nd,o,s,vl)):=⟨_,rfl⟩
 have ex:(t,b,n,kd,nd,o,s,vl)=x:=hx.o.symm
 obtain ⟨U,hU⟩:=ze (w.alloc (.cells #[.int .i64 t,.int .i64 b,.int .i64 n,.int .u8 (kd:Int),.int .i64 nd,.int .i64 o,.string s,.string vl] 61))
 have hbU:Below w.heap.size w U:=yq
 have HD:Aside (DiskAt w d v st/\DiskAt U d v st/\EnvJ B ad w/\EnvJ B ad U/\(∀k,pL d v k->B<=k)/\Below w.heap.size w U):=⟨hD,hD.later hbU,hE,hE.later hbU,hO,hbU⟩
 clear hD hE hO hbU
 by_cases herr:mq x=0
 case neg=>
  have htx:=Dw t b n kd nd o s vl U HD.o.2.2.2.1.here.txt hs1 hs2 (by rw [hx.o] at herr;exact herr)
  have HA:Aside (fG st x=(mq x,st)/\eV ad (mq x)= .iface 450 (.pointer (some (ad (mq x - 1))))):=⟨by unfold fG;rw [if_pos herr],if_neg herr⟩
  have e0:opE t b n kd nd o s.data.toList vl.data.toList=mq x:=by rw [hx.o];rfl
  rw [e0] at htx
  obtain ⟨ea,hea⟩:=ze (ad (mq x - 1))
  rw [<-hea.o] at htx HA
  rw [ex]
  rw [HA.o.1]
  dsimp only
  rw [HA.o.2,hx.o]
  unfold ND
  dsimp only
  clear e0 ex herr
  go_enter func161,ntmps161
  go_wp2_with fail
  rw [<-hU.o]
  refine htx.mono ?_
  clear htx
  rintro e w1 ⟨rfl,hb1⟩
  have HW:Aside (WroteD d v w st w1):=((WroteD.start HD.o.2.1).later hb1).from HD.o.2.2.2.2.2 HD.o.1
  clear hb1
  go_wp2
  go_ret
  exact ⟨rfl,HW.o⟩
 have htx:=Fk t b n kd nd o s vl U HD.o.2.2.2.1.here.txt (by rw [hx.o] at herr;exact herr)
 have e0:kY t b n kd nd o s.data.toList vl.data.toList=ac x:=by rw [hx.o];rfl
 rw [e0] at htx
 obtain ⟨tx,htx2⟩:∃tx:ByteArray,Aside (tx=⟨(ac x).toArray⟩):=⟨_,rfl⟩
 rw [<-htx2.o] at htx
 have htl:tx.data.toList=ac x:=by rw [htx2.o]
 have hts:tx.size<=1000:=by
  have:=fB herr
  rw [<-htl] at this
  exact kp3
 obtain ⟨g,cap,hvs⟩:=HD.o.1.row.shape
 have HX:Aside (mq x=0):=herr
 rw [ex]
 obtain ⟨cd,sx,hcs⟩:∃cd sx,Aside (fG st x=(cd,sx)):=⟨(fG st x).1,(fG st x).2,rfl⟩
 rw [hcs.o]
 unfold ND
 rw [hx.o]
 dsimp only
 clear e0 ex herr
 go_enter func161,ntmps161
 go_wp2_with fail
 rw [<-hU.o]
 refine htx.mono ?_
 clear htx
 rintro e w1 ⟨rfl,hb1⟩
 have hD1:=HD.o.2.1.later hb1
 have hE1:=HD.o.2.2.2.1.later hb1
 have hrc:=Ck tx w1 zj hE1.here.deb
 go_wp2_with fail
 refine hrc.mono ?_
 clear hrc
 rintro e w2 ⟨r,hr,rfl,hb2⟩
 have hD2:=hD1.later hb2
 have hbw:Below w.heap.size w w2:=HD.o.2.2.2.2.2.trans ((zi hb1 hb2).mono HD.o.2.2.2.2.2.size)
 rw [htl] at hr
 have H2:Aside (DiskAt w2 d v st/\EnvJ B ad w2/\Below w.heap.size w w2/\r.data.toList=dP (ac x)):=⟨hD2,hE1.later hb2,hbw,hr⟩
 have hrs:r.size=(dP (ac x)).length:=by rw [<-hr];simp
 have hr1:r.size<=1010:=by
  rw [hrs,dU]
  have:=fB HX.o
  omega
 obtain ⟨c0,c1,c2,c3,cf⟩:=hD2.c
 rw [hvs] at c0
 have e7:=(hE1.later hb2).here.errd.c7
 have HRS:Aside (r.size=(dP (ac x)).length):=hrs
 clear hb1 hb2 hD1 hD2 hE1 hbw hr c1 c2 c3 cf hrs htl hvs
 obtain ⟨tot,htot⟩:∃tot:Nat,Aside (tot=st.1.length+r.size):=⟨_,rfl⟩
 have hwr:IntKind.i64.wrap ((st.1.length:Int)+(r.size:Int))=(tot:Int):=by rw [IntKind.wrap_i64,htot.o];omega
 by_cases hfull:65536<st.1.length+r.size
 ·have d1:decide ((65536:Int)<(tot:Int))=true:=by have:=htot.o;simp;omega
  have d1n:decide (65536<tot)=true:=jj
  have HA:Aside (eV ad cd= .iface 450 (.pointer (some (ad 7)))/\WroteD d v w sx w2):=by
   have ha:fG st x=(8,st):=by
    unfold fG
    rw [if_neg (fun q=>q HX.o),if_pos (by rw [<-HRS.o];exact hfull)]
   rw [hcs.o] at ha
   cases ha
   exact ⟨rfl,(WroteD.start H2.o.1).from H2.o.2.2.1 HD.o.1⟩
  clear hfull
  go_wp2
  go_ret
  exact ⟨by rw [HA.o.1];rfl,HA.o.2⟩
 have d1:decide ((65536:Int)<(tot:Int))=false:=jj
 have d1n:decide (65536<tot)=false:=jj
 have HA:Aside (∀z st',dI st (dP (ac x))=(z,st')->(z=true->cd=0/\sx=st')/\(z=false->cd=11/\sx=st')):=fun z st' hz=>by
  have ha:fG st x=if (dI st (dP (ac x))).1=true then (0,(dI st (dP (ac x))).2) else (11,(dI st (dP (ac x))).2):=by
   unfold fG
   rw [if_neg (fun q=>q HX.o),if_neg (by rw [<-HRS.o];exact hfull)]
  rw [hcs.o,hz] at ha
  refine ⟨fun q=> ?_,fun q=> ?_⟩
  ·subst q;cases ha;exact ⟨rfl,rfl⟩
  subst q;cases ha;exact ⟨rfl,rfl⟩
 go_wp2
 clear c0 e7 d1 d1n hwr
 go_loopg [34] r.size (fun kx s34 W=>∃(k:Nat) (sk:DSt),s34= .int .i64 (k:Int)/\k<=r.size/\r.size - k<=kx/\Aside (WroteD d v w2 sk W/\dI st (dP (ac x))=dI sk ((dP (ac x)).drop k)/\sk.1.length<=st.1.length+k))
 case atStart=>exact ⟨0,st,rfl,vM _,vB _,WroteD.start H2.o.1,rfl,vB _⟩
 case round=>
  obtain ⟨k,sk,rfl,hk,hkx,A⟩:=hrel
  by_cases hlt:k<r.size
  ·have d2:decide ((k:Int)<(r.size:Int))=true:=by simp;omega
   have d2n:decide (k<r.size)=true:=zq
   obtain ⟨vk,hDk,-,-⟩:=A.o.1.own H2.o.2.1.size HD.o.2.2.2.2.1
   obtain ⟨Bk,ofk,wtk,lfk⟩:=sk
   obtain ⟨ch,hch⟩:∃ch:UInt8,Aside (ch=r[k]):=⟨r[k],rfl⟩
   obtain ⟨z,sn,hzn⟩:∃z sn,Aside (wr1 (Bk,ofk,wtk,lfk) ch=(z,sn)):=⟨_,_,rfl⟩
   have hwb:Calls prog 217 #[.pointer (some ⟨d,0,none⟩),.int .u8 (r[k].toNat:Int)] wr fun e w'=>e= .returned (.bool z)/\Aside (WroteD d v w2 sn w'):=by
    obtain ⟨vk,hDk,h2,h3⟩:=A.o.1
    refine (CL wr r[k] hDk (by have:=A.o.2.2;show Bk.length<1000000;dsimp only at this;omega)).mono ?_
    rintro e w' ⟨he,H⟩
    rw [<-hch.o,hzn.o] at he H
    refine ⟨he,WroteD.next ⟨vk,hDk,h2,h3⟩ (fun v'' hv''=> ?_)⟩
    have:v''=vk:=by
     have e1:=hDk.cell
     rw [hv''.cell] at e1
     simpa using e1
    rw [this]
    exact H.o
   have hdr:(dP (ac x)).drop k=ch::(dP (ac x)).drop (k+1):=by
    have:=EW r k hlt
    rw [H2.o.2.2.2] at this
    rw [hch.o]
    exact this
   have HW:Aside (dI st (dP (ac x))=if z=true then dI sn ((dP (ac x)).drop (k+1)) else (false,sn)):=by
    show _=_
    rw [A.o.2.1,hdr,dI,hzn.o]
   have HL:Aside (sn.1.length<=st.1.length+(k+1)):=by
    have:=Kf (Bk,ofk,wtk,lfk) ch
    rw [hzn.o] at this
    have h3:=A.o.2.2
    show sn.1.length<=_
    dsimp only at this h3
    omega
   clear hDk hdr
   go_wp2_with fail
   refine hwb.mono ?_
   clear hwb
   rintro e w3 ⟨rfl,H3⟩
   cases z with
   | true=>
    have HR:Aside (WroteD d v w2 sn w3/\dI st (dP (ac x))=dI sn ((dP (ac x)).drop (k+1))/\sn.1.length<=st.1.length+(k+1)):=⟨H3.o,HW.o,HL.o⟩
    clear A HW HL H3
    go_wp2
    go_roundg (r.size - (k+1))
    case measure=>omega
    case rel=>exact ⟨k+1,sn,zw,zj,vB _,HR.o⟩
   | false=>
    have hc:=(HA.o false sn HW.o).2 rfl
    have e10:=(H2.o.2.1.mono (H3.o.below H2.o.2.1.size HD.o.2.2.2.2.1)).here.errd.c10
    have HF:Aside (eV ad cd= .iface 450 (.pointer (some (ad 10)))/\WroteD d v w sx w3):=by
     refine ⟨by rw [hc.1];rfl,?_⟩
     rw [hc.2]
     exact WroteD.from H2.o.2.2.1 HD.o.1 H3.o
    clear A HW HL H3 hc
    go_wp2
    go_ret
    exact ⟨by rw [HF.o.1];rfl,HF.o.2⟩
  have d2:decide ((k:Int)<(r.size:Int))=false:=zq
  have d2n:decide (k<r.size)=false:=zq
  have HF:Aside (eV ad cd= .nilIface/\WroteD d v w sx wr):=by
   have hd:(dP (ac x)).drop k= []:=by
    rw [List.drop_eq_nil_iff,<-HRS.o]
    omega
   have hw:=A.o.2.1
   rw [hd] at hw
   have hc:=(HA.o true sk hw).1 rfl
   refine ⟨by rw [hc.1];rfl,?_⟩
   rw [hc.2]
   exact WroteD.from H2.o.2.2.1 HD.o.1 A.o.1
  clear A
  go_wp2
  go_ret
  exact ⟨by rw [HF.o.1];rfl,HF.o.2⟩
end
section
open Go Go.RowKit Go.Lib Go.Sort
end
section
open Go Go.RowKit Go.Lib Go.Sort
end
section
open Go Go.RowKit Go.Lib Go.Sort
end
section
open Go Go.RowKit Go.Lib Go.Sort
def Mn (st:DSt):DSt:=(st.1.take (Jl st.1).2,false,false,st.2.2.2)
end
section
open Go
theorem kR:∀(r:List UInt8) (B:List UInt8) (left:Int),dI (B,false,false,left) r=(true,(B++r,false,false,left))
 | [],B,left=>by simp [dI]
 | c::r,B,left=>by
  have h:wr1 (B,false,false,left) c=(true,(B++ [c],false,false,left)):=by unfold wr1;simp
  rw [dI,h,if_pos rfl,kR r]
  simp
theorem FS (c:UInt8) (r:List UInt8) (B:List UInt8) (left:Int):dI (B,true,false,left) (c::r)=(false,(B,true,false,left)):=by
 have h:wr1 (B,true,false,left) c=(false,(B,true,false,left)):=by unfold wr1;simp
 rw [dI,h,if_neg zt]
theorem AF:∀(r:List UInt8) (B:List UInt8) (left:Nat),dI (B,false,true,(left:Int)) r=if r.length<=left then (true,(B++r,false,true,((left - r.length:Nat):Int))) else (false,(B++r.take left,true,false,0))
 | [],B,left=>by simp [dI]
 | c::r,B,0=>by
  have h:wr1 (B,false,true,((0:Nat):Int)) c=(false,(B,true,false,0)):=by unfold wr1;simp
  rw [dI,h,if_neg zt,if_neg zt]
  simp
 | c::r,B,left+1=>by
  have h:wr1 (B,false,true,((left+1:Nat):Int)) c=(true,(B++ [c],false,true,(left:Int))):=by
   unfold wr1
   have:¬((left:Int)+1=0):=zj
   simp [this]
  rw [dI,h,if_pos rfl,AF r (B++ [c]) left]
  by_cases hl:r.length<=left
  ·rw [if_pos hl,if_pos qi]
   simp
  rw [if_neg hl,if_neg qi]
  simp
theorem Ly (t:List UInt8):∃c r,dP t=c::r:=by
 cases h:dP t with
 | nil=>have:=dU t;rw [h] at this;simp at this
 | cons c r=>exact ⟨c,r,rfl⟩
theorem GQ (dn:List OpX) (x:OpX):ij (dn++ [x])=ij dn++dP (ac x):=by
 rw [kG]
 show ij dn++(dP (ac x)++ [])=_
 rw [uQ]
theorem pU {B:List UInt8} {left:Int} {x:OpX} (he:mq x=0) (hl:B.length+(dP (ac x)).length<=65536):fG (B,false,false,left) x=(0,(B++dP (ac x),false,false,left)):=by
 unfold fG
 rw [if_neg (fun q=>q he),if_neg zQ,kR]
 rfl
end
section
open Go.ChangeShapes Go.WideShapes Go.ChangeAt Go.RowKit Go.Joins
def DK:List Int:=[0,1,56,2,57,49,28,3,61,58,42,50,38,29,17,4,62,47,59,36,45,43,51,22,53,39,33,30,24,18,12,5,63,55,48,27,60,41,37,16,46,35,44,21,52,32,23,11,54,26,40,15,34,20,31,10,25,14,19,9,13,8,7,6]
theorem gDeb:prog.globalNamed "math/bits.deBruijn64tab" =some 16:=zo
theorem tDeb:(prog.globals[16]?).map (·.type)=some 421:=zo
theorem Ge:prog.cellsOf 421=64:=zo
theorem KF:prog.cellsOf 5=1:=zo
theorem LD (h:Lib.VarReads prog W "math/bits.deBruijn64tab" (Lib.tabData .u8 DK)):Lib.TabIs prog W "math/bits.deBruijn64tab" .u8 DK:=by
 obtain ⟨g,t,cs,fuel,p,hg,ht,hvar,hd⟩:=h
 obtain rfl:=Option.some.inj (gDeb.symm.trans hg)
 obtain rfl:=Option.some.inj (tDeb.symm.trans ht)
 unfold Lib.TabIs
 rw [hvar,<-Lib.cells_of_tab underlying421 underlying5 KF Ge hd]
theorem MN (h:Lib.VarReads prog W "math/bits.deBruijn64tab" Rows.laid_math_bits_deBruijn64tab):DeB W:=by
 have h':Lib.VarReads prog W "math/bits.deBruijn64tab" (Lib.tabData .u8 DK):=h
 have ht:=LD h'
 unfold Lib.TabIs at ht
 exact (World.var?_cell gDeb ht 15).trans (show _=some (Value.int .u8 4) by kernel_rfl)
theorem FactJ.later {ad:Nat->Addr} {w w':World} (h:FactJ ad w) (hb:Below w.heap.size w w'):FactJ ad w':=by
 obtain ⟨m,hm⟩:=h.mx
 exact ⟨h.txt.later hb,⟨aB hb h.errd.c1,aB hb h.errd.c2,aB hb h.errd.c7,aB hb h.errd.c10⟩,h.deb.later hb,aB hb h.et,m,aB hb hm⟩
theorem LM (h:FactJ ad w):EnvJ w.heap.size ad w:=⟨vB _,fun _ hb=>h.later hb⟩
end
section
open Go Go.RowKit Go.Maps
def kq (L:List (bU×aG)) (x:OpX):List (bU×aG):=if ai x=0/\x.2.2.2.1=115 then rp L (LX x,oG x) else L
def oO (L:List (bU×aG)) (x:OpX):Bool:=if ai x=0/\x.2.2.2.1=115 then ii L (LX x,oG x) else false
theorem Lists.set {f:cA} (h:Lists f L) (x:OpX):Lists (ku f x) (kq L x)/\oO L x=Gz f x:=by
 unfold ku kq oO Gz
 by_cases hx:ai x=0/\x.2.2.2.1=115
 ·simp only [if_pos hx]
  exact ⟨h.lay _,h.laid _⟩
 simp only [if_neg hx]
 exact ⟨h,trivial⟩
theorem Dx (L:List (bU×aG)) (x:OpX):(kq L x).length<=L.length+1:=by
 unfold kq
 split
 ·exact IF _ _
 omega
theorem wz {p:Nat} (h:MksAt base w p v L) (hb:Below w.heap.size w w'):LaidIn base w p v L w':=
 ⟨v,h.later hb,(aX hb).mono (fun i hi e=>zj),fun g hg=>.inl hg⟩
theorem IE (w:World) (base p:Nat) (v:Value) (L:List (bU×aG)) (t b n:Int) (k:Nat) (node other:Int) (name value:ByteArray) (h:MksAt base w p v L) (hbase:base<=w.heap.size) (hL:L.length<=900) (hsn:name.size<=1000000) (hsv:value.size<=1000000):
  Calls prog 81 #[.pointer (some ⟨p,0,none⟩),.agg #[.int .i64 t,.int .i64 b,.int .i64 n,.int .u8 (k:Int),.int .i64 node,.int .i64 other,.string name,.string value]] w fun e w'=>e= .returned (.tuple #[.bool (oO L (t,b,n,k,node,other,name,value)),.int .i64 ((iq (t,b,n,k,node,other,name,value):Nat):Int)])/\LaidIn base w p v (kq L (t,b,n,k,node,other,name,value)) w':=by
 obtain ⟨w1,hw1⟩:=zc (w.alloc (.cells #[.int .i64 t,.int .i64 b,.int .i64 n,.int .u8 (k:Int),.int .i64 node,.int .i64 other,.string name,.string value] 61))
 have O1:OpAt w1 w.heap.size t b n k node other name value:=xL
 have B1:Below w.heap.size w w1:=xq
 have hro:=DJ t b n k node other name value w1 hsn hsv
 obtain ⟨er,her⟩:∃er,Aside (opE t b n k node other name.data.toList value.data.toList=er):=⟨_,rfl⟩
 rw [her.o] at hro
 have H1:Aside (OpAt w1 w.heap.size t b n k node other name value/\Below w.heap.size w w1/\MksAt base w p v L/\base<=w.heap.size):=⟨O1,B1,h,hbase⟩
 obtain ⟨S,hS⟩:∃S,Aside (w.heap.size=S):=⟨_,rfl⟩
 clear O1 B1 h hbase
 by_cases h0:er=0
 ·have d0:((er:Int)==0)=true:=by simp [h0]
  by_cases hk:k=115
  ·have dk:((k:Int) !=115)=false:=by simp;omega
   have e0:=her.o.trans h0
   have hx:ai (t,b,n,k,node,other,name,value)=0/\k=115:=⟨e0,hk⟩
   have e1:oO L (t,b,n,k,node,other,name,value)=ii L ((node,name),(value,(t,b))):=by unfold oO;rw [if_pos hx];rfl
   have e2:iq (t,b,n,k,node,other,name,value)=0:=by unfold iq;rw [if_pos (show ai (t,b,n,k,node,other,name,value)=0 from e0)];exact if_pos hk
   have e3:kq L (t,b,n,k,node,other,name,value)=rp L ((node,name),(value,(t,b))):=by unfold kq;rw [if_pos hx];rfl
   rw [e1,e2,e3]
   have dg:decide (0<er)=false:=xG
   clear e0 e1 e2 e3 hx h0 hk
   go_enter func81,ntmps81
   go_wp2_with fail
   rw [<-hw1,hS.o]
   clear hw1
   refine hro.mono ?_
   clear hro
   rintro e w2 ⟨rfl,hb2⟩
   obtain ⟨c0,c1,c2,c3,c4,c5,c6,c7⟩:=H1.o.1.later hb2
   rw [hS.o] at c0 c1 c2 c3 c4 c5 c6 c7
   have hbw:Below w.heap.size w w2:=zi H1.o.2.1 hb2
   have hlay:=JM w2 base p v L node name value t b (H1.o.2.2.1.later hbw) (vI H1.o.2.2.2 hbw.size) hL
   have H2:Aside (Below w.heap.size w w2):=hbw
   clear hb2 hbw
   go_wp2_with fail
   refine hlay.mono ?_
   clear hlay
   rintro e w3 ⟨rfl,v',h1,h2,h3⟩
   have HP:Aside (LaidIn base w p v (rp L ((node,name),(value,(t,b)))) w3):=⟨v',h1,((aX H2.o).mono (fun i hi e=>zj)).then h2 (fun i hi e=>e),fun g hg=>(h3 g hg).imp (fun e=>e) (fun e=>vI H2.o.size e)⟩
   clear h1 h2 h3 H2 c0 c1 c2 c3 c4 c5 c6 c7
   go_wp2
   go_ret2
   exact ⟨rfl,HP.o⟩
  have hx:¬(ai (t,b,n,k,node,other,name,value)=0/\k=115):=fun h=>hk h.2
  have e1:oO L (t,b,n,k,node,other,name,value)=false:=by unfold oO;rw [if_neg hx]
  have e2:iq (t,b,n,k,node,other,name,value)=5:=by unfold iq;rw [if_pos (show ai (t,b,n,k,node,other,name,value)=0 from her.o.trans h0)];exact if_neg hk
  have e3:kq L (t,b,n,k,node,other,name,value)=L:=by unfold kq;rw [if_neg hx]
  rw [e1,e2,e3]
  have dk:((k:Int) !=115)=true:=zq
  clear e1 e2 e3 hx h0
  go_enter func81,ntmps81
  go_wp2_with fail
  rw [<-hw1,hS.o]
  clear hw1
  refine hro.mono ?_
  clear hro
  rintro e w2 ⟨rfl,hb2⟩
  have c3:=(H1.o.1.later hb2).c3
  rw [hS.o] at c3
  exact ki4
 have d0:((er:Int)==0)=false:=xG
 have dg:decide (0<er)=true:=zq
 have hx:¬(ai (t,b,n,k,node,other,name,value)=0/\k=115):=fun h=>h0 (her.o.symm.trans h.1)
 have e1:oO L (t,b,n,k,node,other,name,value)=false:=by unfold oO;rw [if_neg hx]
 have e2:iq (t,b,n,k,node,other,name,value)=er:=by unfold iq;rw [if_neg (show ¬ai (t,b,n,k,node,other,name,value)=0 from fun e=>h0 (her.o.symm.trans e))];exact her.o
 have e3:kq L (t,b,n,k,node,other,name,value)=L:=by unfold kq;rw [if_neg hx]
 rw [e1,e2,e3]
 clear e1 e2 e3 hx
 go_enter func81,ntmps81
 go_wp2_with fail
 rw [<-hw1,hS.o]
 clear hw1
 refine hro.mono ?_
 clear hro
 rintro e w2 ⟨rfl,hb2⟩
 exact ki4
theorem nQ {i:Nat} {m:bU×aG} (h:L[i]? =some m):shown (L.take (i+1))=shown (L.take i)++(if m.2.1.size≠0 then [JA m] else []):=by
 rw [uA,h]
 unfold shown
 rw [Zt,un]
 congr 1
 by_cases hm:m.2.1.size≠0
 ·rw [if_pos hm]
  simp [Lm,hm]
 rw [if_neg hm]
 simp only [ne_eq,Decidable.not_not] at hm
 simp [Lm,hm]
end
section
open Go.RowKit Go.Lib Go.Sort Go.Maps
def Ni (ad:Nat->Addr) (W:World) (v:Value) (ix:Int) (cd:Nat):Prop:=(ix= -1/\v=eV ad cd/\cd≠0)\/(0<=ix/\mO ad W v ix cd)
theorem Dg (w:World) (hE:Errs B ad w) (v:Value) (ix:Int) (cd:Nat) (h1:1<=cd) (h12:cd<=12) (hv:Ni ad w v ix cd):
  Calls prog 36 #[v] w fun e w'=>e= .returned (eV ad cd)/\Below w.heap.size w w':=by
 obtain ⟨k,rfl⟩:∃k,cd=k+1:=⟨cd - 1,zj⟩
 have hev:eV ad (k+1)= .iface 450 (.pointer (some (ad k))):=if_neg zj
 have hb0:Below w.heap.size w (w.alloc (.cells #[.pointer none] 72)):=zh _ _
 have h1:Errs B ad (w.alloc (.cells #[.pointer none] 72)):=hE.later hb0
 rcases hv with ⟨_,rfl,_⟩ | ⟨_,b,rfl,hb⟩
 ·rw [hev]
  go_enter func36,ntmps36
  go_wp2_with fail
  refine (Mw (ad k) _ _ h1.et).mono ?_
  rintro e w1 ⟨rfl,hb1⟩
  have B1:Below w.heap.size w w1:=hb0.trans (hb1.mono zt)
  clear hb1 h1 hb0
  exact ko2
 have hlt:b<w.heap.size:=(vD.1 hb).1
 rw [hev] at hb |-
 go_enter func36,ntmps36
 go_wp2_with fail
 refine (FB ⟨b,0,none⟩ _ (.pointer none) _ h1.et zt zt).mono ?_
 rintro e w1 ⟨rfl,ht,hb1,z1⟩
 have B1:Below w.heap.size w w1:=(zh _ _).trans hb1
 have hb2:w1.heap[b]? =some (.cells #[.int .i64 ix,.iface 450 (.pointer (some (ad k)))] 75 (0,0)):=(B1.block b hlt).trans hb
 have c1:w1.cell? ⟨b,1,none⟩=some (.iface 450 (.pointer (some (ad k)))):=by simp [World.cell?,hb2]
 clear hb1 h1 hb0 hb2 hb hev
 exact ko2
theorem JU (w:World) (v:Value) (ix:Int) (cd:Nat) (hE:Errs B ad w) (h1:1<=cd) (h12:cd<=12) (hv:mO ad w v ix cd):
  Calls prog 12 #[v,.agg #[.int .i64 (cd:Int),.int .i64 ix]] w fun e w'=>e= .returned (.bool true)/\Aside (Below w.heap.size w w'):=by
 obtain ⟨P,hP⟩:=ze w.heap.size
 obtain ⟨U,hU⟩:=ze (w.alloc (.cells #[.int .i64 (cd:Int),.int .i64 ix] 29))
 have hbU:Below w.heap.size w U:=yq
 have hfU:U.heap[P]? =some (.cells #[.int .i64 (cd:Int),.int .i64 ix] 29 (0,0)):=by rw [hU.o,hP.o];exact heap_alloc_new w _
 obtain ⟨k,hk⟩:∃k,cd=k+1:=⟨cd - 1,zj⟩
 have hk12:k<12:=zj
 have hcode:Calls prog 37 #[v] U fun e w'=>e= .returned (.tuple #[.int .i64 (cd:Int),.int .i64 ix])/\Below U.heap.size U w':=by
  have hcd:fJ k=(cd:Int):=by rw [hk];unfold fJ;split<;>omega
  obtain ⟨b,e2,e3⟩:=hv
  have hb3:U.heap[b]? =some (.cells #[.int .i64 ix,eV ad cd] 75 (0,0)):=(hbU.block b (vD.1 e3).1).trans e3
  have hev:eV ad cd= .iface 450 (.pointer (some (ad k))):=by rw [hk];rfl
  rw [e2,<-hcd]
  exact CI U (hE.later hbU) b 0 ix k hk12 (by simp [World.cell?,hb3]) (by simp [World.cell?,hb3,hev])
 have H0:Aside (Below w.heap.size w U/\U.heap[P]? =some (.cells #[.int .i64 (cd:Int),.int .i64 ix] 29 (0,0))):=⟨hbU,hfU⟩
 have dz:((cd:Int)==0)=false:=zq
 have dzn:(cd==0)=false:=zq
 clear hv hk hbU hfU hE
 go_enter func12,ntmps12
 go_upto_region 1 with fail
 rw [<-hU.o,<-hP.o]
 go_wp2_with fail
 refine hcode.mono ?_
 clear hcode
 rintro e w1 ⟨rfl,hb1⟩
 have hf1:w1.heap[P]? =some (.cells #[.int .i64 (cd:Int),.int .i64 ix] 29 (0,0)):=(hb1.block P (vD.1 H0.o.2).1).trans H0.o.2
 have z0:w1.cell? ⟨P,0,none⟩=some (.int .i64 (cd:Int)):=by simp [World.cell?,hf1]
 have z1:w1.cell? ⟨P,1,none⟩=some (.int .i64 ix):=by simp [World.cell?,hf1]
 have HB:Aside (Below w.heap.size w w1):=zi H0.o.1 hb1
 clear hb1 hf1
 go_wp2
 go_ret
 exact ⟨rfl,HB.o⟩
end
section
open Go.ChangeShapes Go.WideShapes Go.ChangeAt Go.RowKit Go.Joins
theorem EF:prog.cellsOf 61=8:=zo
theorem wH:prog.cellsOf 59=2:=zo
theorem Co:prog.cellsOf 5=1:=zo
theorem GN:prog.cellsOf 9=1:=zo
def opD (H:Type) (t b n:Int) (k:Nat) (node other:Int) (name value:ByteArray):DataW H:=.agg [.agg [.lit (.int .i64 t),.lit (.int .i64 b)],.lit (.int .i64 n),.lit (.int .u8 (k:Int)),.lit (.int .i64 node),.lit (.int .i64 other),.lit (.string name.data.toList),.lit (.string value.data.toList)]
structure Oc (t b n:Int) (k:Nat) (node other:Int) (name value:ByteArray):Prop where
 t:(Lit.int .i64 t).wf=true
 b:(Lit.int .i64 b).wf=true
 n:(Lit.int .i64 n).wf=true
 k:(Lit.int .u8 (k:Int)).wf=true
 node:(Lit.int .i64 node).wf=true
 other:(Lit.int .i64 other).wf=true
 name:name.size<=maxLen
 value:value.size<=maxLen
theorem Mv {α:Type} {cs:List α} (h:cs.length=8):∃c0 c1 c2 c3 c4 c5 c6 c7,cs= [c0,c1,c2,c3,c4,c5,c6,c7]:=by
 match cs,h with
 | [c0,c1,c2,c3,c4,c5,c6,c7],_=>exact ⟨c0,c1,c2,c3,c4,c5,c6,c7,rfl⟩
theorem KT {H:Type} {enc:TypeId×Value->H} {held:Bool} {fuel:Nat} {x:DataW H×List MemPlace} (h:DataW.trod enc prog W base sp held fuel 61 cs=some x):
  ∃(t b n:Int) (k:Nat) (node other:Int) (name value:ByteArray),cs= [.int .i64 t,.int .i64 b,.int .i64 n,.int .u8 (k:Int),.int .i64 node,.int .i64 other,.string name,.string value]/\x=(opD H t b n k node other name value,[])/\Oc t b n k node other name value:=by
 obtain ⟨xs,m,_,rfl,hl,hlen,hf⟩:=DataW.trod_struct underlying61 h
 rw [EF] at hl
 obtain ⟨c0,c1,c2,c3,c4,c5,c6,c7,rfl⟩:=Mv hl
 match xs,hlen with
 | [y0,y1,y2,y3,y4,y5,y6],_=>
  have g0:=hf 0 _ rfl
  have g1:=hf 1 _ rfl
  have g2:=hf 2 _ rfl
  have g3:=hf 3 _ rfl
  have g4:=hf 4 _ rfl
  have g5:=hf 5 _ rfl
  have g6:=hf 6 _ rfl
  simp [wH,Ay,Co,GN] at g0 g1 g2 g3 g4 g5 g6
  obtain ⟨z0,z1,m2,rfl,-,s0,s1⟩:=trod_struct2 underlying59 g0
  simp [Ay] at s0 s1
  obtain ⟨t,e0,rfl,w0⟩:=DataW.trod_int underlying3 s0
  obtain ⟨b,e1,rfl,w1⟩:=DataW.trod_int underlying3 s1
  obtain ⟨n,e2,rfl,w2⟩:=DataW.trod_int underlying3 g1
  obtain ⟨k,e3,rfl,w3⟩:=DataW.trod_int underlying5 g2
  obtain ⟨node,e4,rfl,w4⟩:=DataW.trod_int underlying3 g3
  obtain ⟨other,e5,rfl,w5⟩:=DataW.trod_int underlying3 g4
  obtain ⟨name,e6,rfl,w6⟩:=DataW.trod_string underlying9 g5
  obtain ⟨value,e7,rfl,w7⟩:=DataW.trod_string underlying9 g6
  simp at e0 e1 e2 e3 e4 e5 e6 e7
  subst e0 e1 e2 e3 e4 e5 e6 e7
  have hk:0<=k:=by
   simp [Lit.wf,IntKind.min,IntKind.max,IntKind.signed,IntKind.bits] at w3
   omega
  obtain ⟨k',rfl⟩:∃k':Nat,k=(k':Int):=⟨k.toNat,zj⟩
  exact ⟨t,b,n,k',node,other,name,value,rfl,by simp [opD],⟨w0,w1,w2,w3,w4,w5,w6,w7⟩⟩
end
section
open Go.ChangeShapes Go.WideShapes Go.RowKit Go.Deep Go.Sort
theorem Hz {H:Type} {enc:TypeId×Value->H} {spare:Nat->Bool} {held:Bool} {n:Nat} {a:Addr} {x:DataW H×List MemPlace}
  (hc:w.cells? base a 8=some cs) (h:DataW.trod enc prog w base spare held n 61 cs=some x):∃o:OpX,∀c,c<8->w.cell? (a.add c)=(bq o)[c]? :=by
 obtain ⟨t,b,m,k,node,other,name,value,rfl,-,-⟩:=KT h
 exact ⟨(t,b,m,k,node,other,name,value),fun c h8=>(World.cells?_some hc).2.2 c h8⟩
theorem tM (f:Nat->OpX) (len i c:Nat) (hi:i<len) (h8:c<8):(cellsOf ((List.range len).map f))[i*8+c]? =(bq (f i))[c]? :=by
 have hl:i<((List.range len).map f).length:=qF
 rw [bd _ i c hl h8,getElem!_pos ((List.range len).map f) i hl]
 rw [vF jh,getElem!_pos _ c jh]
 simp
theorem Ed {H:Type} {enc:TypeId×Value->H} {held:Bool} {ao:Option Addr} {len cap:Nat} {d:DataW H} {p:List MemPlace}
  (h:DataW.Trod enc prog W base sp held 25 (.slice ao len cap) d p):
  len<=maxLen/\(len=0\/∃xs:List OpX,xs.length=len/\OpsAt W (.slice ao len cap) xs):=by
 obtain ⟨fuel,hf⟩:=h
 rcases open_slice underlying25 hf with ⟨hcs,_⟩ | ⟨a,len',cap',m,n,D,Pl,hcs,_,hl,hmax,hm,_,hx⟩
 ·simp [Value.cells] at hcs
  obtain ⟨rfl,rfl,rfl⟩:=hcs
  exact ⟨vM _,.inl rfl⟩
 simp [Value.cells] at hcs
 obtain ⟨rfl,rfl,rfl⟩:=hcs
 refine ⟨zj,?_⟩
 have hmm:len<=m:=by subst hm;split<;>omega
 rcases Zs len with h0 | hpos
 ·exact .inl h0
 right
 have key:∀i,i<len->∃o:OpX,∀c,c<8->W.cell? ((a.add (i*8)).add c)=(bq o)[c]? :=fun i hi=>by
  obtain ⟨cs',h1,h2⟩:=hx i zj
  rw [EF] at h1
  exact Hz h1 h2
 obtain ⟨f,hf⟩:=choose_lt key
 obtain ⟨b,off,spot⟩:=a
 have h00:W.cell? ((Addr.add ⟨b,off,spot⟩ (0*8)).add 0)=some (.int .i64 (f 0).1):=hf 0 hpos 0 zj
 have hspot:spot=none:=by simpa [Addr.add] using World.cell?_spot h00
 subst hspot
 refine ⟨(List.range len).map f,zt,.inr ⟨b,off,cap,zt,fun j u hj=> ?_⟩⟩
 have hjl:=(vA.1 hj).1
 rw [aD] at hjl
 have hjl:j<len*8:=by simpa using hjl
 have e:j / 8*8+j % 8=j:=zj
 have h1:=hf (j / 8) zj (j % 8) zj
 have h2:=tM f len (j / 8) (j % 8) zj zj
 rw [e] at h2
 rw [<-h2,hj,add_plain,add_plain,uT,e] at h1
 exact h1
end
section
open Go.RowKit
theorem Tryz.yEt:prog.globalNamed "errors.errorType" =some 12:=zo
theorem Tryz.yRt:(prog.cutTypes.find? (·.1== "internal/reflectlite.rtype")).map (·.2)=some 306:=zo
theorem Tryz.yOneRow:((List.range prog.types.size).filter fun t=>prog.rowNamed t [101,114,114,111,114])= [36]:=zo
def sents:List (String×Nat×List UInt8):=[("concordat/api.ErrText",3,[99,111,110,99,111,114,100,97,116,58,32,116,101,120,116]),("concordat/api.ErrBound",0,[99,111,110,99,111,114,100,97,116,58,32,98,111,117,110,100]),("concordat/api.ErrShape",4,[99,111,110,99,111,114,100,97,116,58,32,115,104,97,112,101]),("concordat/api.ErrName",5,[99,111,110,99,111,114,100,97,116,58,32,110,97,109,101]),("concordat/api.ErrKind",6,[99,111,110,99,111,114,100,97,116,58,32,107,105,110,100]),("concordat/api.ErrNone",1,[99,111,110,99,111,114,100,97,116,58,32,110,111,110,101]),("concordat/api.ErrExist",7,[99,111,110,99,111,114,100,97,116,58,32,101,120,105,115,116]),("concordat/api.ErrFull",2,[99,111,110,99,111,114,100,97,116,58,32,102,117,108,108]),("concordat/api.ErrGap",8,[99,111,110,99,111,114,100,97,116,58,32,103,97,112]),("concordat/api.ErrCycle",9,[99,111,110,99,111,114,100,97,116,58,32,99,121,99,108,101]),("concordat/api.ErrOff",10,[99,111,110,99,111,114,100,97,116,58,32,111,102,102]),("concordat/api.ErrSum",11,[99,111,110,99,111,114,100,97,116,58,32,115,117,109])]
def iE:List (String×DataW Unit):=sents.map fun x=>(x.1,.iface "*errors.errorString" (.ptr (.agg [.lit (.string x.2.2)])))
def kO:List (String×DataW Unit):=[("errors.errorType",.iface "internal/reflectlite.rtype" (.agg [.ptr (.lit (.string [101,114,114,111,114]))]))]
theorem sr:∀x∈sents,prog.globalNamed x.1=some x.2.1/\(prog.globals[x.2.1]?).map (·.type)=some 36:=by
 have h:(sents.all fun x=>(prog.globalNamed x.1==some x.2.1) &&((prog.globals[x.2.1]?).map (·.type)==some 36))=true:=zo
 intro x hx
 have:=List.all_eq_true.1 h x hx
 exact kp3
theorem Kt (h1:laidMet prog iE W) (h2:handlesMet prog kO W):∃ad:Nat->Addr,Errs W.heap.size ad W:=by
 obtain ⟨ps,hv,hnd,hr⟩:=h1
 obtain ⟨az,hl,hcell,hrow,hn⟩:=rO underlying36 Tryz.yRow underlying450 underlying468 rfl rfl underlying9 Tryz.yCellsS Tryz.yCellsString sents ps sr hv hnd hr
 have hl:az.length=12:=hl
 have hget:∀i,i<12->az[i]? =some (az.getD i ⟨0,0,none⟩):=fun i hi=>by
  rw [List.getD_eq_getElem?_getD,vF zj];rfl
 have hat:∀i x,i<12->sents[i]? =some x->W.cell? ⟨x.2.1,0,none⟩=some (.iface 450 (.pointer (some (az.getD i ⟨0,0,none⟩)))):=fun i x hi hx=>hcell i x _ hx (hget i hi)
 have hmem:∀i,i<12->az.getD i ⟨0,0,none⟩∈az:=fun i hi=>vH (hget i hi)
 have het:W.cell? ⟨12,0,none⟩=some (.iface 306 (.agg #[.pointer (some ⟨19,36,none⟩)])):=by
  obtain ⟨name,u,ty,e1,e2,e3,e4,e5⟩:=h2 _ (vR.2 rfl)
  have en:name= [101,114,114,111,114]:=(Option.some.inj e1).symm
  subst en
  obtain rfl:=Option.some.inj (Tryz.yRt.symm.trans e2)
  have hm:ty∈(List.range prog.types.size).filter fun t=>prog.rowNamed t [101,114,114,111,114]:=Zn.2 ⟨List.mem_range.2 e3,e4⟩
  rw [Tryz.yOneRow] at hm
  obtain rfl:=vR.1 hm
  have hh:typeHandle prog 36= .pointer (some ⟨19,36,none⟩):=zo
  rw [hh] at e5
  simpa using World.var?_cell Tryz.yEt e5 0
 have lt_of:∀(b o:Nat) (v:Value),W.cell? ⟨b,o,none⟩=some v->b<W.heap.size:=fun b o v hc=>by
  rcases uB b W.heap.size with h | h
  ·exact h
  simp [World.cell?,Ze h] at hc
 refine ⟨fun i=>az.getD i ⟨0,0,none⟩,hat 0 _ zr rfl,hat 1 _ zr rfl,hat 2 _ zr rfl,hat 3 _ zr rfl,hat 4 _ zr rfl,hat 5 _ zr rfl,hat 6 _ zr rfl,hat 7 _ zr rfl,hat 8 _ zr rfl,hat 9 _ zr rfl,hat 10 _ zr rfl,hat 11 _ zr rfl,het,?_,?_,?_,?_,vB _⟩
 ·intro i hi
  obtain ⟨⟨c,t,e⟩,_⟩:=hrow _ (hmem i hi)
  rcases uB (az.getD i ⟨0,0,none⟩).block W.heap.size with h | h
  ·exact h
  rw [Ze h] at e;cases e
 ·exact fun i hi=>(hrow _ (hmem i hi)).1
 ·intro i j hi hj hne e
  have e1:=hget i hi
  have e2:=hget j hj
  have e:az.getD i ⟨0,0,none⟩=az.getD j ⟨0,0,none⟩:=e
  rw [e] at e1
  exact hne ((List.getElem?_inj zj hn).1 (e1.trans e2.symm))
 have l0:=lt_of _ _ _ het
 have l1:=lt_of _ _ _ (hat 0 _ zr rfl)
 have l2:=lt_of _ _ _ (hat 1 _ zr rfl)
 have l3:=lt_of _ _ _ (hat 2 _ zr rfl)
 have l4:=lt_of _ _ _ (hat 3 _ zr rfl)
 have l5:=lt_of _ _ _ (hat 4 _ zr rfl)
 have l6:=lt_of _ _ _ (hat 5 _ zr rfl)
 have l7:=lt_of _ _ _ (hat 6 _ zr rfl)
 have l8:=lt_of _ _ _ (hat 7 _ zr rfl)
 have l9:=lt_of _ _ _ (hat 8 _ zr rfl)
 have l10:=lt_of _ _ _ (hat 9 _ zr rfl)
 have l11:=lt_of _ _ _ (hat 10 _ zr rfl)
 have l12:=lt_of _ _ _ (hat 11 _ zr rfl)
 first | exact l0 | exact l1 | exact l2 | exact l3 | exact l4 | exact l5 | exact l6 | exact l7 | exact l8 | exact l9 | exact l10 | exact l11 | exact l12
