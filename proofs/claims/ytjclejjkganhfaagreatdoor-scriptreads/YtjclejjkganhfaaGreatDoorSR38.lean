import Derived.Test.YtjclejjkganhfaaGreatDoorSR20
import Derived.Test.YtjclejjkganhfaaGreatDoorSR35
import Derived.Test.YtjclejjkganhfaaGreatDoorSR37
set_option linter.unusedSimpArgs false
set_option linter.unusedVariables false
set_option maxRecDepth 100000
set_option maxHeartbeats 64000000
namespace Go.Proofs.YtjclejjkganhfaaGreatDoor
open Go.Proofs.Tryz
section
open RowKit Lib Go.Sort Maps
open scoped Classical
def rN(gd:Nat->Option Obj)(B:Nat)(ad:qF)(bm i:Nat)(w:qW)(K:qH)(st:qD)(N:qJ)(sp:Spec)(c:Cmd):Prop:=∃fn bs,c=(sp.2.1,some (fn,bs))/\(∀args w,(callFunc fn args).run prog w= .ok (.enter fn args) w)/\
 ∀ps x W v0 v1 v2,oQ sp.2.1.data.toList ps=some x->(∀u∈ps,u.size<=1000000)->qL w W->B8 W v0 v1 v2 x->VH w.heap.size v0 v1->Calls prog fn (#[.agg #[v0,v1,v2]]++(bs.map ptB).toArray) W (aav gd B ad bm i w (fun K' st' N' a=>zaM sp.2.2 x K st N K' st' N' a))
def pw(gd:Nat->Option Obj)(lo:Nat)(wC w:qW):Prop:=∀b t cs,lo<=b->p8 wC b t cs->(∀W,qL w W->p8 W b t cs)/\gd b≠none
theorem PE:(⟨#[]⟩:qY).size<=60:=zo
section
variable {gd:Nat→Option Obj} {B:Nat} {ad:qF} {m:Int} {bm i lo p:Nat} {G:qX} {K:qH} {D:Nat→List OpX} {st:qD} {N:qJ} {wC w W:qW} {c:Cmd}
theorem SB(h:E7 gd B ad bm i G K D st N w)(hE:J1 B ad m w)(hX:pw gd lo wC w)(kp:p8 wC p 46 [ptB bm])(hp:lo<=p)(hC:Q5 lo wC p (0,⟨#[68,78,87]⟩,31) c):rN gd B ad bm i w K st N (0,⟨#[68,78,87]⟩,31) c:=by
 obtain ⟨a,b,rfl,ka,kb⟩:=hC;refine ⟨_,_,rfl,(enters_of func80 zk rfl),fun ps x W v0 v1 v2 hx bq hb hS hV=> ?_⟩;obtain ⟨r,n,u,hr,hn,ht,rfl⟩:=UI (k:=87) zo zo hx;refine (sQ h hb (0,0,0,109,0,(n:Int),u,⟨#[]⟩) hS hV rfl hr ((hX _ _ _ ka.1 ka.2).1 W hb) ((hX _ _ _ kb.1 kb.2).1 W hb) ((hX _ _ _ hp kp).1 W hb) (hX _ _ _ ka.1 ka.2).2 (hX _ _ _ kb.1 kb.2).2 (hX _ _ _ hp kp).2 (enters_of func31 zk rfl) ⟨(pK (Jl ht)),PE,zr,⟨zL,zM⟩,⟨zM,zM⟩⟩ (fun V ai=>NI V v0 v1 v2 (r:Int) (n:Int) u (hS.later ai))).mono ?_;intro e w' q
 exact q.mono (fun K' st' N' a q=>by
  obtain rfl:N'=N:=q.1
  exact ⟨r,n,u,rfl,q⟩)
theorem QD(h:E7 gd B ad bm i G K D st N w)(hE:J1 B ad m w)(hX:pw gd lo wC w)(kp:p8 wC p 46 [ptB bm])(hp:lo<=p)(hC:Q5 lo wC p (0,⟨#[68,78,78,76]⟩,34) c):rN gd B ad bm i w K st N (0,⟨#[68,78,78,76]⟩,34) c:=by
 obtain ⟨a,b,rfl,ka,kb⟩:=hC;refine ⟨_,_,rfl,(enters_of func80 zk rfl),fun ps x W v0 v1 v2 hx bq hb hS hV=> ?_⟩;obtain ⟨r,n,o,u,hr,hn,ho,ht,rfl⟩:=Fs (k:=76) zo zo hx;refine (sQ h hb (0,0,0,105,(n:Int),(o:Int),⟨#[]⟩,u) hS hV rfl hr ((hX _ _ _ ka.1 ka.2).1 W hb) ((hX _ _ _ kb.1 kb.2).1 W hb) ((hX _ _ _ hp kp).1 W hb) (hX _ _ _ ka.1 ka.2).2 (hX _ _ _ kb.1 kb.2).2 (hX _ _ _ hp kp).2 (enters_of func34 zk rfl) ⟨PE,(pK (zbQ ht)),zr,⟨zM,zM⟩,⟨zM,zM⟩⟩ (fun V ai=>Qp V v0 v1 v2 (r:Int) (n:Int) (o:Int) u (hS.later ai))).mono ?_;intro e w' q
 exact q.mono (fun K' st' N' a q=>by
  obtain rfl:N'=N:=q.1
  exact ⟨r,n,o,u,rfl,q⟩)
theorem QR(h:E7 gd B ad bm i G K D st N w)(hE:J1 B ad m w)(hX:pw gd lo wC w)(kp:p8 wC p 46 [ptB bm])(hp:lo<=p)(hC:Q5 lo wC p (0,⟨#[68,78,78]⟩,35) c):rN gd B ad bm i w K st N (0,⟨#[68,78,78]⟩,35) c:=by
 obtain ⟨a,b,rfl,ka,kb⟩:=hC;refine ⟨_,_,rfl,(enters_of func80 zk rfl),fun ps x W v0 v1 v2 hx bq hb hS hV=> ?_⟩;obtain ⟨r,n,o,hr,hn,ho,rfl⟩:=UH hx;refine (sQ h hb (0,0,0,100,(n:Int),(o:Int),⟨#[]⟩,⟨#[]⟩) hS hV rfl hr ((hX _ _ _ ka.1 ka.2).1 W hb) ((hX _ _ _ kb.1 kb.2).1 W hb) ((hX _ _ _ hp kp).1 W hb) (hX _ _ _ ka.1 ka.2).2 (hX _ _ _ kb.1 kb.2).2 (hX _ _ _ hp kp).2 (enters_of func35 zk rfl) ⟨PE,PE,zr,⟨zM,zM⟩,⟨zM,zM⟩⟩ (fun V ai=>Nl V v0 v1 v2 (r:Int) (n:Int) (o:Int) (hS.later ai))).mono ?_;intro e w' q
 exact q.mono (fun K' st' N' a q=>by
  obtain rfl:N'=N:=q.1
  exact ⟨r,n,o,rfl,q⟩)
theorem Th(h:E7 gd B ad bm i G K D st N w)(hE:J1 B ad m w)(hX:pw gd lo wC w)(kp:p8 wC p 46 [ptB bm])(hp:lo<=p)(hC:Q5 lo wC p (0,⟨#[68,78,87,87]⟩,36) c):rN gd B ad bm i w K st N (0,⟨#[68,78,87,87]⟩,36) c:=by
 obtain ⟨a,b,rfl,ka,kb⟩:=hC;refine ⟨_,_,rfl,(enters_of func80 zk rfl),fun ps x W v0 v1 v2 hx bq hb hS hV=> ?_⟩;obtain ⟨r,n,u,v,hr,hn,ht,kH,rfl⟩:=Qs (k:=87) zo zo hx;refine (sQ h hb (0,0,0,115,(n:Int),0,u,v) hS hV rfl hr ((hX _ _ _ ka.1 ka.2).1 W hb) ((hX _ _ _ kb.1 kb.2).1 W hb) ((hX _ _ _ hp kp).1 W hb) (hX _ _ _ ka.1 ka.2).2 (hX _ _ _ kb.1 kb.2).2 (hX _ _ _ hp kp).2 (enters_of func36 zk rfl) ⟨(pK (Jl ht)),(pK (Jl kH)),zr,⟨zM,zM⟩,⟨zL,zM⟩⟩ (fun V ai=>Nd V v0 v1 v2 (r:Int) (n:Int) u v (hS.later ai))).mono ?_;intro e w' q
 exact q.mono (fun K' st' N' a q=>by
  obtain rfl:N'=N:=q.1
  exact ⟨r,n,u,v,rfl,q⟩)
theorem UL(h:E7 gd B ad bm i G K D st N w)(hE:J1 B ad m w)(hX:pw gd lo wC w)(kp:p8 wC p 46 [ptB bm])(hp:lo<=p)(hC:Q5 lo wC p (1,⟨#[68,78,78,87]⟩,33) c):rN gd B ad bm i w K st N (1,⟨#[68,78,78,87]⟩,33) c:=by
 obtain ⟨s,a,b,rfl,ks,ka,kb⟩:=hC;refine ⟨_,_,rfl,(enters_of func83 zk rfl),fun ps x W v0 v1 v2 hx bq hb hS hV=> ?_⟩;obtain ⟨r,n,o,u,hr,hn,ho,ht,rfl⟩:=Fs (k:=87) zo zo hx;refine (Ff W s 80 [a,b] _ v0 v1 v2 _ (n:Int) (ad 5) (aav gd B ad bm i w (fun K' st' N' a=>DoS K st N r (0,0,0,109,(n:Int),(o:Int),u,⟨#[]⟩) K' st' N' a)) hS rfl ((hX _ _ _ ks.1 ks.2).1 W hb) (hE.later hb).G3.t.G3.c5 (enters_of func80 zk rfl) (fun V ai=> ?_)).mono ?_
 ·refine (sQ h (zi hb ai) (0,0,0,109,(n:Int),(o:Int),u,⟨#[]⟩) (hS.later ai) hV rfl hr ((hX _ _ _ ka.1 ka.2).1 V (zi hb ai)) ((hX _ _ _ kb.1 kb.2).1 V (zi hb ai)) ((hX _ _ _ hp kp).1 V (zi hb ai)) (hX _ _ _ ka.1 ka.2).2 (hX _ _ _ kb.1 kb.2).2 (hX _ _ _ hp kp).2 (enters_of func33 zk rfl) ⟨(pK (Jl ht)),PE,zr,⟨zM,zM⟩,⟨zM,zM⟩⟩ (fun V' hbV'=>Pi V' v0 v1 v2 (r:Int) (n:Int) (o:Int) u ((hS.later ai).later hbV'))).mono ?_;intro e w' q;obtain ⟨told,ev,rfl,q2⟩:=q;exact ⟨told,ev,rfl,told,ev,rfl,q2⟩
 rintro e w' (⟨h0,rfl,hbW⟩ | ⟨h0,told,ev,rfl,H⟩)
 ·exact ⟨_,_,rfl,oh 6,K,st,N,h.same (zi hb hbW.o),⟨r,n,o,u,rfl,.inl ⟨h0,rfl,rfl,rfl,rfl⟩⟩,.inr ⟨6,zj,zj,rfl,rfl,rfl⟩⟩
 exact H.o.mono (fun K' st' N' a q=>⟨r,n,o,u,rfl,.inr ⟨h0,zj⟩⟩)
theorem WR(h:E7 gd B ad bm i G K D st N w)(hE:J1 B ad m w)(hX:pw gd lo wC w)(kp:p8 wC p 46 [ptB bm])(hp:lo<=p)(hC:Q5 lo wC p (2,⟨#[68,68]⟩,38) c):rN gd B ad bm i w K st N (2,⟨#[68,68]⟩,38) c:=by
 obtain ⟨s,q,rfl,kq,ks⟩:=hC;refine ⟨_,_,rfl,(enters_of func84 zk rfl),fun ps x W v0 v1 v2 hx bq hb hS hV=> ?_⟩;obtain ⟨r,q2,hr,hq,rfl⟩:=Xb hx;refine (Av hS ((hX _ _ _ kq.1 kq.2).1 W hb) (enters_of func38 zk rfl) (fun V ai=>Lf V (fun k=>w.heap.size<=k\/gd k≠none) ad _ s p bm v0 v1 v2 _ _ _ (hS.later ai) rfl rfl ((hX _ _ _ ks.1 ks.2).1 V (zi hb ai)) ((hX _ _ _ hp kp).1 V (zi hb ai)) ⟨.inr (hX _ _ _ ks.1 ks.2).2,.inr (hX _ _ _ hp kp).2,.inl (zi hb ai).size,fun k q=>.inl (hV k (.inl q)),fun k q=>.inl (hV k (.inr q))⟩ (fun U ah=>(fun gG=>XK h gG r q2 hr hq) ((zi hb ai).trans (ah.mono (zi hb ai).size))) (fun _ _ _ q hb'=>q.later hb'))).mono ?_;intro e w' q
 exact q.mono (fun K' st' N' a q=>by
  obtain ⟨cd,ea,q⟩:=q
  exact ⟨r,q2,cd,rfl,ea,q⟩)
theorem zb5(h:E7 gd B ad bm i G K D st N w)(hE:J1 B ad m w)(hX:pw gd lo wC w)(kp:p8 wC p 46 [ptB bm])(hp:lo<=p)(hC:Q5 lo wC p (2,⟨#[78]⟩,40) c):rN gd B ad bm i w K st N (2,⟨#[78]⟩,40) c:=by
 obtain ⟨s,q,rfl,kq,ks⟩:=hC;refine ⟨_,_,rfl,(enters_of func84 zk rfl),fun ps x W v0 v1 v2 hx bq hb hS hV=> ?_⟩;obtain ⟨n,hn,rfl⟩:=Qj hx;refine (Av hS ((hX _ _ _ kq.1 kq.2).1 W hb) (enters_of func40 zk rfl) (fun V ai=>DX V (fun k=>w.heap.size<=k\/gd k≠none) ad _ s p bm v0 v1 v2 _ _ (hS.later ai) rfl ((hX _ _ _ ks.1 ks.2).1 V (zi hb ai)) ((hX _ _ _ hp kp).1 V (zi hb ai)) ⟨.inr (hX _ _ _ ks.1 ks.2).2,.inr (hX _ _ _ hp kp).2,.inl (zi hb ai).size,fun k q=>.inl (hV k (.inl q)),fun k q=>.inl (hV k (.inr q))⟩ (fun U ah=>(fun gG=>Hq h gG n hn) ((zi hb ai).trans (ah.mono (zi hb ai).size))) (fun _ _ _ q hb'=>q.later hb'))).mono ?_;exact kg4
theorem Un(h:E7 gd B ad bm i G K D st N w)(hE:J1 B ad m w)(hX:pw gd lo wC w)(kp:p8 wC p 46 [ptB bm])(hp:lo<=p)(hC:Q5 lo wC p (2,⟨#[78]⟩,42) c):rN gd B ad bm i w K st N (2,⟨#[78]⟩,42) c:=by
 obtain ⟨s,q,rfl,kq,ks⟩:=hC;refine ⟨_,_,rfl,(enters_of func84 zk rfl),fun ps x W v0 v1 v2 hx bq hb hS hV=> ?_⟩;obtain ⟨n,hn,rfl⟩:=Qj hx;refine (Av hS ((hX _ _ _ kq.1 kq.2).1 W hb) (enters_of func42 zk rfl) (fun V ai=>Hx V (fun k=>w.heap.size<=k\/gd k≠none) ad _ s p bm v0 v1 v2 _ _ (hS.later ai) rfl ((hX _ _ _ ks.1 ks.2).1 V (zi hb ai)) ((hX _ _ _ hp kp).1 V (zi hb ai)) ⟨.inr (hX _ _ _ ks.1 ks.2).2,.inr (hX _ _ _ hp kp).2,.inl (zi hb ai).size,fun k q=>.inl (hV k (.inl q)),fun k q=>.inl (hV k (.inr q))⟩ (fun U ah=>(fun gG=>Rl h gG n hn) ((zi hb ai).trans (ah.mono (zi hb ai).size))) (fun _ _ _ q hb'=>q.later hb'))).mono ?_;exact kg4
theorem Oh(h:E7 gd B ad bm i G K D st N w)(hE:J1 B ad m w)(hX:pw gd lo wC w)(kp:p8 wC p 46 [ptB bm])(hp:lo<=p)(hC:Q5 lo wC p (2,⟨#[78]⟩,44) c):rN gd B ad bm i w K st N (2,⟨#[78]⟩,44) c:=by
 obtain ⟨s,q,rfl,kq,ks⟩:=hC;refine ⟨_,_,rfl,(enters_of func84 zk rfl),fun ps x W v0 v1 v2 hx bq hb hS hV=> ?_⟩;obtain ⟨n,hn,rfl⟩:=Qj hx;refine (Av hS ((hX _ _ _ kq.1 kq.2).1 W hb) (enters_of func44 zk rfl) (fun V ai=>FL V (fun k=>w.heap.size<=k\/gd k≠none) ad _ s p bm v0 v1 v2 _ _ (hS.later ai) rfl ((hX _ _ _ ks.1 ks.2).1 V (zi hb ai)) ((hX _ _ _ hp kp).1 V (zi hb ai)) ⟨.inr (hX _ _ _ ks.1 ks.2).2,.inr (hX _ _ _ hp kp).2,.inl (zi hb ai).size,fun k q=>.inl (hV k (.inl q)),fun k q=>.inl (hV k (.inr q))⟩ (fun U ah=>(fun gG=>Ma h gG n hn) ((zi hb ai).trans (ah.mono (zi hb ai).size))) (fun _ _ _ q hb'=>q.later hb'))).mono ?_;exact kg4
theorem Xa(h:E7 gd B ad bm i G K D st N w)(hE:J1 B ad m w)(hX:pw gd lo wC w)(kp:p8 wC p 46 [ptB bm])(hp:lo<=p)(hC:Q5 lo wC p (2,⟨#[68,78]⟩,46) c):rN gd B ad bm i w K st N (2,⟨#[68,78]⟩,46) c:=by
 obtain ⟨s,q,rfl,kq,ks⟩:=hC;refine ⟨_,_,rfl,(enters_of func84 zk rfl),fun ps x W v0 v1 v2 hx bq hb hS hV=> ?_⟩;obtain ⟨r,n,hr,hn,rfl⟩:=IB hx;refine (Av hS ((hX _ _ _ kq.1 kq.2).1 W hb) (enters_of func46 zk rfl) (fun V ai=>LM V (fun k=>w.heap.size<=k\/gd k≠none) ad _ s p bm v0 v1 v2 _ _ _ (hS.later ai) rfl rfl ((hX _ _ _ ks.1 ks.2).1 V (zi hb ai)) ((hX _ _ _ hp kp).1 V (zi hb ai)) ⟨.inr (hX _ _ _ ks.1 ks.2).2,.inr (hX _ _ _ hp kp).2,.inl (zi hb ai).size,fun k q=>.inl (hV k (.inl q)),fun k q=>.inl (hV k (.inr q))⟩ (fun U ah=>(fun gG=>WS h gG r hr (n:Int) ⟨zj,zj⟩) ((zi hb ai).trans (ah.mono (zi hb ai).size))) (fun _ _ _ q hb'=>q.later hb'))).mono ?_;intro e w' q
 exact q.mono (fun K' st' N' a q=>by
  obtain ⟨cd,ea,q⟩:=q
  exact ⟨r,n,rfl,by rw [ea,q.1],q.2⟩)
theorem Ur(h:E7 gd B ad bm i G K D st N w)(hE:J1 B ad m w)(hX:pw gd lo wC w)(kp:p8 wC p 46 [ptB bm])(hp:lo<=p)(hC:Q5 lo wC p (2,⟨#[68]⟩,48) c):rN gd B ad bm i w K st N (2,⟨#[68]⟩,48) c:=by
 obtain ⟨s,q,rfl,kq,ks⟩:=hC;refine ⟨_,_,rfl,(enters_of func84 zk rfl),fun ps x W v0 v1 v2 hx bq hb hS hV=> ?_⟩;obtain ⟨r,hr,rfl⟩:=RH hx;refine (Av hS ((hX _ _ _ kq.1 kq.2).1 W hb) (enters_of func48 zk rfl) (fun V ai=>JO V (fun k=>w.heap.size<=k\/gd k≠none) ad _ s p bm v0 v1 v2 _ _ (hS.later ai) rfl ((hX _ _ _ ks.1 ks.2).1 V (zi hb ai)) ((hX _ _ _ hp kp).1 V (zi hb ai)) ⟨.inr (hX _ _ _ ks.1 ks.2).2,.inr (hX _ _ _ hp kp).2,.inl (zi hb ai).size,fun k q=>.inl (hV k (.inl q)),fun k q=>.inl (hV k (.inr q))⟩ (fun U ah=>(fun gG=>Tz h gG r hr) ((zi hb ai).trans (ah.mono (zi hb ai).size))) (fun _ _ _ q hb'=>q.later hb'))).mono ?_;intro e w' q
 exact q.mono (fun K' st' N' a q=>by
  obtain ⟨cd,ea,q⟩:=q
  exact ⟨r,rfl,by rw [ea,q.1],q.2⟩)
theorem SK(h:E7 gd B ad bm i G K D st N w)(hE:J1 B ad m w)(hX:pw gd lo wC w)(kp:p8 wC p 46 [ptB bm])(hp:lo<=p)(hC:Q5 lo wC p (3,⟨#[]⟩,50) c):rN gd B ad bm i w K st N (3,⟨#[]⟩,50) c:=by
 obtain ⟨s,rfl,ks⟩:=hC;refine ⟨_,_,rfl,(enters_of func50 zk rfl),fun ps x W v0 v1 v2 hx bq hb hS hV=> ?_⟩;obtain rfl:=VN hx;refine (Wd h hb hS ((hX _ _ _ ks.1 ks.2).1 W hb) ((hX _ _ _ hp kp).1 W hb)).mono ?_;intro e w' q;exact q.mono (fun K' st' N' a q=>⟨rfl,q⟩)
theorem zar(h:E7 gd B ad bm i G K D st N w)(hE:J1 B ad m w)(hX:pw gd lo wC w)(kp:p8 wC p 46 [ptB bm])(hp:lo<=p)(hC:Q5 lo wC p (3,⟨#[]⟩,53) c):rN gd B ad bm i w K st N (3,⟨#[]⟩,53) c:=by
 obtain ⟨s,rfl,ks⟩:=hC;refine ⟨_,_,rfl,(enters_of func53 zk rfl),fun ps x W v0 v1 v2 hx bq hb hS hV=> ?_⟩;obtain rfl:=VN hx;refine (zbf h hb hS ((hX _ _ _ ks.1 ks.2).1 W hb) ((hX _ _ _ hp kp).1 W hb)).mono ?_;intro e w' q;exact q.mono (fun K' st' N' a q=>⟨rfl,q⟩)
theorem NK(h:E7 gd B ad bm i G K D st N w)(hE:J1 B ad m w)(hX:pw gd lo wC w)(kp:p8 wC p 46 [ptB bm])(hp:lo<=p)(hC:Q5 lo wC p (4,⟨#[68]⟩,57) c):rN gd B ad bm i w K st N (4,⟨#[68]⟩,57) c:=by
 obtain ⟨a,b,rfl,ka,kb⟩:=hC;refine ⟨_,_,rfl,(enters_of func98 zk rfl),fun ps x W v0 v1 v2 hx bq hb hS hV=> ?_⟩;obtain ⟨r,hr,rfl⟩:=RH hx;refine (Bf h hE hb hr hS rfl ((hX _ _ _ ka.1 ka.2).1 W hb) ((hX _ _ _ kb.1 kb.2).1 W hb) ((hX _ _ _ hp kp).1 W hb) (enters_of func57 zk rfl) (fun a=>∃s,a=Qo s/\GB (lX (K r)) s) (fun V c br ai iQ hR hRK hl fm=> ?_)).mono ?_
 ·refine ON V _ br v0 v1 v2 _ fm (fun U ah=> ?_);refine (zcw (hR.later ah) hRK hl (iQ.later ah)).mono ?_;exact kd7
 intro e w' q;exact q.mono (fun K' st' N' a q=>by obtain ⟨⟨s,e1,e2⟩,e3⟩:=q;exact ⟨r,s,rfl,e1,e2,e3⟩)
theorem Tn(h:E7 gd B ad bm i G K D st N w)(hE:J1 B ad m w)(hX:pw gd lo wC w)(kp:p8 wC p 46 [ptB bm])(hp:lo<=p)(hC:Q5 lo wC p (4,⟨#[68,78]⟩,59) c):rN gd B ad bm i w K st N (4,⟨#[68,78]⟩,59) c:=by
 obtain ⟨a,b,rfl,ka,kb⟩:=hC;refine ⟨_,_,rfl,(enters_of func98 zk rfl),fun ps x W v0 v1 v2 hx bq hb hS hV=> ?_⟩;obtain ⟨r,n,hr,hn,rfl⟩:=IB hx;refine (Bf h hE hb hr hS rfl ((hX _ _ _ ka.1 ka.2).1 W hb) ((hX _ _ _ kb.1 kb.2).1 W hb) ((hX _ _ _ hp kp).1 W hb) (enters_of func59 zk rfl) (fun a=>∃es,a=Uv es/\Sq (lX (K r)) (n:Int) es) (fun V c br ai iQ hR hRK hl fm=> ?_)).mono ?_
 ·refine RP V _ br v0 v1 v2 _ fm (n:Int) rfl (fun U ah=> ?_);refine (zcG (hR.later ah) hl (iQ.later ah) (n:Int)).mono ?_;exact kd7
 intro e w' q;exact q.mono (fun K' st' N' a q=>by obtain ⟨⟨s,e1,e2⟩,e3⟩:=q;exact ⟨r,n,s,rfl,e1,e2,e3⟩)
theorem UD(h:E7 gd B ad bm i G K D st N w)(hE:J1 B ad m w)(hX:pw gd lo wC w)(kp:p8 wC p 46 [ptB bm])(hp:lo<=p)(hC:Q5 lo wC p (4,⟨#[68,80]⟩,61) c):rN gd B ad bm i w K st N (4,⟨#[68,80]⟩,61) c:=by
 obtain ⟨a,b,rfl,ka,kb⟩:=hC;refine ⟨_,_,rfl,(enters_of func98 zk rfl),fun ps x W v0 v1 v2 hx bq hb hS hV=> ?_⟩;obtain ⟨r,u,hr,hu,rfl⟩:=XL (k:=80) zo zo hx;refine (Bf h hE hb hr hS rfl ((hX _ _ _ ka.1 ka.2).1 W hb) ((hX _ _ _ kb.1 kb.2).1 W hb) ((hX _ _ _ hp kp).1 W hb) (enters_of func61 zk rfl) (fun a=>∃b is,a=(if is=true then Lib.itoa b else Ex)/\Ph (lX (K r)) u.data.toList b is) (fun V c br ai iQ hR hRK hl fm=> ?_)).mono ?_
 ·refine Qb V _ br v0 v1 v2 _ fm u rfl (fun U ah=> ?_);refine (zc3 (hR.later ah) hl (iQ.later ah) u (bq u hu)).mono ?_;exact kd7
 intro e w' q;exact q.mono (fun K' st' N' a q=>by obtain ⟨⟨b,is,e1,e2⟩,e3⟩:=q;exact ⟨r,u,b,is,rfl,e1,e2,e3⟩)
theorem Ue(h:E7 gd B ad bm i G K D st N w)(hE:J1 B ad m w)(hX:pw gd lo wC w)(kp:p8 wC p 46 [ptB bm])(hp:lo<=p)(hC:Q5 lo wC p (4,⟨#[68,78]⟩,63) c):rN gd B ad bm i w K st N (4,⟨#[68,78]⟩,63) c:=by
 obtain ⟨a,b,rfl,ka,kb⟩:=hC;refine ⟨_,_,rfl,(enters_of func98 zk rfl),fun ps x W v0 v1 v2 hx bq hb hS hV=> ?_⟩;obtain ⟨r,n,hr,hn,rfl⟩:=IB hx;refine (Bf h hE hb hr hS rfl ((hX _ _ _ ka.1 ka.2).1 W hb) ((hX _ _ _ kb.1 kb.2).1 W hb) ((hX _ _ _ hp kp).1 W hb) (enters_of func63 zk rfl) (fun a=>∃s is,a=(if is=true then s else Ex)/\TP (lX (K r)) (n:Int) s is) (fun V c br ai iQ hR hRK hl fm=> ?_)).mono ?_
 ·refine Qt V _ br v0 v1 v2 _ fm (n:Int) rfl (fun U ah=> ?_);refine (zcZ (hR.later ah) hl (iQ.later ah) (n:Int) ⟨zj,zj⟩).mono ?_;exact kd7
 intro e w' q;exact q.mono (fun K' st' N' a q=>by obtain ⟨⟨s,is,e1,e2⟩,e3⟩:=q;exact ⟨r,n,s,is,rfl,e1,e2,e3⟩)
theorem Mu(h:E7 gd B ad bm i G K D st N w)(hE:J1 B ad m w)(hX:pw gd lo wC w)(kp:p8 wC p 46 [ptB bm])(hp:lo<=p)(hC:Q5 lo wC p (4,⟨#[68]⟩,65) c):rN gd B ad bm i w K st N (4,⟨#[68]⟩,65) c:=by
 obtain ⟨a,b,rfl,ka,kb⟩:=hC;refine ⟨_,_,rfl,(enters_of func98 zk rfl),fun ps x W v0 v1 v2 hx bq hb hS hV=> ?_⟩;obtain ⟨r,hr,rfl⟩:=RH hx;refine (Bf h hE hb hr hS rfl ((hX _ _ _ ka.1 ka.2).1 W hb) ((hX _ _ _ kb.1 kb.2).1 W hb) ((hX _ _ _ hp kp).1 W hb) (enters_of func65 zk rfl) (fun a=>a=Ge (oV (K r) 0) (oV (K r) 1) (oV (K r) 2) (oV (K r) 3)) (fun V c br ai iQ hR hRK hl fm=> ?_)).mono ?_
 ·refine NL V _ br v0 v1 v2 _ _ _ _ _ fm (fun U ah=>tM U c br (r:Int) (K r) (hR.later ah) zj) (fun U ah=> ?_);have l0:=At (K r) (show 0<4 by omega);have l1:=At (K r) (show 1<4 by omega);have l2:=At (K r) (show 2<4 by omega);have l3:=At (K r) (show 3<4 by omega);refine (Oz _ _ _ _ U (iQ.later ah).tab zj zj zj zj zj zj zj zj).mono ?_;rintro e w' ⟨rfl,hbt⟩;exact ⟨_,rfl,_,rfl,rfl,zi ah hbt⟩
 intro e w' q;exact q.mono (fun K' st' N' a q=>⟨r,rfl,q.1,q.2⟩)
end
theorem DJ{k}{sp} :∀ {l:Tbl},l.lookup k=some sp->(k,sp)∈l
 | [],h=>qa
 | (a,b)::l,h=>by
  rw [List.lookup_cons] at h;split at h
  ·simp_all
  exact uY _ (DJ h)
section
variable {gd:Nat→Option Obj} {B:Nat} {ad:qF} {m:Int} {bm i lo p:Nat} {G:qX} {K:qH} {D:Nat→List OpX} {st:qD} {N:qJ} {wC w W:qW} {c:Cmd}
theorem zbK(h:E7 gd B ad bm i G K D st N w)(hE:J1 B ad m w)(hX:pw gd lo wC w)(kp:p8 wC p 46 [ptB bm])(hp:lo<=p){k}{sp}(hl:tblAll.lookup k=some sp)(hC:Q5 lo wC p sp c):rN gd B ad bm i w K st N sp c/\sp.2.1.size<=50:=by
 have hm:=DJ hl;simp only [tblAll,wG,pM,rW,ZE,ZF,uX,ZP,or_false,Prod.mk.injEq] at hm
 rcases hm with ⟨_,rfl⟩ | ⟨_,rfl⟩ | ⟨_,rfl⟩ | ⟨_,rfl⟩ | ⟨_,rfl⟩ | ⟨_,rfl⟩ | ⟨_,rfl⟩ | ⟨_,rfl⟩ | ⟨_,rfl⟩ | ⟨_,rfl⟩ | ⟨_,rfl⟩ | ⟨_,rfl⟩ | ⟨_,rfl⟩ | ⟨_,rfl⟩ | ⟨_,rfl⟩ | ⟨_,rfl⟩ | ⟨_,rfl⟩ | ⟨_,rfl⟩
 ·exact ⟨Mu h hE hX kp hp hC,zo⟩
 ·exact ⟨Ue h hE hX kp hp hC,zo⟩
 ·exact ⟨UD h hE hX kp hp hC,zo⟩
 ·exact ⟨Tn h hE hX kp hp hC,zo⟩
 ·exact ⟨NK h hE hX kp hp hC,zo⟩
 ·exact ⟨zar h hE hX kp hp hC,zo⟩
 ·exact ⟨SK h hE hX kp hp hC,zo⟩
 ·exact ⟨Ur h hE hX kp hp hC,zo⟩
 ·exact ⟨Xa h hE hX kp hp hC,zo⟩
 ·exact ⟨Oh h hE hX kp hp hC,zo⟩
 ·exact ⟨Un h hE hX kp hp hC,zo⟩
 ·exact ⟨zb5 h hE hX kp hp hC,zo⟩
 ·exact ⟨WR h hE hX kp hp hC,zo⟩
 ·exact ⟨Th h hE hX kp hp hC,zo⟩
 ·exact ⟨QR h hE hX kp hp hC,zo⟩
 ·exact ⟨QD h hE hX kp hp hC,zo⟩
 ·exact ⟨UL h hE hX kp hp hC,zo⟩
 exact ⟨SB h hE hX kp hp hC,zo⟩
def zcL(gd:Nat->Option Obj)(B bm i:Nat)(w:qW)(E5:qY)(K:qH)(st:qD)(N:qJ)(e:Ending)(w':qW):Prop:=∃s,e= .returned (.string s)/\Aside (∃a K' st' N',s=⟨a.toArray⟩/\Got gd B bm i w K' st' N' w'/\LX E5 K st N K' st' N' a)
theorem SI(h:E7 gd B ad bm i G K D st N w)(hE:J1 B ad m w)(hX:pw gd lo wC w)(kp:p8 wC p 46 [ptB bm])(hp:lo<=p){S}(hT:J3 lo wC p S 18 tblAll)(hS:w.heap[S]? =wC.heap[S]?)(E5)(hsz:E5.size<=1000000):
  qC 15 #[.map (some S),.string E5] w (zcL gd B bm i w E5 K st N):=by
 obtain ⟨f,hM,hf⟩:=hT.map;have hM':=hM.same hS;obtain ⟨p0,ps,hw⟩:=Dy E5;have hsp:=IE E5 m w hsz hE.see.max
 have hall:∀u∈ox E5,u.size<=E5.size:=fun u hu=>Br _ _ _ u hu
 have hlen:=PL E5;rw [hw] at hsp hall hlen;have h0:p0.size<=maxLen:=uO (uO (hall p0 Zn) hsz) zo
 have bq:∀u∈ps,u.size<=1000000:=fun u hu=>uO (hall u (uY _ hu)) hsz
 have hf0:=hf p0.data.toList
 have bad:∀e w',Jw (ad 0) w e w'->(LX E5 K st N K st N (oh 1))->(∃told,e=qT #[.string told,.nilIface]/\Aside (∃a K' st' N',told=⟨a.toArray⟩/\Got gd B bm i w K' st' N' w'/\LX E5 K st N K' st' N' a))\/∃a s,e= .returned (.tuple #[.string ⟨#[]⟩,.iface 437 (.pointer (some a))])/\w'.cell? a=some (.string s)/\Aside (∃a K' st' N',s=⟨a.toArray⟩/\Got gd B bm i w K' st' N' w'/\LX E5 K st N K' st' N' a):=fun e w' q hl=>by
  obtain ⟨rfl,hb⟩:=q;exact .inr ⟨ad 0,_,rfl,mg hb.o (hE.txt 0 zj).1,oh 1,K,st,N,rfl,h.same hb.o,hl⟩
 refine NN w S E5 (fun s W'=>∃a K' st' N',s=⟨a.toArray⟩/\Got gd B bm i w K' st' N' W'/\LX E5 K st N K' st' N' a) ?_
 cases hl:tblAll.lookup p0.data.toList with
 | none=>
  rw [hl] at hf0;refine (OR w _ S 18 f E5 p0 ps hM' hsp h0 (ad 0) hE.err hf0).mono ?_
  grind [LX]
 | some sp=>
  rw [hl] at hf0;obtain ⟨c,hc,hC⟩:=hf0;obtain ⟨⟨fn,bs,rfl,eg,ae⟩,h50⟩:=zbK h hE hX kp hp hl hC
  have hz:2<=min 6 (E5.size+1):=by
   rcases Nat.eq_zero_or_pos E5.size with q | q
   ·have k1:=hall p0 Zn;have k2:p0.data.toList.length=p0.size:=zr;have k3:p0.data.toList= []:=Zg.1 zj;rw [k3] at hl
    cases hl
   omega
  refine (zaC w _ S 18 f E5 p0 ps hM' hsp h0 (ad 0) hE.err sp.2.1 fn bs hz hc h50 zM bq eg (fun x told ev w'=>zdm gd B ad bm i w (fun K' st' N' a=>zaM sp.2.2 x K st N K' st' N' a) told ev w') (fun x W v0 v1 v2 hx hb fm hV=>ae ps x W v0 v1 v2 hx bq hb fm hV)).mono ?_;rintro e w' (⟨hn,q⟩ | ⟨x,told,ev,hx,rfl,H⟩)
  ·grind [LX]
  obtain ⟨a,K',st',N',hG,hP,hk⟩:=H.o
  have hLX:LX E5 K st N K' st' N' a:=by
   unfold LX;rw [hw];dsimp only;rw [hl];dsimp only;rw [hx];exact hP
  rcases hk with ⟨rfl,rfl⟩ | ⟨cd,c1,c2,rfl,rfl,rfl⟩
  ·exact .inl ⟨_,rfl,a,K',st',N',rfl,hG,hLX⟩
  have ht:=hE.txt (cd - 1) zj;rw [show cd - 1+1=cd by omega] at ht
  have hGB:Below B w w':=by obtain ⟨_,_,_,q,_⟩:=hG;exact q
  exact .inr ⟨ad (cd - 1),⟨(oh cd).toArray⟩,by rw [mO zj],(hGB.cell ht.2).trans ht.1,oh cd,K',st',N',rfl,hG,hLX⟩
end
theorem Q5.acy{lo lo'}{w}{p}{x}{c}(h:Q5 lo w p x c)(fw:lo'<=lo):Q5 lo' w p x c:=by
 have hl:∀ {b t cs},KG lo w b t cs->KG lo' w b t cs:=fun q=>⟨uO fw q.1,q.2⟩
 obtain ⟨k,f,g⟩:=x
 unfold Q5 at h |-
 match k with
 | 0=>grind
 | 1=>grind
 | 2=>grind
 | 3=>grind
 | n+4=>grind
theorem J3.acy{lo lo'}{w}{p b n}{l}(h:J3 lo w p b n l)(fw:lo'<=lo):J3 lo' w p b n l:=by
 obtain ⟨f,h1,h2⟩:=h.map;refine ⟨f,h1,fun s=> ?_⟩;have:=h2 s
 cases e:l.lookup s with
 | none=>simp_all
 | some x=>rw [e] at this;obtain ⟨c,k1,k2⟩:=this;exact ⟨c,k1,k2.acy fw⟩
def VQ(w:qW)(L:List ByteArray)(e:Ending)(w':qW):Prop:=∃(v:Value) (tl:List qU) (K:qH) (st:qD) (K':qH) (st':qD) (N':qJ),e=qT #[v,.nilIface]/\Aside (LsX L K st [] K' st' N' tl/\(∀r,r<3->K r=fun _=>[])/\(∀r,r<3->st r=([],false,false,0))/\tl.length=L.length/\w'.ownsRow w.heap.size 9 1 v tl.length (sm tl)/\qL w w')
theorem Jq{ad}{m}(w)(hE:J1 w.heap.size ad m w)(so)(cap)(L)(hL:I7 w so L)(hn:L.length<=100)(hs:∀x∈L,x.size<=1000000):
  qC 6 #[.slice so L.length cap] w (VQ w L):=by
 have hnew:=UW (B:=w.heap.size) w 3 zj zj zg;have d0:decide ((L.length:Int)>100)=false:=zm;have d0':qlt 100 L.length=false:=zm
 have HM:Aside (J1 w.heap.size ad m w/\I7 w so L/\L.length<=100/\∀x∈L,x.size<=1000000):=⟨hE,hL,hn,hs⟩
 go_enter func6,ntmps6;go_wp2_with fail;refine hnew.mono ?_;rintro e w1 ⟨bm,rfl,K,st,hm1,hb1,hK,hst,hbm⟩;have hcm:=Fm (w1.alloc (.cells #[ptB bm] 46)) w1.heap.size
 have H1:Aside (q8 (fun _=>none) w.heap.size 3 bm K st [] w1/\qL w w1/\(∀r,r<3->K r=fun _=>[])/\(∀r,r<3->st r=([],false,false,0))):=⟨hm1,hb1,hK,hst⟩
 go_wp2_with fail;refine hcm.mono ?_;rintro e w3 ⟨S,hSl,rfl,H3⟩;obtain ⟨w2,hw2⟩:=za (w1.alloc (.cells #[ptB bm] 46));rw [<-hw2] at H3 hSl
 have hb2:qL w1 w2:=by rw [hw2];exact zh w1 _
 have kp2:p8 w2 w1.heap.size 46 [ptB bm]:=by rw [hw2];exact mq w1 [ptB bm] _
 have aJ:w2.heap.size=w1.heap.size+1:=by rw [hw2];simp
 obtain ⟨hT,hb3⟩:=H3.o;have hb13:=zi hb2 hb3;have hT':=hT.acy (lo':=w1.heap.size) zj;have kp3:=kp2.later hb3 zj;obtain ⟨gd,hgd⟩:=ze (gdN (fun _=>none) w1.heap.size w3)
 have cC:q8 gd w.heap.size 3 bm K st [] w3:=by rw [hgd.o];exact H1.o.1.u zg hb13
 have HC:Aside (J3 w1.heap.size w3 w1.heap.size S 18 tblAll/\p8 w3 w1.heap.size 46 [ptB bm]/\w1.heap.size<=S):=⟨hT',kp3,zj⟩
 have HI:r9 3 0 [] K (fun _=>[]) st []:=⟨(J5.start 3 _).congr (fun r hr x=>by rw [H1.o.2.2.1 r hr];rfl),fun r hr=>by rw [H1.o.2.2.2 r hr];exact QB,fun x hx=>ya,fun r hr=>by rw [H1.o.2.2.1 r hr];exact Cj⟩
 have HS:Aside (R7 gd w.heap.size 3 bm K st [] 9 qE [] w3/\qL w w3/\r9 3 0 [] K (fun _=>[]) st []):=⟨R7.bare _ cC,zi H1.o.2.1 hb13,HI⟩
 have HK:Aside ((∀r,r<3->K r=fun _=>[])/\(∀r,r<3->st r=([],false,false,0))):=⟨H1.o.2.2.1,H1.o.2.2.2⟩
 generalize bC:w1.heap.size=lo at HC hgd;go_wp2;go_loopg [8,29] L.length (fun kx s8 s29 wr=>∃(k:Nat) (ov:Value),ov=s8/\s29=qN k/\k<=L.length/\L.length - k<=kx/\Aside (∃(tl:List qU) (G':qX) (K':qH) (D':Nat->List OpX) (st':qD) (N':qJ),R7 gd w.heap.size 3 bm K' st' N' 9 ov (sm tl) wr/\qL w wr/\r9 3 k G' K' D' st' N'/\N'.length<=30/\LsX (L.take k) K st [] K' st' N' tl/\tl.length=k))
 case atStart=>exact ⟨0,_,rfl,rfl,uW _,uL _,[],[],K,fun _=>[],st,[],HS.o.1,HS.o.2.1,HS.o.2.2,zr,⟨rfl,rfl,rfl,rfl⟩,rfl⟩
 case round=>
  obtain ⟨k,ov,rfl,rfl,hk,aY,A⟩:=hrel;by_cases hlt:k<L.length
  ·have d1:qlt k L.length=true:=by simp;omega
   have dh:k<100:=by have:=HM.o.2.2.1;omega
   have wk:((k:Int)).toNat=k:=zj;have pk:(0:Int)<=(k:Int):=zj;have bk:(k:Int)<(L.length:Int):=zj;obtain ⟨tl,G1,K1,D1,st1,N1,hV,hb,hI1,gk,hR,dQ⟩:=A.o
   obtain ⟨x,hx⟩:∃x,Aside (L[k]? =some x):=⟨L[k],uJ hlt⟩
   obtain ⟨g,o,hso,hg,hc⟩:=HM.o.2.1 k x hx.o;subst hso;have c0:=(hb.cell (p:=(qA g (o+k))) hg).trans hc;have hEr:=HM.o.1.later hb
   have bK:pw (gdQ gd ov wr) lo w3 wr:=fun b t cs hlb gF=>by
    have e:gd b=some (.cells cs.toArray t (0,0)):=by rw [hgd.o];unfold gdN;rw [if_pos hlb];exact gF
    have hq:p8 wr b t cs:=hV.C9.held e;refine ⟨fun W hW=>hq.later hW hq.lt,?_⟩;unfold gdQ;split
    ·intro q;rw [show wr.heap[b]? =some (.cells cs.toArray t (0,0)) from hq] at q;cases q
    rw [e];intro q;cases q
   have iQ:wr.heap[S]? =w3.heap[S]? :=by
    have gy:=HC.o.1.lt
    have e:gd S=some w3.heap[S]:=by rw [hgd.o];unfold gdN;rw [if_pos HC.o.2.2];exact Yf gy
    rw [hV.C9.held e];exact (Yf gy).symm
   have hans:=SI (m:=m) (⟨hV.1,hI1,gk,hEr.G3,zj⟩:E7 (gdQ gd ov wr) w.heap.size ad bm k G1 K1 D1 st1 N1 wr) hEr bK HC.o.2.1 zg HC.o.1 iQ x (HM.o.2.2.2 x (uP hx.o))
   have HA:Aside (R7 gd w.heap.size 3 bm K1 st1 N1 9 ov (sm tl) wr/\qL w wr/\LsX (L.take k) K st [] K1 st1 N1 tl/\tl.length=k):=⟨hV,hb,hR,dQ⟩
   obtain ⟨u0,bI⟩:=za wr;subst bI;go_wp2_with fail;refine hans.mono ?_;rintro e w4 ⟨s,rfl,a,K2,st2,N2,rfl,hG,HX⟩;obtain ⟨G2,D2,jJ,hb4,hI4,lu⟩:=hG;have hV4:=HA.o.1.on jJ;have hB4:=uO HA.o.2.1.size hb4.size;obtain ⟨v',w6,ae,ho6,hg6,hv6⟩:=AO (S:=22) (T:=9) underlying22 JB zj rfl hV4.2.1 hB4 (by unfold sm;rw [Zh];have:=HA.o.2.2.2;omega) (ru ⟨a.toArray⟩) rfl 22
   have et:sm tl++ [ru ⟨a.toArray⟩]=sm (tl++ [a]):=by unfold sm;rw [ZL];rfl
   rw [et] at ho6
   have hV6:=hV4.adD (lS hg6) (by
    have:(sm (tl++ [a])).length=(sm tl).length+1:=by unfold sm;simp
    rw [this];exact ho6) (fun g hg=>hv6.elim (fun q=>.inl (q▸hg)) (fun q=>.inr (q g hg)))
   have hb6:=(HA.o.2.1.trans hb4).grown hg6 hB4 (fun k hk=>(hV4.2.1.lt k hk).1)
   have H6:Aside (R7 gd w.heap.size 3 bm K2 st2 N2 9 v' (sm (tl++ [a])) w6/\qL w w6/\r9 3 (k+1) G2 K2 D2 st2 N2/\N2.length<=30/\LsX (L.take (k+1)) K st [] K2 st2 N2 (tl++ [a])/\(tl++ [a]).length=k+1):=⟨hV6,hb6,hI4,lu,by
    rw [Zy,hx.o]
    exact HA.o.2.2.1.aa2 HX,by rw [uQ,HA.o.2.2.2];rfl⟩
   unfold ru at ae;go_wp2_with (at_builtin;refine Lib.wpList_append_run _ rfl _ _ _ _ rfl _ _ rfl rfl _ _ ae ?_);go_wp2;go_roundg (L.length - (k+1))
   case measure=>omega
   case rel=>exact ⟨k+1,v',rfl,zN,zj,uL _,tl++ [a],G2,K2,D2,st2,N2,H6.o⟩
  have d1:qlt k L.length=false:=by have:=HM.o.2.2.1;simp;omega
  obtain rfl:k=L.length:=zj;obtain ⟨tl,G1,K1,D1,st1,N1,hV,hb,hI1,gk,hR,dQ⟩:=A.o
  have H6:Aside (LsX L K st [] K1 st1 N1 tl/\(∀r,r<3->K r=fun _=>[])/\(∀r,r<3->st r=([],false,false,0))/\tl.length=L.length/\wr.ownsRow w.heap.size 9 1 ov tl.length (sm tl)/\qL w wr):=⟨by rw [Ym] at hR;exact hR,HK.o.1,HK.o.2,dQ,by have:=hV.2.1;unfold sm at this |-;rwa [Zh] at this,hb⟩
  go_wp2;go_ret2;exact ⟨ov,tl,K,st,K1,st1,N1,rfl,H6.o⟩
end
section
open RowKit Lib Go.Sort
open scoped Classical
theorem J1.up{B B'}{ad}{m}{w}(h:J1 B ad m w)(hB:B<=B')(hs:B'<=w.heap.size):J1 B' ad m w:=⟨h.G3.up hB hs,h.see,h.err,fun k hk=>⟨(h.txt k hk).1,uT (h.txt k hk).2 hB⟩,uO h.low hB⟩
theorem Gn(w:qW)(L):I7 (w.alloc (.cells (L.map ru).toArray 9)) (qS w.heap.size) L:=fun i x hx=>⟨w.heap.size,0,rfl,zr,by
 grind [YB,ru]⟩
def helloV:List ByteArray:=[⟨#[52]⟩,⟨#[56]⟩,⟨#[121,101,115]⟩,⟨#[52,32,105,110,32,48,32,97,59,32,52,32,116,101,120,116,32,120]⟩]
theorem PJ{B}{ad}{m}(w)(hE:J1 B ad m w)(hB:B<=w.heap.size):
  qC 5 #[] w (qR (.bool true) w):=by
 have hb0:qL w (w.alloc (.cells (helloL.map ru).toArray 9)):=zh w _;have ae:qC 6 #[qG w.heap.size 4 4] (w.alloc (.cells (helloL.map ru).toArray 9)) (VQ (w.alloc (.cells (helloL.map ru).toArray 9)) helloL):=Jq _ ((hE.later hb0).up (uO hB hb0.size) zg) (qS w.heap.size) 4 helloL (Gn w helloL) zo zo;have H0:Aside (qL w (w.alloc (.cells (helloL.map ru).toArray 9))):=hb0;unfold helloL ru at ae H0;simp only [ZS,YE] at ae H0;go_enter func5,ntmps5;go_wp2_with fail;refine ae.mono ?_;rintro e w1 ⟨v,tl,K,st,K',st',N',rfl,H⟩;obtain ⟨h1,h2,h3,h4,h5,h6⟩:=H.o;obtain rfl:=Ls h2 h3 h1;obtain ⟨ao,cap,rfl⟩:=mC h5;have hl1:=pC (L:=helloV) h5;have HB:Aside (qL w w1):=zi H0.o h6;have hb2:qL w1 (w1.alloc (.cells (helloV.map ru).toArray 9)):=zh w1 _
 have dJ:qC 12 #[.slice ao 4 cap,qG w1.heap.size 4 4] (w1.alloc (.cells (helloV.map ru).toArray 9)) fun e w'=>e= .returned (.bool true)/\qL (w1.alloc (.cells (helloV.map ru).toArray 9)) w':=Ev _ ao _ cap 4 helloV zo (hl1.later hb2) (Gn w1 helloV)
 have cX:Aside (qL w (w1.alloc (.cells (helloV.map ru).toArray 9))):=zi HB.o hb2;unfold helloV ru at dJ cX;simp only [ZS,YE] at dJ cX;rw [show helloA.length=4 from rfl];go_wp2_with fail;refine dJ.mono ?_;rintro e w2 ⟨rfl,hb3⟩;have H3:Aside (qL w w2):=zi cX.o hb3;go_wp2;go_ret;exact ⟨rfl,H3.o⟩
end
section
open RowKit Lib Go.Sort Maps
open scoped Classical
theorem zau{a}(w)(so)(n cap)(hn:100<n)(hm:n<9223372036854775808)(hE:w.cell? (qB 0)=some (.iface 437 (.pointer (some a)))):
  qC 6 #[.slice so n cap] w fun e w'=>e=qT #[qE,.iface 437 (.pointer (some a))]/\Aside (qL w w'):=by
 have d0:decide ((n:Int)>100)=true:=zm;have d0':qlt 100 n=true:=zm;have HB:Aside (qL w w):=uM _ w;go_enter func6,ntmps6;go_upto_region 2 with fail;go_region
 all_goals (go_wp2;go_ret2;exact ⟨rfl,HB.o.drew⟩)
end
section
open RowKit Lib Go.Sort
open scoped Classical
theorem Kw:(rO 1==(2:Int))=true:=zo
def zdo(l:qY)(a:qU):Prop:=a≠ []/\∀p ps,ox l=p::ps->tblAll.lookup p.data.toList=none->a=oh 1
theorem Ta{s:qY}(h:s.data.toList≠ []):s.toList.isEmpty=false:=by
 grind [Zu]
abbrev aao(g o:Nat)(Y:qY)(w w':qW):Prop:=w'.cell? (qA g o)=some (.string Y)/\qL w w'
theorem aao.drew{g o}{Y}{w w'}(h:aao g o Y w w'):aao g o Y w w'.drew:=⟨h.1,h.2.drew⟩
theorem aao.later{g o}{Y}{w w1 w2}(h:aao g o Y w w1)(hb:qL w1 w2):aao g o Y w w2:=⟨lO hb h.1,zi h.2 hb⟩
theorem CT{B}{ad}{m}(w)(hE:J1 B ad m w)(hEr:Q3 B ad w)(so)(cap)(L)(hL:I7 w so L)(hn:L.length<9223372036854775808)(hsz:∀x∈L,x.size<9223372036854775808):
  qC 3 #[.slice so L.length cap] w (qR (.bool true) w):=by
 have hB:=hE.G3.t.G3.size;have hhel:=PJ w hE hB
 have H0:Aside (J1 B ad m w/\Q3 B ad w/\I7 w so L/\L.length<9223372036854775808/\(∀x∈L,x.size<9223372036854775808)/\B<=w.heap.size):=⟨hE,hEr,hL,hn,hsz,hB⟩
 clear hE hEr hL hn hsz hB;go_enter func3,ntmps3;go_wp2_with fail;refine hhel.mono ?_;clear hhel;rintro e w1 ⟨rfl,hb1⟩;have HB1:Aside (qL w w1):=hb1;clear hb1;by_cases h110:110<L.length
 ·have d1:qlt 110 L.length=true:=by simp;omega
  have dr:decide (110<L.length)=true:=zm;go_wp2;go_ret;exact ⟨rfl,HB1.o⟩
 have d1:qlt 110 L.length=false:=zm;have dr:decide (110<L.length)=false:=zm;go_wp2;go_loopg [4,5] L.length (fun kx s4 s5 wr=>∃(k:Nat) (v:Value),v=s4/\s5=qN k/\k<=L.length/\L.length - k<=kx/\Aside (qL w wr/\wr.ownsRow w.heap.size 9 1 v k ((L.take k).map ru)/\∀x∈L.take k,x.size<=100))
 case atStart=>exact ⟨0,_,rfl,rfl,uW _,uL _,HB1.o,Zi _ _ _ _,zr⟩
 case round=>
  obtain ⟨k,v,rfl,rfl,hk,aY,A⟩:=hrel;by_cases hlt:k<L.length
  ·have aq:qlt k L.length=true:=by simp;omega
   have ek:((k:Int)).toNat=k:=zj;have pk:(0:Int)<=(k:Int):=zj;have bk:(k:Int)<(L.length:Int):=zj
   obtain ⟨x,hx⟩:∃x,Aside (L[k]? =some x):=⟨L[k],uJ hlt⟩
   obtain ⟨g,o,e1,hg,r1⟩:=H0.o.2.2.1 k x hx.o;subst e1;have z1:=mg A.o.1 r1;clear r1 hg;by_cases h100:100<x.size
   ·have d2:qlt 100 x.size=true:=by simp;omega
    have d2n:decide (100<x.size)=true:=zm;go_wp2;go_ret;exact ⟨rfl,A.o.1⟩
   have d2:qlt 100 x.size=false:=zm;have d2n:decide (100<x.size)=false:=zm;obtain ⟨v',w6,ae,ho6,hg6,-⟩:=AO (S:=22) (T:=9) underlying22 JB zj rfl A.o.2.1 A.o.1.size zj (ru x) rfl 22
   have et:(L.take k).map ru++ [ru x]=(L.take (k+1)).map ru:=by
    rw [Zy,hx.o,ZL];rfl
   rw [et] at ho6
   have H6:Aside (qL w w6/\w6.ownsRow w.heap.size 9 1 v' (k+1) ((L.take (k+1)).map ru)/\∀y∈L.take (k+1),y.size<=100):=⟨A.o.1.grown hg6 A.o.1.size (fun q hq=>(A.o.2.1.lt q hq).1),ho6,fun y hy=>by
    rw [Zy,hx.o] at hy
    rcases uV.1 hy with q | q
    ·exact A.o.2.2 y q
    ·simp at q
     subst q
     omega⟩
   clear A ho6 hg6 et;unfold ru at ae;go_wp2_with (at_builtin;refine Lib.wpList_append_run _ rfl _ _ _ _ rfl _ _ rfl rfl _ _ ae ?_);clear ae;go_wp2;go_roundg (L.length - (k+1))
   case measure=>omega
   case rel=>exact ⟨k+1,v',rfl,zN,zj,uL _,H6.o⟩
  have aq:qlt k L.length=false:=zm;obtain rfl:k=L.length:=zj;obtain ⟨ao,cp,hv⟩:=mC A.o.2.1;subst hv
  have HA:Aside (qL w wr/\I7 wr ao L/\∀x∈L,x.size<=100):=by
   have q:=A.o;rw [Ym] at q;exact ⟨q.1,pC q.2.1,q.2.2⟩
  clear A hk aY;have hEw:=(H0.o.1.later HA.o.1).up (uO H0.o.2.2.2.2.2 HA.o.1.size) zg;by_cases hmax:100<L.length
  ·have d3:qlt 100 L.length=true:=by simp;omega
   have d3n:decide (100<L.length)=true:=zm;have hEr1:=H0.o.2.1.later HA.o.1;have hno:=zau wr ao L.length cp hmax H0.o.2.2.2.1 hEr1.c1;go_wp2_with fail;refine hno.mono ?_;clear hno hEw hEr1;rintro e w7 ⟨rfl,HB7⟩;have hEr7:=(H0.o.2.1.later HA.o.1).later HB7.o;have hco:=Lk w7 hEr7 1 zj 2;rw [Kw] at hco;have H7:Aside (qL w w7):=zi HA.o.1 HB7.o;clear HB7 hEr7;go_wp2_with fail;refine hco.mono ?_;clear hco;rintro e w8 ⟨rfl,hb8⟩;have H8:Aside (qL w w8):=zi H7.o hb8;clear hb8;go_wp2;go_ret;exact ⟨rfl,H8.o⟩
  have d3:qlt 100 L.length=false:=zm;have d3n:decide (100<L.length)=false:=zm;have ae:=Jq wr hEw ao cp L HA.o.2.1 zj (fun x hx=>by have:=HA.o.2.2 x hx;omega);obtain ⟨u0,bI⟩:=za wr;subst bI;clear hEw;go_wp2_with fail;refine ae.mono ?_;clear ae;rintro e w7 ⟨v3,tl,K,st,K',st',N',rfl,H7⟩;obtain ⟨h1,_,_,h4,h5,h6⟩:=H7.o;obtain ⟨a3,c3,hv3⟩:=mC h5;subst hv3
  have HT:Aside (qL w w7/\I7 w7 a3 (tl.map mkT)/\∀(k:Nat) (l:qY) (a:qU),L[k]? =some l->tl[k]? =some a->zdo l a):=⟨zi HA.o.1 h6,LA h5 rfl,Vt h1⟩
  have HL:Aside (tl.length=L.length):=h4;rw [h4];clear H7 h1 h4 h5 h6;go_wp2;go_loopg [8] L.length (fun ky s8 wy=>∃k:Nat,s8=qN k/\k<=L.length/\L.length - k<=ky/\Aside (qL w7 wy))
  case atStart=>exact ⟨0,rfl,uW _,uL _,uM _ _⟩
  case round=>
   obtain ⟨k,rfl,hk,hky,A⟩:=hrel;by_cases hlt:k<L.length
   ·have hltz1:qlt k L.length=true:=by simp;omega
    have ek:((k:Int)).toNat=k:=zj;have pk:(0:Int)<=(k:Int):=zj;have bk:(k:Int)<(L.length:Int):=zj
    obtain ⟨x,hx⟩:∃x,Aside (L[k]? =some x):=⟨L[k],uJ hlt⟩
    obtain ⟨a,ha⟩:∃a,Aside (tl[k]? =some a):=⟨tl[k]'(by rw [HL.o];exact hlt),uJ _⟩
    obtain ⟨Y,hY⟩:∃Y:ByteArray,Aside (Y=⟨a.toArray⟩):=⟨_,rfl⟩
    have HY:Aside (zdo x a):=HT.o.2.2 k x a hx.o ha.o;have hYne:Y.toList.isEmpty=false:=Ta (by rw [hY.o];simpa using HY.o.1);have hBr:=zi HT.o.1 A.o;obtain ⟨g,o,e1,_,r1⟩:=H0.o.2.2.1 k x hx.o;subst e1;obtain ⟨g3,o3,e2,_,r3⟩:=HT.o.2.1 k Y (by rw [ZM,ha.o,hY.o];rfl);subst e2;have z1:=mg hBr r1;have z3:=lO A.o r3;have hx100:=HA.o.2.2 x (uP hx.o);have hcut:=Sp.ab4 x wr zj
    have HB:Aside (qL w7 wr/\wr.cell? (qA g3 (o3+k))=some (.string Y)):=⟨A.o,z3⟩
    obtain ⟨u1,cA⟩:=za wr;subst cA;clear A hBr r1 r3 z3 hx100;go_wp2_with fail;refine hcut.mono ?_;clear hcut z1;rintro e w8 ⟨v8,P,rfl,hP1,hP2,hP3⟩;obtain ⟨p0,ps,hw⟩:=Dy x;have hh:=MO hw
    obtain ⟨P0,Pr,rfl⟩:∃P0 Pr,P=P0::Pr:=by
     cases P with
     | nil=>exact absurd hP2.symm (pO _ _)
     | cons a b=>exact ⟨a,b,rfl⟩
    rw [<-hP2] at hh;simp only [ZS,List.head?_cons,Option.some.injEq] at hh;obtain ⟨a8,c8,hv8⟩:=mC hP1;subst hv8;obtain ⟨g8,o8,e8,_,r8⟩:=pC (L:=P0::Pr) hP1 0 P0 rfl;subst e8;rw [ZC] at r8;have gh:=MY P0 w8
    have H8:Aside (qL w7 w8/\w8.cell? (qA g3 (o3+k))=some (.string Y)/\P0.data.toList=p0.data.toList/\ox x=p0::ps):=⟨zi HB.o.1 hP3,lO hP3 HB.o.2,hh,hw⟩
    clear hP1 hP2 hP3 hh hw HB
    have b8:(0:Int)<((P0::Pr).length:Int):=by simp only [Za];omega
    generalize hPn:(P0::Pr).length=nP at b8;go_wp2_with fail;refine gh.mono ?_;clear gh r8;rintro e w9 ⟨f9,is9,rfl,H9⟩;obtain ⟨-,hi9,hw9⟩:=H9.o;subst hw9
    have HS:aao g3 (o3+k) Y w9 w9:=⟨H8.o.2.1,uM _ _⟩
    have HN:Aside (is9=false->Y=⟨(oh 1).toArray⟩):=fun q=>by
     have e:=hi9.1 q;rw [H8.o.2.2.1] at e;rw [hY.o,HY.o.2 p0 ps H8.o.2.2.2 e]
    obtain ⟨X,hX⟩:∃X:ByteArray,Aside (X=⟨(oh 1).toArray⟩):=⟨_,rfl⟩
    rw [<-hX.o] at HN
    have CE:Aside (∀W,qC 10 #[qI 1] W (qR (.string X) W)):=fun W=>by rw [hX.o];exact Ei W
    have hxx:=zdC X;clear H9 hi9 hX;obtain ⟨HS1,HS2⟩:=HS
    cases is9 with
    | true=>
     have H2:Aside (qL w7 w9):=H8.o.1;clear HN hxx HS2 CE H8;go_wp2;go_quiet (fail);go_wp2;go_roundg (L.length - (k+1))
     case measure=>omega
     case rel=>exact ⟨k+1,zN,zj,uL _,Go.below_drewN H2.o _⟩
    | false=>
     obtain rfl:=HN.o rfl;clear HN;go_wp2
     go_region_held3 (fun w'=>aao g3 (o3+k) Y w9 w')
      (first
       | assumption
       | exact aao.drew ⟨HS1,HS2⟩
       | exact aao.later yC yC)
      (first
       | (go_at_call 10;refine (CE.o _).mono ?_;rintro e w' ⟨rfl,hb⟩))
     have R2:aao g3 (o3+k) Y w9 w':=yC;have H2:Aside (qL w7 w'):=zi H8.o.1 R2.2;clear R2;go_wp2;go_roundg (L.length - (k+1))
     case measure=>omega
     case rel=>exact ⟨k+1,zN,zj,uL _,H2.o⟩
   have hltz1:qlt k L.length=false:=zm;have HE:Aside (qL w wr):=zi HT.o.1 A.o;clear A;go_wp2;go_ret;exact ⟨rfl,HE.o⟩
end
section
open ChangeShapes WideShapes ChangeAt RowKit Joins ChangeMaps
theorem SReads.I8:ownKnob prog.godebug=none:=zk
theorem SReads.acw:laidOutB prog=true:=zk
theorem SReads.abZ{W}(h:laidMetH prog Rows.scriptReadsRow.laid W)(cl:W.ShapedOpen prog):∃(ad:qF) (m:Int),J1 W.heap.size ad m W/\Q3 W.heap.size ad W:=by
 have h':laidMet prog I1 W/\handlesMet prog AW W:=h;have h1:laidMet prog Ek W:=h'.1;obtain ⟨ad,hE,hR⟩:=WF h1 h'.2 cl;obtain ⟨m,hS⟩:=zaf hE sents CI zo (Am _ wM _ h1)
 grind
theorem SReads.ac1{H}{enc}{C}{os}{f}{fn}{s}{apart fresh handsOn again}{X:World->Array Value->Prop}
  (hX:∀(w w':qW) (args:Array Value),w.heap=w'.heap->X w args->X w' args)
  (I8:ownKnob C.prog.godebug=none) (started:os.Started) (noInit:C.prog.inits.idxOf? f=none) (hfn:C.prog.funcs[f]? =some fn)
  (witness:∃(w:qW) (tape:Tape) (i:Input),w.os=os/\(w.forCall tape i).Shaped C.prog/\i.vars= []/\Input.okWide C.prog (w.forCall tape i) .any w.heap.size f i/\
   ((s.pre enc C.prog fn [] apart (w.forCall tape i).memory i.args/\X (w.forCall tape i).memory i.args)/\sizedMet enc C.prog fn (OpenSpec.ofChange s) apart (w.forCall tape i).memory i.args)/\({} :Assume).holds C.prog (lone (Frame.enter C.prog f i.args .normal) [] (w.forCall tape i)))
  (iS:∀(W:qW) (l9:Nat) (args:Array Value) (ds gs:List (DataW H)) (before:List MemPlace),
   (∀(j:Nat) t v,fn.params[j]? =some t->args[j]? =some v->Value.okWide C.prog W .any l9 t v)->
   DataW.Whole enc C.prog fn.params.toList s.vars apart W args.toList ds gs before->X W args->W.ShapedOpen C.prog->
   Calls C.prog f args W fun e W'=>∃v,e= .returned v/\s.post enc C.prog fn apart fresh handsOn again W args v W'):
  ReturnsInHanded {} C os f .any (fun w args=>(s.pre enc C.prog fn [] apart w args/\X w args)/\sizedMet enc C.prog fn (OpenSpec.ofChange s) apart w args) (s.post enc C.prog fn apart fresh handsOn again):=by
 refine returnsInHanded_of_calls I8 started noInit witness ?_;intro w tape i _ aab _ ok pre _;obtain ⟨-,-,-,g,hg,-,-,-,-,vals⟩:=ok;obtain rfl:g=fn:=Option.some.inj (hg.symm.trans hfn);obtain ⟨⟨⟨ds,gs,before,whole,-⟩,listed⟩,-⟩:=pre;refine (iS (w.forCall tape i) w.heap.size i.args ds gs before vals (DataW.Whole.of_heap (w':=w.forCall tape i) zt whole) (hX _ _ _ zt listed) aab).mono ?_
 grind [ChangeSpec.post_blind]
theorem SReads.ac4(os)(started:os.Started)(H)(enc:TypeId×Value->H):
  ReturnsInHanded {} Tryz.checked os 3 .any (fun w args=>(Rows.scriptReadsSpec.pre enc prog f3 [] false w args/\laidMetH prog Rows.scriptReadsRow.laid w)/\sizedMet enc prog f3 (OpenSpec.ofChange Rows.scriptReadsSpec) false w args)
   (Rows.scriptReadsSpec.post enc prog f3 false true false false):=by
 refine ac1 (C:=Tryz.checked) (X:=fun w _=>laidMetH prog Rows.scriptReadsRow.laid w) (fun _ _ _ hh h=>h.of_heap hh) I8 started zk func3
  (ChangeSpec.witness_shaped (enc:=enc) (C:=Tryz.checked) (os:=os) (X:=fun w _=>laidMetH prog Rows.scriptReadsRow.laid w) false ((World.doorLaid prog 400 os).layVars prog I1) #[qE] 8 (World.layVars_os _ _ _) (abT os _) zk zk zk (acE os _)) ?_
 intro W l9 args ds gs before hval0 hW hL cl;have hval:∀(j:Nat) t v,f3.params[j]? =some t->args[j]? =some v->Value.okWide prog W .any l9 t v:=hval0;have gR:=hW;obtain ⟨p,q,hA0,hV,rfl,kY,cq⟩:=hW;have hA:DataW.TrodAll enc prog W 0 (fun _=>true) true f3.params.toList args.toList ds p:=hA0;rw [params3] at hA hval;obtain ⟨z0,d0,rfl,rfl,h0⟩:=trodAll_one hA;obtain ⟨rfl,rfl⟩:=trodVars_none hV;obtain ⟨ao,D4,cap,rfl⟩:=okWide_slice underlying22 (hval 0 22 z0 rfl rfl);obtain ⟨xs,rfl,hmax,hX,cU⟩:=Qr h0;obtain ⟨ad,m,hE,hR⟩:=abZ hL cl
 have walk:=
  CT W hE hR ao cap xs hX (by simp only [maxLen] at hmax;omega) (fun x hx=>by have:=cU x hx;simp only [maxLen] at this;omega)
 refine walk.mono fun e W' ⟨he,hb⟩=> ?_
 subst he
 have hlt0:∀x∈p,x.block<W.heap.size:=fun x hx=>by simpa using gR.lt x (by simp [hx])
 refine ⟨_,rfl,_,_,_,[],p,[],gR,?_,?_,?_,hb.frame _,fun h=>qa⟩
 ·exact trodAll_mk1 (shut_bool underlying4 true)
 ·exact trodAll_mk1 (Below.trod acw zk (of_decide_eq_true zk) h0 hb hlt0)
 rfl
theorem SReads.adC:Rows.ScriptReadsSaid:=
 OpenClaim.holds_of_wide 3 f3 rfl rfl rfl rfl rfl rfl rfl ⟨rfl,rfl,rfl,rfl,rfl⟩ rfl rfl rfl rfl rfl zk func3 adc
  (of_decide_eq_true zk) (by unfold Func.isWrapper;first | (rw [if_pos yZ];kernel_rfl) | (rw [if_neg yZ];exact ⟨rfl,rfl⟩))
  (fun os started H enc _=>ac4 os started H enc)

end