import Derived.Test.YtebpcnkdhgnghaaGreatDoorPA32
set_option linter.unusedSimpArgs false
set_option linter.unusedVariables false
namespace Go.Proofs.YtebpcnkdhgnghaaGreatDoor
open Go.Proofs.Tryz
variable {e:Ending} {T n nd:Int} {b:Int×Bool} {A S:List OpX} {i:Nat} {ad:Nat→Addr} {x y:OpX} {a a':OpX×Nat} {R:Rws} {w w':World}
section
open Go Go.RowKit Go.Lib Go.Sort Go.Maps
open scoped Classical
def MkOut (ad:Nat->Addr) (w:World) (Q:OpX->Nat->Prop) (e:Ending) (w':World):Prop:=∃(y:OpX) (cd:Nat),e= .returned (.tuple #[ar y,eV ad cd])/\Aside (Below w.heap.size w w'/\Q y cd)
def AnsC (ok:Bool) (cyc:Prop) (x:OpX) (a:OpX×Nat):Prop:=(ok=false/\a=(aT,6))\/(ok=true/\dU x≠0/\a=(aT,dU x))\/(ok=true/\dU x=0/\cyc/\a=(aT,10))\/(ok=true/\dU x=0/\¬cyc/\a=(x,0))
theorem AnsC.one {ok:Bool} {cyc:Prop} (h:AnsC ok cyc x a) (h':AnsC ok cyc x a'):a=a':=by
 rcases h with ⟨h1,rfl⟩ | ⟨h1,h2,rfl⟩ | ⟨h1,h2,h3,rfl⟩ | ⟨h1,h2,h3,rfl⟩<;>rcases h' with ⟨k1,rfl⟩ | ⟨k1,k2,rfl⟩ | ⟨k1,k2,k3,rfl⟩ | ⟨k1,k2,k3,rfl⟩
 all_goals first
  | rfl
  | exact absurd (h1.symm.trans k1) zo
  | exact absurd k2 h2
  | exact absurd h2 k2
  | exact absurd k3 h3
  | exact absurd h3 k3
def chO (v:ByteArray):UInt8:=v.data.toList.headD 0
def EraseAt (A:List OpX) (nd n:Int) (a:Int×Bool):Prop:=(¬KnownN A nd->a=(0,false))/\(KnownN A nd->∃L,LineIs A nd L/\a=atL n L)
def MkIs (A:List OpX) (T:Int) (i n:Nat) (x:OpX) (a:OpX×Nat):Prop:=
 (kdO x=109/\aG x=0/\a=mU (CH A (aF x)) (bE T i n 109 0 (aF x) x.2.2.2.2.2.2.1 ⟨#[]⟩))\/
 (kdO x=109/\aG x≠0/\∃ms,ms.Perm (eu A)/\bL ms/\AnsC (fW A (aG x) &&CH A (aF x)) (aF x=aG x\/Ins (aH ms) (aF x) (aG x)) (bE T i n 109 (aG x) (aF x) x.2.2.2.2.2.2.1 ⟨#[]⟩) a)\/
 (kdO x=105/\∃b:Int×Bool,WriteAt A (aG x) (aF x) b/\a=mU b.2 (bE T i n 105 (aG x) b.1 ⟨#[]⟩ ⟨#[chO x.2.2.2.2.2.2.2]⟩))\/
 (kdO x=100/\∃b:Int×Bool,EraseAt A (aG x) (aF x) b/\a=mU b.2 (bE T i n 100 (aG x) b.1 ⟨#[]⟩ ⟨#[]⟩))\/
 (kdO x≠109/\kdO x≠105/\kdO x≠100/\a=mU (fW A (aG x)) (bE T i n 115 (aG x) 0 x.2.2.2.2.2.2.1 x.2.2.2.2.2.2.2))
theorem WriteAt.perm {A S:List OpX} {nd n:Int} {a:Int×Bool} (w:WriteAt A nd n a) (h:A.Perm S):WriteAt S nd n a:=by
 have hk:=gE h nd
 rcases w with ⟨q1,q2,q3⟩ | ⟨q1,q2,q3⟩
 ·exact .inl ⟨q1,q2,q3.trans hk⟩
 refine .inr ⟨q1,fun k=>q2 (fun q=>k (hk.1 q)),fun k=> ?_⟩
 obtain ⟨L,hL,e⟩:=q3 (hk.2 k)
 exact ⟨L,hL.perm h,e⟩
theorem EraseAt.perm {A S:List OpX} {nd n:Int} {a:Int×Bool} (w:EraseAt A nd n a) (h:A.Perm S):EraseAt S nd n a:=by
 have hk:=gE h nd
 refine ⟨fun k=>w.1 (fun q=>k (hk.1 q)),fun k=> ?_⟩
 obtain ⟨L,hL,e⟩:=w.2 (hk.2 k)
 exact ⟨L,hL.perm h,e⟩
theorem WriteAt.one {a:Int×Bool} (h:WriteAt A nd n a) (k:WriteAt A nd n b):a=b:=by
 rcases h with ⟨q1,q2,q3⟩ | ⟨q1,q2,q3⟩<;>rcases k with ⟨r1,r2,r3⟩ | ⟨r1,r2,r3⟩
 ·exact Prod.ext (by rw [q2,r2]) (Bool.eq_iff_iff.2 (q3.trans r3.symm))
 ·exact absurd q1 r1
 ·exact absurd r1 q1
 by_cases hk:KnownN A nd
 ·obtain ⟨L,hL,e⟩:=q3 hk
  obtain ⟨M,hM,e'⟩:=r3 hk
  rw [e,e',hL.unique hM]
 rw [q2 hk,r2 hk]
theorem EraseAt.one {a:Int×Bool} (h:EraseAt A nd n a) (k:EraseAt A nd n b):a=b:=by
 by_cases hk:KnownN A nd
 ·obtain ⟨L,hL,e⟩:=h.2 hk
  obtain ⟨M,hM,e'⟩:=k.2 hk
  rw [e,e',hL.unique hM]
 rw [h.1 hk,k.1 hk]
theorem mQ {ms ms':List Mov} (h:bL ms) (h':bL ms') (e:ms.Perm ms'):ms=ms':=by
 unfold bL at h h'
 refine List.Perm.eq_of_pairwise ?_ h h' e
 intro a b _ _ h1 h2
 exact absurd (iz h1 h2) nX
theorem MkIs.one {A:List OpX} {T:Int} {i n:Nat} {x:OpX} {a a':OpX×Nat} (h:MkIs A T i n x a) (k:MkIs A T i n x a'):a=a':=by
 rcases h with ⟨q1,q2,q3⟩ | ⟨q1,q2,ms,q3,q4,q5⟩ | ⟨q1,b,q2,q3⟩ | ⟨q1,b,q2,q3⟩ | ⟨q1,q2,q3,q4⟩<;>rcases k with ⟨r1,r2,r3⟩ | ⟨r1,r2,ns,r3,r4,r5⟩ | ⟨r1,c,r2,r3⟩ | ⟨r1,c,r2,r3⟩ | ⟨r1,r2,r3,r4⟩
 all_goals first
  | exact q3.trans r3.symm
  | exact absurd q2 r2
  | exact absurd r2 q2
  | (have e:=mQ q4 r4 (q3.trans r3.symm);subst e;exact q5.one r5)
  | (have e:=q2.one r2;subst e;exact q3.trans r3.symm)
  | exact q4.trans r4.symm
  | exact absurd q1 r1
  | exact absurd r1 q1
  | (exfalso;omega)
theorem kj {ok:Prop} {okB:Bool} (h:mD ad w ok x e w') (hb:okB=true↔ok):MkOut ad w (fun y cd=>(y,cd)=mU okB x) e w':=by
 rcases h with ⟨h1,h2,h3⟩ | ⟨h1,h2,h3⟩
 ·have e1:=hb.2 h1
  subst e1
  refine ⟨_,_,h2,h3,?_⟩
  unfold mU
  rw [if_neg zo]
  by_cases he:dU x=0
  ·rw [if_pos he,if_pos he,he]
  rw [if_neg he,if_neg he]
 have e1:okB=false:=by
  cases okB with
  | false=>rfl
  | true=>exact absurd (hb.1 rfl) h1
 subst e1
 exact ⟨_,_,h2,h3,rfl⟩
theorem MkOut.imp {P Q:OpX->Nat->Prop} (h:MkOut ad w P e w') (k:∀y cd,P y cd->Q y cd):MkOut ad w Q e w':=by
 obtain ⟨y,cd,e1,e2⟩:=h
 exact ⟨y,cd,e1,e2.o.1,k y cd e2.o.2⟩
theorem Iq {v:ByteArray} (h:v.size=0):chO v=0:=by
 unfold chO
 have:v.data.toList= []:=by
  have h2:v.data.size=0:=h
  exact ve.1 (by simpa using h2)
 rw [this]
 rfl
theorem Hd (v:ByteArray) (h:v.size≠0):∀w:World,(Instr.index 9 (.string v) (.int .i64 0)).run prog w= .ok (.int .u8 ((chO v).toNat:Int)) w:=by
 intro w
 have hv:0<v.size:=zj
 have hv':(0:Int)<(v.size:Int):=zj
 have e:chO v=v[0]:=by
  unfold chO
  have h2:0<v.data.size:=hv
  have h3:v.data.toList[0]? =some v[0]:=by
   rw [Zb,vG h2]
   rfl
  cases hh:v.data.toList with
  | nil=>rw [hh] at h3;cases h3
  | cons a t=>rw [hh] at h3;simp at h3;rw [<-h3];rfl
 rw [e]
 go_simp
section
variable {B:Nat} {ad:Nat→Addr} (w:World) (c:Nat→Nat) (br:Nat) (i:Nat) (R:Rws) (T:Int)
theorem NG (into:Int) (name:ByteArray) (h:RepOwn B w c br (i:Int) R) (hE:EnvT B ad w) (hi:i<4) (hT:cD (aX R) T) (hm:T<=1073741824) (hn:(aX R).length<=250) (hs1:name.size<=1000000) (h2: -9223372036854775808<=into) (h3:into<=9223372036854775807):
  Calls prog 315 #[.pointer (some ⟨br,0,none⟩),.int .i64 into,.string name] w (MkOut ad w (fun y cd=>(y,cd)=mU (CH (aX R) into) (bE T i (R i).length 109 0 into name ⟨#[]⟩))):=by
 obtain ⟨T',kv,bt,bx,bc,A,hm',hp,ht⟩:=h.rep.time
 obtain rfl:T'=T:=cM ht hT
 obtain ⟨ao,cap,hM⟩:=hm'.norm
 exact (JX w c br T' i ao cap bt bx bc R into name hM.cell hM.rows h.wellK hE.env hi ht.2.2 hm hn hs1 h2 h3).mono fun e w' q=>kj q plcB_iff
theorem Ns (nd:Int) (name value:ByteArray) (h:RepOwn B w c br (i:Int) R) (hE:EnvT B ad w) (hi:i<4) (hT:cD (aX R) T) (hm:T<=1073741824) (hn:(aX R).length<=250) (hs1:name.size<=1000000) (hs2:value.size<=1000000) (h2: -9223372036854775808<=nd) (h3:nd<=9223372036854775807):
  Calls prog 320 #[.pointer (some ⟨br,0,none⟩),.int .i64 nd,.string name,.string value] w (MkOut ad w (fun y cd=>(y,cd)=mU (fW (aX R) nd) (bE T i (R i).length 115 nd 0 name value))):=by
 obtain ⟨T',kv,bt,bx,bc,A,hm',hp,ht⟩:=h.rep.time
 obtain rfl:T'=T:=cM ht hT
 obtain ⟨ao,cap,hM⟩:=hm'.norm
 exact (Hi w c br T' i ao cap bt bx bc R nd name value hM.cell hM.rows h.wellK hE.env hi ht.2.2 hm hn hs1 hs2 h2 h3).mono fun e w' q=>kj q knownB_iff
theorem Kh (nd n:Int) (h:RepOwn B w c br (i:Int) R) (hE:EnvT B ad w) (hi:i<4) (hT:cD (aX R) T) (hm:T<=1073741824) (hn:(aX R).length<=250) (h2: -9223372036854775808<=nd) (h3:nd<=9223372036854775807) (h4: -9223372036854775808<=n) (h5:n<=9223372036854775807):
  Calls prog 319 #[.pointer (some ⟨br,0,none⟩),.int .i64 nd,.int .i64 n] w (MkOut ad w (fun y cd=>∃b:Int×Bool,EraseAt (aX R) nd n b/\(y,cd)=mU b.2 (bE T i (R i).length 100 nd b.1 ⟨#[]⟩ ⟨#[]⟩))):=by
 obtain ⟨T',kv,bt,bx,bc,A,hm',hp,ht⟩:=h.rep.time
 obtain rfl:T'=T:=cM ht hT
 obtain ⟨ao,cap,hM⟩:=hm'.norm
 refine (Ep w c br T' i ao cap bt bx bc R A nd n hM.cell hM.text hp hE.env hi ht.2.2 hm hn h2 h3 h4 h5).mono fun e w' q=> ?_
 obtain ⟨a,⟨a1,a2⟩,q⟩:=q
 exact (kj (okB:=a.2) q Iff.rfl).imp (fun y cd hy=>⟨a,EraseAt.perm ⟨a1,a2⟩ hp,hy⟩)
theorem LM (nd n:Int) (ch:UInt8) (h:RepOwn B w c br (i:Int) R) (hE:EnvT B ad w) (hi:i<4) (hT:cD (aX R) T) (hm:T<=1073741824) (hn:(aX R).length<=250) (h2: -9223372036854775808<=nd) (h3:nd<=9223372036854775807) (h4: -9223372036854775808<=n) (h5:n<=9223372036854775807):
  Calls prog 317 #[.pointer (some ⟨br,0,none⟩),.int .i64 nd,.int .i64 n,.int .u8 (ch.toNat:Int)] w (MkOut ad w (fun y cd=>∃b:Int×Bool,WriteAt (aX R) nd n b/\(y,cd)=mU b.2 (bE T i (R i).length 105 nd b.1 ⟨#[]⟩ ⟨#[ch]⟩))):=by
 obtain ⟨T',kv,bt,bx,bc,A,hm',hp,ht⟩:=h.rep.time
 obtain rfl:T'=T:=cM ht hT
 obtain ⟨ao,cap,hM⟩:=hm'.norm
 refine (DQ w c br T' i ao cap bt bx bc R A nd n ch hM.cell hM.rows hM.text hp h.wellK hE.env hi ht.2.2 hm hn h2 h3 h4 h5).mono fun e w' q=> ?_
 obtain ⟨a,hw,q⟩:=q
 exact (kj (okB:=a.2) q Iff.rfl).imp (fun y cd hy=>⟨a,hw.perm hp,hy⟩)
theorem NC (nd into:Int) (name:ByteArray) (h:RepOwn B w c br (i:Int) R) (hE:EnvT B ad w) (hcy:Aside (Cyc ad)) (hi:i<4) (hT:cD (aX R) T) (hm:T<=1073741824) (hn:(aX R).length<=250) (hs1:name.size<=1000000) (h2: -9223372036854775808<=nd) (h3:nd<=9223372036854775807) (h4: -9223372036854775808<=into) (h5:into<=9223372036854775807):
  Calls prog 316 #[.pointer (some ⟨br,0,none⟩),.int .i64 nd,.int .i64 into,.string name] w (MkOut ad w (fun y cd=>∃ms,ms.Perm (eu (aX R))/\bL ms/\AnsC (fW (aX R) nd &&CH (aX R) into) (into=nd\/Ins (aH ms) into nd) (bE T i (R i).length 109 nd into name ⟨#[]⟩) (y,cd))):=by
 obtain ⟨T',kv,bt,bx,bc,A,hm',hp,ht⟩:=h.rep.time
 obtain rfl:T'=T:=cM ht hT
 obtain ⟨ao,cap,hM⟩:=hm'.norm
 obtain ⟨bm,tv,ms,hTA,hms,-⟩:=hM.tree
 obtain ⟨nm,hnm,hMap⟩:=hTA.map
 have t0:=hTA.cell.c0
 refine (FU w c br T' i ao cap bt bx bc bm nm (aH ms) R nd into name hM.cell hM.rows t0 hMap hTA.good h.wellK hE.env hcy hi ht.2.2 hm hn hs1 h2 h3 h4 h5).mono fun e w' q=> ?_
 obtain ⟨hb,q⟩:=q
 have hok:(fW (aX R) nd &&CH (aX R) into)=true↔KnownN (aX R) nd/\(into=0\/into=1\/KnownN (aX R) into):=by
  rw [uk,knownB_iff,plcB_iff]
 have hno:¬(KnownN (aX R) nd/\(into=0\/into=1\/KnownN (aX R) into))->(fW (aX R) nd &&CH (aX R) into)=false:=fun k=>by
  cases hz:(fW (aX R) nd &&CH (aX R) into) with
  | false=>rfl
  | true=>exact absurd (hok.1 hz) k
 have hpm:=hms.trans (hp.filterMap _)
 rcases q with ⟨ok,q⟩ | ⟨ok,he,q⟩ | ⟨ok,he,cy,q⟩ | ⟨ok,he,cy,q⟩
 ·exact ⟨aT,6,q,hb,ms,hpm,hTA.by_,.inl ⟨hno ok,rfl⟩⟩
 ·exact ⟨aT,_,q,hb,ms,hpm,hTA.by_,.inr (.inl ⟨hok.2 ok,he,rfl⟩)⟩
 ·exact ⟨aT,10,q,hb,ms,hpm,hTA.by_,.inr (.inr (.inl ⟨hok.2 ok,he,cy,rfl⟩))⟩
 exact ⟨_,0,q,hb,ms,hpm,hTA.by_,.inr (.inr (.inr ⟨hok.2 ok,he,cy,rfl⟩))⟩
end
end
section
open Go Go.RowKit Go.Lib Go.Sort Go.Maps
open scoped Classical
theorem Hb {ok:Bool} {cd:Nat} (h:(y,cd)=mU ok x) (hc:cd=0):ok=true/\dU x=0/\y=x:=by
 unfold mU at h
 split at h
 ·cases h;cases hc
 rename_i q
 split at h
 ·rename_i r
  cases h
  exact ⟨by cases ok;exact absurd rfl q;rfl,r,rfl⟩
 rename_i r
 cases h
 exact absurd hc r
theorem og {ok:Bool} (h:(y,0)=mU ok x) (hx:x.1<=1073741824->True):ok=true/\bY x=0/\y=x:=by
 obtain ⟨h1,h2,h3⟩:=Hb h rfl
 refine ⟨h1,?_,h3⟩
 unfold dU at h2
 split at h2
 ·cases h2
 exact h2
theorem EW (h:dU x=0):bY x=0:=by
 unfold dU at h
 split at h
 ·cases h
 exact h
theorem GZ (hR:RowsK R) (h:MkIs (aX R) T i (R i).length x (y,0)):NextOp R i T y:=by
 have up:∀ {nd:Int},KnownN (aX R) nd->KnownN (y::aX R) nd:=fun q=>q.mono (fun z hz=>vf _ hz)
 rcases h with ⟨_,_,h⟩ | ⟨_,_,ms,_,_,h⟩ | ⟨_,b,hb,h⟩ | ⟨_,b,hb,h⟩ | ⟨_,_,_,h⟩
 ·obtain ⟨h1,h2,rfl⟩:=og h (fun _=>trivial)
  refine iO h2 ⟨.inl ⟨rfl,rfl⟩,fun _=>(plcB_iff.1 h1).imp id (fun q=>q.imp id up),fun q=> ?_⟩
  rcases q with ⟨q,_⟩ | q<;>exact absurd q (by show ¬(109=_);decide)
 ·rcases h with ⟨_,e⟩ | ⟨_,q,e⟩ | ⟨_,_,_,e⟩ | ⟨h1,h2,_,e⟩
  ·cases e
  ·have:=congrArg Prod.snd e
   exact absurd this.symm q
  ·cases e
  cases e
  rw [uk,knownB_iff,plcB_iff] at h1
  have hnd:=iP hR.well.ok h1.1
  refine iO (EW h2) ⟨.inr ?_,fun _=>h1.2.imp id (fun q=>q.imp id (fun q=>q.mono (fun z hz=>vf _ hz))),fun q=> ?_⟩
  ·rw [iT zj]
   exact h1.1.mono (fun z hz=>vf _ hz)
  rcases q with ⟨q,_⟩ | q<;>exact absurd q (by show ¬(109=_);decide)
 ·obtain ⟨h1,h2,rfl⟩:=og h (fun _=>trivial)
  have hkl:KnownN (aX R) (aG x)/\(0<b.1->LetterN (aX R) (aG x) b.1):=by
   rcases hb with ⟨_,q2,q3⟩ | ⟨_,a1,a2⟩
   ·exact ⟨q3.1 h1,fun q=>zj⟩
   have hk:KnownN (aX R) (aG x):=by
    by_cases hk:KnownN (aX R) (aG x)
    ·exact hk
    rw [a1 hk] at h1;cases h1
   obtain ⟨L,hL,ea⟩:=a2 hk
   exact ⟨hk,fun _=>hL.mem.1 (AA (n:=aF x - 1) (by rw [<-ea,<-h1]))⟩
  have hnd:=iP hR.well.ok hkl.1
  refine iO h2 ⟨.inr ?_,fun q=>absurd q (by show ¬(105=_);decide),fun q=> ?_⟩
  ·rw [iT zj]
   exact hkl.1.mono (fun z hz=>vf _ hz)
  rw [iT zj]
  refine (hkl.2 ?_).mono (fun z hz=>vf _ hz)
  rcases q with ⟨_,q⟩ | q
  ·exact q
  exact absurd q (by show ¬(105=_);decide)
 ·obtain ⟨h1,h2,rfl⟩:=og h (fun _=>trivial)
  have hk:KnownN (aX R) (aG x):=by
   by_cases hk:KnownN (aX R) (aG x)
   ·exact hk
   rw [hb.1 hk] at h1;cases h1
  obtain ⟨L,hL,ea⟩:=hb.2 hk
  have hl:LetterN (aX R) (aG x) b.1:=hL.mem.1 (AA (n:=aF x) (by rw [<-ea,<-h1]))
  have hnd:=iP hR.well.ok hk
  refine iO h2 ⟨.inr ?_,fun q=>absurd q (by show ¬(100=_);decide),fun _=> ?_⟩
  ·exact kn1
  rw [iT zj]
  exact hl.mono (fun z hz=>vf _ hz)
 obtain ⟨h1,h2,rfl⟩:=og h (fun _=>trivial)
 have hk:=knownB_iff.1 h1
 have hnd:=iP hR.well.ok hk
 refine iO h2 ⟨.inr ?_,fun q=>absurd q (by show ¬(115=_);decide),fun q=> ?_⟩
 ·exact kn1
 rcases q with ⟨q,_⟩ | q<;>exact absurd q (by show ¬(115=_);decide)
theorem Dd (x:OpX):dU x<=12:=by
 have:=En x
 unfold dU
 split<;>omega
theorem pS (ok:Bool) (x:OpX):(mU ok x).2<=12:=by
 have:=Dd x
 unfold mU
 split
 ·show 6<=12;omega
 split
 ·show 0<=12;omega
 exact this
theorem MX {n:Nat} (h:MkIs A T i n x a):a.2<=12:=by
 rcases h with ⟨_,_,h⟩ | ⟨_,_,ms,_,_,h⟩ | ⟨_,b,_,h⟩ | ⟨_,b,_,h⟩ | ⟨_,_,_,h⟩
 ·rw [h];exact pS _ _
 ·rcases h with ⟨_,e⟩ | ⟨_,_,e⟩ | ⟨_,_,_,e⟩ | ⟨_,_,_,e⟩
  ·rw [e];show 6<=12;omega
  ·rw [e]
   exact Dd _
  ·rw [e];show 10<=12;omega
  rw [e];show 0<=12;omega
 ·rw [h];exact pS _ _
 ·rw [h];exact pS _ _
 rw [h];exact pS _ _
theorem ga {ok:Bool} (h:a=mU ok x) (hc:a.2≠0):a.1=aT:=by
 rw [h] at hc |-
 unfold mU at hc |-
 split
 ·rfl
 split
 ·rename_i h1 h2
  rw [if_neg h1,if_pos h2] at hc
  exact absurd rfl hc
 rfl
theorem FN {n:Nat} (h:MkIs A T i n x a) (hc:a.2≠0):a.1=aT:=by
 rcases h with ⟨_,_,h⟩ | ⟨_,_,ms,_,_,h⟩ | ⟨_,b,_,h⟩ | ⟨_,b,_,h⟩ | ⟨_,_,_,h⟩
 ·exact ga h hc
 ·rcases h with ⟨_,e⟩ | ⟨_,_,e⟩ | ⟨_,_,_,e⟩ | ⟨_,_,_,e⟩
  ·rw [e]
  ·rw [e]
  ·rw [e]
  rw [e] at hc;exact absurd rfl hc
 ·exact ga h hc
 ·exact ga h hc
 exact ga h hc
theorem Do (hok:∀x∈A,bY x=0) (h:cD A T):0<=T/\T<=1073741824:=by
 refine ⟨h.2.2,?_⟩
 rcases h.2.1 with e | ⟨x,hx,e⟩
 ·omega
 have:=(ax (hok x hx)).2.1
 omega
end
section
open Go Go.RowKit Go.Lib Go.Sort Go.Maps
open scoped Classical
structure MkF (w:World) (S0:Nat) (x:OpX) (W:World):Prop where
 x:OpBlk W S0 x
 z:OpBlk W (S0+1) aT
 b:Below w.heap.size w W
end
section
open Go Go.RowKit Go.Lib Go.Sort Go.Maps
open scoped Classical
end
section
open Go Go.RowKit Go.Lib Go.Sort Go.Maps
open scoped Classical
end
section
open Go Go.RowKit Go.Lib Go.Sort Go.Maps
open scoped Classical
end
section
open Go Go.RowKit Go.Lib Go.Sort Go.Maps
open scoped Classical
end
section
open Go Go.RowKit Go.Lib Go.Sort Go.Maps
open scoped Classical
end
section
open Go Go.RowKit Go.Lib Go.Sort Go.Maps
open scoped Classical
end
section
open Go Go.RowKit Go.Lib Go.Sort Go.Maps
open scoped Classical
end
section
open Go Go.RowKit Go.Lib Go.Sort Go.Maps
open scoped Classical
end
section
open Go Go.RowKit Go.Lib Go.Sort Go.Maps
open scoped Classical
structure No (R:Rws) (S:List OpX):Prop where
 perm:S.Perm (aX R)
 sort:S.Pairwise (fun a b=>CLt (stO a) (stO b))
theorem Lf (h:No R S) (hR:RowsK R) (hi:i<4):Oh S i=(R i).length:=by
 unfold Oh
 rw [h.perm.countP_eq]
 have hc:∀j,j<4->(R j).countP (fun x=>decide (byO x=(i:Int)))=if j=i then (R j).length else 0:=fun j hj=>by
  by_cases e:j=i
  ·subst e
   rw [if_pos rfl,List.countP_eq_length]
   intro x hx
   obtain ⟨k,_,q,_⟩:=hR.num.get hj hx
   exact decide_eq_true q
  rw [if_neg e,List.countP_eq_zero]
  intro x hx
  obtain ⟨k,_,q,_⟩:=hR.num.get hj hx
  simp [q]
  omega
 unfold aX
 rw [List.countP_append,List.countP_append,List.countP_append,hc 0 zj,hc 1 zj,hc 2 zj,hc 3 zj]
 have h4:i=0\/i=1\/i=2\/i=3:=zj
 rcases h4 with rfl | rfl | rfl | rfl<;>simp
