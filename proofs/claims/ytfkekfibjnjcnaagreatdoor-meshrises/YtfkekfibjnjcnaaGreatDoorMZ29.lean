import Derived.Test.YtfkekfibjnjcnaaGreatDoorMZ26
import Derived.Test.YtfkekfibjnjcnaaGreatDoorMZ27
set_option linter.unusedSimpArgs false
set_option linter.unusedVariables false
namespace Go.Proofs.YtfkekfibjnjcnaaGreatDoor
open Go.Proofs.Tryz
variable {s v:ByteArray} {T nd o:Int} {i kd:Nat} {R:Rws}
section
open Go.RowKit Go.Lib Go.Sort Go.Maps
open scoped Classical
def Make1Out (ad:Nat->Addr) (w:World) (R:Rws) (i:Nat) (e:Ending) (w':World):Prop:=∃(y:OpX) (cd:Nat),e= .returned (.tuple #[encO y,eV ad cd])/\Aside (Below w.heap.size w w'/\cd<=12/\((cd≠0/\y=zeroO)\/(cd=0/\∃T,timeO (allR R) T/\NextOp R i T y)))
theorem known_two {S:List OpX} (h:∀x∈S,errO x=0) (k:KnownN S nd):2<=nd:=by
 obtain ⟨x,hx,k1,k2,k3⟩:=k
 have:=(err_refs (h x hx)).2.2.2.2.1 k1
 omega
theorem err_le (x:OpX):errO x<=5:=by
 unfold errO opE kindE moveE insE delE setE
 repeat (first | omega | split)
theorem atL_true {n:Int} {L:List Ltr} {id:Int} (h:atL n L=(id,true)):id∈L.map (·.1):=by
 unfold atL at h
 split at h
 ·split at h
  ·rename_i l hl
   cases h
   exact vV.2 ⟨l,(Zh.1 (vx hl)).1,rfl⟩
  cases h
 cases h
theorem next_own (he:errO (ownX T i (R i).length kd nd o s v)=0) (hr:RefOk (ownX T i (R i).length kd nd o s v::allR R) (ownX T i (R i).length kd nd o s v)):NextOp R i T (ownX T i (R i).length kd nd o s v):=⟨he,rfl,rfl,rfl,hr⟩
theorem own_node {m:Nat} (h:nd≠0):nodeO (ownX T i m kd nd o s v)=nd:=if_neg h
theorem made_out {ad:Nat->Addr} {w w':World} {x:OpX} {ok:Prop} {e:Ending} (h:MadeOut ad w ok x e w') (hT:timeO (allR R) T) (hF:errF x=errO x) (hx:ok->errO x=0->NextOp R i T x):Make1Out ad w R i e w':=by
 rcases h with ⟨h1,h2,h3⟩ | ⟨h1,h2,h3⟩
 ·rw [hF] at h2
  by_cases he:errO x=0
  ·rw [if_pos he,he] at h2
   exact ⟨x,0,h2,h3,zj,.inr ⟨rfl,T,hT,hx h1 he⟩⟩
  rw [if_neg he] at h2
  exact ⟨zeroO,errO x,h2,h3,by have:=err_le x;omega,.inl ⟨he,rfl⟩⟩
 exact ⟨zeroO,6,h2,h3,zj,.inl ⟨zj,rfl⟩⟩
section
variable {B:Nat} {ad:Nat→Addr} (w:World) (c:Nat→Nat) (br:Nat) (i:Nat) (R:Rws)
theorem m_make (into:Int) (name:ByteArray) (h:RepOwn B w c br (i:Int) R) (hE:EnvT B ad w) (hi:i<4) (hT:∀T,timeO (allR R) T->T<1073741824) (hn:(allR R).length<=140) (hs1:name.size<=1000000) (h2: -9223372036854775808<=into) (h3:into<=9223372036854775807):
  Calls prog 98 #[.pointer (some ⟨br,0,none⟩),.int .i64 into,.string name] w (Make1Out ad w R i):=by
 obtain ⟨T,kv,bt,bx,bc,A,hm,hp,ht⟩:=h.rep.time
 obtain ⟨ao,cap,hM⟩:=hm.norm
 refine (make_any w c br T i ao cap bt bx bc R into name hM.cell hM.rows h.wellK hE.env hi ht.2.2 (Zk (hT T ht)) hn hs1 h2 h3).mono fun e w' q=>made_out q ht (errF_own (hT T ht)) (fun ok he=>next_own he ?_)
 refine ⟨.inl ⟨rfl,rfl⟩,fun _=>ok.imp id (fun q=>q.imp id (fun q=>q.mono (fun x hx=>vF _ hx))),fun q=> ?_⟩
 rcases q with ⟨q,_⟩ | q<;>exact absurd q ji
theorem m_mark (nd:Int) (name value:ByteArray) (h:RepOwn B w c br (i:Int) R) (hE:EnvT B ad w) (hi:i<4) (hT:∀T,timeO (allR R) T->T<1073741824) (hn:(allR R).length<=140) (hs1:name.size<=1000000) (hs2:value.size<=1000000) (h2: -9223372036854775808<=nd) (h3:nd<=9223372036854775807):
  Calls prog 103 #[.pointer (some ⟨br,0,none⟩),.int .i64 nd,.string name,.string value] w (Make1Out ad w R i):=by
 obtain ⟨T,kv,bt,bx,bc,A,hm,hp,ht⟩:=h.rep.time
 obtain ⟨ao,cap,hM⟩:=hm.norm
 refine (mark_any w c br T i ao cap bt bx bc R nd name value hM.cell hM.rows h.wellK hE.env hi ht.2.2 (Zk (hT T ht)) hn hs1 hs2 h2 h3).mono fun e w' q=>made_out q ht (errF_own (hT T ht)) (fun ok he=>next_own he ?_)
 have hnd:=known_two h.wellK.well.ok ok
 refine ⟨.inr ?_,fun q=>absurd q (by show ¬(115=_);decide),fun q=> ?_⟩
 ·rw [own_node zj]
  exact ok.mono (fun x hx=>vF _ hx)
 rcases q with ⟨q,_⟩ | q<;>exact absurd q (by show ¬(115=_);decide)
theorem m_erase (nd n:Int) (h:RepOwn B w c br (i:Int) R) (hE:EnvT B ad w) (hi:i<4) (hT:∀T,timeO (allR R) T->T<1073741824) (hn:(allR R).length<=140) (h2: -9223372036854775808<=nd) (h3:nd<=9223372036854775807) (h4: -9223372036854775808<=n) (h5:n<=9223372036854775807):
  Calls prog 102 #[.pointer (some ⟨br,0,none⟩),.int .i64 nd,.int .i64 n] w (Make1Out ad w R i):=by
 obtain ⟨T,kv,bt,bx,bc,A,hm,hp,ht⟩:=h.rep.time
 obtain ⟨ao,cap,hM⟩:=hm.norm
 refine (erase_any w c br T i ao cap bt bx bc R A nd n hM.cell hM.text hp hE.env hi ht.2.2 (Zk (hT T ht)) hn h2 h3 h4 h5).mono fun e w' q=> ?_
 obtain ⟨a,⟨a1,a2⟩,q⟩:=q
 refine made_out q ht (errF_own (hT T ht)) (fun ok he=>next_own he ?_)
 have hk:KnownN A nd:=by
  by_cases hk:KnownN A nd
  ·exact hk
  rw [a1 hk] at ok;cases ok
 obtain ⟨L,hL,ea⟩:=a2 hk
 have hl:LetterN A nd a.1:=hL.mem.1 (atL_true (n:=n) (by rw [<-ea,<-ok]))
 have hk':=(knownN_perm hp nd).1 hk
 have hnd:=known_two h.wellK.well.ok hk'
 refine ⟨.inr ?_,fun q=>absurd q (by show ¬(100=_);decide),fun _=> ?_⟩
 ·rw [own_node zj]
  exact hk'.mono (fun x hx=>vF _ hx)
 rw [own_node zj]
 exact hl.mono (fun x hx=>vF _ (hp.mem_iff.1 hx))
theorem m_write (nd n:Int) (ch:UInt8) (h:RepOwn B w c br (i:Int) R) (hE:EnvT B ad w) (hi:i<4) (hT:∀T,timeO (allR R) T->T<1073741824) (hn:(allR R).length<=140) (h2: -9223372036854775808<=nd) (h3:nd<=9223372036854775807) (h4: -9223372036854775808<=n) (h5:n<=9223372036854775807):
  Calls prog 100 #[.pointer (some ⟨br,0,none⟩),.int .i64 nd,.int .i64 n,.int .u8 (ch.toNat:Int)] w (Make1Out ad w R i):=by
 obtain ⟨T,kv,bt,bx,bc,A,hm,hp,ht⟩:=h.rep.time
 obtain ⟨ao,cap,hM⟩:=hm.norm
 refine (write_any w c br T i ao cap bt bx bc R A nd n ch hM.cell hM.rows hM.text hp h.wellK hE.env hi ht.2.2 (Zk (hT T ht)) hn h2 h3 h4 h5).mono fun e w' q=> ?_
 obtain ⟨a,hw,q⟩:=q
 refine made_out q ht (errF_own (hT T ht)) (fun ok he=>next_own he ?_)
 have hkl:KnownN A nd/\(0<a.1->LetterN A nd a.1):=by
  rcases hw with ⟨_,q2,q3⟩ | ⟨_,a1,a2⟩
  ·exact ⟨q3.1 ok,fun q=>zj⟩
  have hk:KnownN A nd:=by
   by_cases hk:KnownN A nd
   ·exact hk
   rw [a1 hk] at ok;cases ok
  obtain ⟨L,hL,ea⟩:=a2 hk
  exact ⟨hk,fun _=>hL.mem.1 (atL_true (n:=n - 1) (by rw [<-ea,<-ok]))⟩
 have hk':=(knownN_perm hp nd).1 hkl.1
 have hnd:=known_two h.wellK.well.ok hk'
 refine ⟨.inr ?_,fun q=>absurd q (by show ¬(105=_);decide),fun q=> ?_⟩
 ·rw [own_node zj]
  exact hk'.mono (fun x hx=>vF _ hx)
 rw [own_node zj]
 refine (hkl.2 ?_).mono (fun x hx=>vF _ (hp.mem_iff.1 hx))
 rcases q with ⟨_,q⟩ | q
 ·exact q
 exact absurd q (by show ¬(105=_);decide)
theorem m_move (nd into:Int) (name:ByteArray) (h:RepOwn B w c br (i:Int) R) (hE:EnvT B ad w) (hcy:Aside (Cyc ad)) (hi:i<4) (hT:∀T,timeO (allR R) T->T<1073741824) (hn:(allR R).length<=140) (hs1:name.size<=1000000) (h2: -9223372036854775808<=nd) (h3:nd<=9223372036854775807) (h4: -9223372036854775808<=into) (h5:into<=9223372036854775807):
  Calls prog 99 #[.pointer (some ⟨br,0,none⟩),.int .i64 nd,.int .i64 into,.string name] w (Make1Out ad w R i):=by
 obtain ⟨T,kv,bt,bx,bc,A,hm,hp,ht⟩:=h.rep.time
 obtain ⟨ao,cap,hM⟩:=hm.norm
 obtain ⟨bm,tv,ms,hTA,hms,-⟩:=hM.tree
 obtain ⟨nm,hnm,hMap⟩:=hTA.map
 have t0:=hTA.cell.c0
 refine (rmove_any w c br T i ao cap bt bx bc bm nm (madeBy ms) R nd into name hM.cell hM.rows t0 hMap hTA.good h.wellK hE.env hcy hi ht.2.2 (Zk (hT T ht)) hn hs1 h2 h3 h4 h5).mono fun e w' q=> ?_
 obtain ⟨hb,q⟩:=q
 rw [errF_own (hT T ht)] at q
 rcases q with ⟨_,q⟩ | ⟨ok,he,q⟩ | ⟨_,_,_,q⟩ | ⟨ok,he,_,q⟩
 ·exact ⟨zeroO,6,q,hb,zj,.inl ⟨zj,rfl⟩⟩
 ·exact ⟨zeroO,_,q,hb,by have:=err_le (ownX T i (R i).length 109 nd into name ⟨#[]⟩);omega,.inl ⟨he,rfl⟩⟩
 ·exact ⟨zeroO,10,q,hb,zj,.inl ⟨zj,rfl⟩⟩
 refine ⟨_,0,q,hb,zj,.inr ⟨rfl,T,ht,next_own he ?_⟩⟩
 have hnd:=known_two h.wellK.well.ok ok.1
 refine ⟨.inr ?_,fun _=>ok.2.imp id (fun q=>q.imp id (fun q=>q.mono (fun x hx=>vF _ hx))),fun q=> ?_⟩
 ·rw [own_node zj]
  exact ok.1.mono (fun x hx=>vF _ hx)
 rcases q with ⟨q,_⟩ | q<;>exact absurd q ji
end
theorem first_byte (v:ByteArray) (h:v.size≠0):∃ch:UInt8,∀w:World,(Instr.index 9 (.string v) (.int .i64 0)).run prog w= .ok (.int .u8 (ch.toNat:Int)) w:=by
 have hv:0<v.size:=zj
 have hv':(0:Int)<(v.size:Int):=zj
 refine ⟨v[0],fun w=> ?_⟩
 have:=hv
 go_simp
