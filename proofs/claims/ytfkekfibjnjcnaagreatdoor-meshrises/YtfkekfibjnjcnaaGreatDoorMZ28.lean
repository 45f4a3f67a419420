import Derived.Test.YtfkekfibjnjcnaaGreatDoorMZ27
set_option linter.unusedSimpArgs false
set_option linter.unusedVariables false
namespace Go.Proofs.YtfkekfibjnjcnaaGreatDoor
variable {st:DSt} {D F S' l:List OpX} {B a b bm d j k n p q r:Nat} {ow:Nat→Nat} {gd gd':Nat→Option Obj} {K:Nat→Rws} {o:Obj} {x:OpX} {R R':Rws} {fv pv v:Value} {w w' w1:World}
section
open Go
open scoped Classical
theorem text_short (h:errJ x=0):(textO x).length<=150:=by
 obtain ⟨t,b,n,k,nd,o,s,v⟩:=x
 have h':opE t b n k nd o s.data.toList v.data.toList=0:=h
 obtain ⟨h1,h2,h3,h4,h5,h6,hk,h7,h8,h9,h10,-,hn,hv⟩:=opE_zero h'
 have e1:=Lib.itoa_length_le t zj zj
 have e2:=Lib.itoa_length_le b zj zj
 have e3:=Lib.itoa_length_le n zj zj
 have e4:=Lib.itoa_length_le nd zj zj
 have e5:=Lib.itoa_length_le o zj zj
 have e6:=hexL_length v.data.toList
 unfold textO opTextL
 simp only [joinP,vw,vH,vT]
 omega
theorem recs_short (h:∀x∈D,errJ x=0):(recsL D).length<=160*D.length:=by
 induction D with
 | nil=>simp [recsL]
 | cons x l ih=>
  have h1:=ih (fun y hy=>h y xq)
  have h2:=text_short (h x zm)
  show (recL (textO x)++recsL l).length<=_
  rw [vw,recL_len,vH]
  omega
def DiskI (st:DSt) (D:List OpX):Prop:=(∀x∈D,errJ x=0)/\((st.2.1=false/\st.1=recsL D)\/(st.2.1=true/\st.2.2.1=false/\∃r,st.1=recsL D++r/\r.length<=160/\readR r=none))
theorem DiskI.len (h:DiskI st D):st.1.length<=160*D.length+160:=by
 have h1:=recs_short h.1
 rcases h.2 with ⟨_,hB⟩ | ⟨_,_,r,hB,hr,_⟩
 ·rw [hB];omega
 rw [hB,vw];omega
theorem DiskI.app (h:DiskI st D) (hl:0<=st.2.2.2) (hD:D.length<=300) (he:errJ x=0):((appE st x).1=0/\st.2.1=false/\(appE st x).2.2.1=false/\DiskI (appE st x).2 (D++ [x]))\/((appE st x).1=11/\(appE st x).2.2.1=true/\DiskI (appE st x).2 D):=by
 have hlen:=h.len
 have htx:=text_short he
 have hrl:=recL_len (textO x)
 obtain ⟨B,off,waits,left⟩:=st
 dsimp only at hl hlen
 obtain ⟨h0,h⟩:=h
 unfold appE
 rw [if_neg (fun q=>q he),if_neg zR]
 have hok:∀y∈D++ [x],errJ y=0:=fun y hy=>by
  rcases vv.1 hy with q | q
  ·exact h0 y q
  rw [vA.1 q];exact he
 rcases h with ⟨h1,hB⟩ | ⟨h1,h2,r,hB,hr1,hr2⟩
 ·dsimp only at h1 hB
  subst h1
  cases waits with
  | false=>
   rw [wrAll_free]
   dsimp only
   rw [if_pos rfl]
   exact .inl ⟨rfl,rfl,rfl,hok,.inl ⟨rfl,by rw [recs_snoc,hB]⟩⟩
  | true=>
   obtain ⟨n,rfl⟩:∃n:Nat,left=(n:Int):=⟨left.toNat,zj⟩
   rw [wrAll_on]
   by_cases hn:(recL (textO x)).length<=n
   ·rw [if_pos hn]
    dsimp only
    rw [if_pos rfl]
    exact .inl ⟨rfl,rfl,rfl,hok,.inl ⟨rfl,by rw [recs_snoc,hB]⟩⟩
   rw [if_neg hn]
   dsimp only
   rw [if_neg zm]
   refine .inr ⟨rfl,rfl,h0,.inr ⟨rfl,rfl,(recL (textO x)).take n,by rw [hB],?_,readR_cut he zj⟩⟩
   rw [vP]
   omega
 dsimp only at h1 h2 hB
 subst h1
 subst h2
 obtain ⟨c,r',hc⟩:=recL_ne (textO x)
 rw [hc,wrAll_off]
 dsimp only
 rw [if_neg zm]
 exact .inr ⟨rfl,rfl,h0,.inr ⟨rfl,rfl,r,hB,hr1,hr2⟩⟩
theorem DiskI.back (h:DiskI st D):(readL_ st.1).1=D/\DiskI (backSt st) D/\(backSt st).2.1=false:=by
 have h1:readL_ st.1=(D,(recsL D).length):=by
  rcases h.2 with ⟨_,hB⟩ | ⟨_,_,r,hB,_,hr⟩
  ·rw [hB];exact readA_nil D h.1
  rw [hB];exact readA_recs D r h.1 hr
 refine ⟨by rw [h1],⟨h.1,.inl ⟨rfl,?_⟩⟩,rfl⟩
 unfold backSt
 rw [h1]
 dsimp only
 rcases h.2 with ⟨_,hB⟩ | ⟨_,_,r,hB,_,hr⟩
 ·rw [hB,vG zg]
 rw [hB,List.take_left]
theorem DiskI.cut (h:DiskI st D) (n:Int):DiskI (cutSt st n) D/\(cutSt st n).2.1=st.2.1:=by
 unfold cutSt
 split
 ·rename_i e
  refine ⟨⟨h.1,?_⟩,rfl⟩
  rcases h.2 with ⟨h1,h2⟩ | ⟨h1,_⟩
  ·exact .inl ⟨h1,h2⟩
  exfalso
  unfold cutE at e
  rw [h1] at e
  split at e
  ·cases e
  simp at e
 exact ⟨h,rfl⟩
theorem diskI_new:DiskI ([],false,false,0) []:=⟨fun x hx=>zO,.inl ⟨rfl,rfl⟩⟩
theorem well_ahead {S:List OpX} (hS:WellK S) (hS':WellK S') (hsub:∀x∈S,x∈S') (hF:ByTime F) (hm:∀x,x∈F↔x∈S'/\x∉S) (k:Nat):WellK (S++F.take k):=by
 have up:∀x,x∈S++F.take k->x∈S':=fun x hx=>by
  rcases vv.1 hx with q | q
  ·exact hsub x q
  exact ((hm x).1 (uz q)).1
 have ahead:∀x,x∈F.take k->∀y,y∈S'->idO y<=idO x->y∈S++F.take k:=fun x hx y hy hle=>by
  by_cases hyS:y∈S
  ·exact vN _ hyS
  have hyF:=(hm y).2 ⟨hy,hyS⟩
  have hx':=(hm x).1 (uz hx)
  refine ub _ ?_
  by_cases e:idO y=idO x
  ·rw [hS'.stamp hy hx'.1 (idO_eq (hS'.ok y hy) (hS'.ok x hx'.1) e)];exact hx
  exact take_down hF hx hyF (idO_lt (hS'.ok y hy) (hS'.ok x hx'.1) zj)
 have le_id:∀x y,x∈S'->y∈S'->CLt (stO y) (stO x)->idO y<=idO x:=fun x y hx hy h=>by
  have a:=opE_zero (hS'.ok x hx)
  have b:=opE_zero (hS'.ok y hy)
  unfold CLt stO at h
  unfold idO
  dsimp only at h
  omega
 have mono:∀x,x∈S->x∈S++F.take k:=fun x hx=>vN _ hx
 refine ⟨fun x hx=>hS'.ok x (up x hx),fun x hx y hy=>hS'.one x (up x hx) y (up y hy),fun x hx=> ?_,fun x hx y hy=>hS'.rise x (up x hx) y (up y hy),fun x hx=> ?_⟩
 ·rcases vv.1 hx with q | q
  ·exact (hS.gap x q).imp id (fun ⟨y,hy,e⟩=>⟨y,mono y hy,e⟩)
  rcases hS'.gap x (up x hx) with e | ⟨y,hy,e1,e2⟩
  ·exact .inl e
  exact .inr ⟨y,ahead x q y hy (le_id x y (up x hx) hy (hS'.rise y hy x (up x hx) e1 e2)),e1,e2⟩
 rcases vv.1 hx with q | q
 ·exact (hS.refs x q).mono mono
 obtain ⟨r1,r2,r3⟩:=hS'.refs x (up x hx)
 have hz:=opE_zero (hS'.ok x (up x hx))
 have hn:nodeO x<=idO x:=hz.2.2.2.2.2.2.2.2.1
 have hoo:otherO x<=idO x:=hz.2.2.2.2.2.2.2.2.2.2.1
 have kn:∀nd,nd<=idO x->KnownN S' nd->KnownN (S++F.take k) nd:=fun nd hn ⟨m,hm,q1,q2,q3⟩=>⟨m,ahead x q m hm zj,q1,q2,q3⟩
 have ln:∀nd id,id<=idO x->LetterN S' nd id->LetterN (S++F.take k) nd id:=fun nd id hn ⟨m,hm,q1,q2,q3⟩=>⟨m,ahead x q m hm zj,q1,q2,q3⟩
 exact ⟨r1.imp id (kn _ hn),fun e=>(r2 e).imp id (fun q=>q.imp id (kn _ hoo)),fun e=>ln _ _ hoo (r3 e)⟩
structure MInv (n i:Nat) (G:List OpX) (S D:Nat->List OpX) (off:Nat->Bool):Prop where
 one:∀x∈G,∀y∈G,byO x=byO y->numO x=numO y->x=y
 ok:∀x∈G,errO x=0
 nodup:G.Nodup
 len:G.length<=i
 time:∀x∈G,x.1<=(i:Int)
 own:∀x∈G,∃r:Nat,r<n/\byO x=(r:Int)/\x∈D r
 sub:∀r,r<n->∀x∈S r,x∈G
 disk:∀r,r<n->∀x∈D r,x∈S r
 on:∀r,r<n->off r=false->∀x∈S r,x∈D r
 well:∀r,r<n->WellK (S r)
 dwell:∀r,r<n->WellK (D r)/\(D r).Nodup
section
variable {n i:Nat} {G:List OpX} {S D:Nat→List OpX} {off:Nat→Bool}
theorem MInv.start (n:Nat) (off:Nat->Bool):MInv n 0 [] (fun _=>[]) (fun _=>[]) off:=
 ⟨fun x hx=>zO,fun x hx=>zO,Zj,vm _,fun x hx=>zO,fun x hx=>zO,fun _ _ x hx=>zO,fun _ _ x hx=>zO,fun _ _ _ x hx=>zO,fun _ _=>wellK_nil,fun _ _=>⟨wellK_nil,Zj⟩⟩
theorem MInv.up (h:MInv n i G S D off) (hij:i<=j):MInv n j G S D off:=
 ⟨h.one,h.ok,h.nodup,vr h.len hij,fun x hx=>by have:=h.time x hx;omega,h.own,h.sub,h.disk,h.on,h.well,h.dwell⟩
theorem MInv.mine (h:MInv n i G S D off) {r:Nat} {x:OpX} (hx:x∈G) (e:byO x=(r:Int)):x∈D r:=by
 obtain ⟨q,hq,e1,e2⟩:=h.own x hx
 have:q=r:=zj
 subst this
 exact e2
theorem MInv.slen (h:MInv n i G S D off) (hr:r<n) (hn:(S r).Nodup):(S r).length<=i:=vr (len_sub hn (fun x hx=>h.sub r hr x hx)) h.len
theorem MInv.dlen (h:MInv n i G S D off) (hr:r<n):(D r).length<=i:=vr (len_sub (h.dwell r hr).2 (fun x hx=>h.sub r hr x (h.disk r hr x hx))) h.len
theorem MInv.compat (h:MInv n i G S D off) {A C:List OpX} (hA:∀x∈A,x∈G) (hC:∀x∈C,x∈G):Compat A C:=fun x hx y hy=>h.one x (hA x hx) y (hC y hy)
theorem MInv.dark (h:MInv n i G S D off) {off':Nat->Bool} (ho:∀r,r<n->off' r=false->off r=false):MInv n i G S D off':=
 ⟨h.one,h.ok,h.nodup,h.len,h.time,h.own,h.sub,h.disk,fun r hr e=>h.on r hr (ho r hr e),h.well,h.dwell⟩
theorem MInv.congr (h:MInv n i G S D off) {S':Nat->List OpX} (e:∀r,r<n->∀x,x∈S r↔x∈S' r):MInv n i G S' D off:=
 ⟨h.one,h.ok,h.nodup,h.len,h.time,h.own,fun r hr x hx=>h.sub r hr x ((e r hr x).2 hx),fun r hr x hx=>(e r hr x).1 (h.disk r hr x hx),fun r hr o x hx=>h.on r hr o x ((e r hr x).2 hx),fun r hr=>(h.well r hr).congr (e r hr),h.dwell⟩
theorem MInv.put (h:MInv n i G S D off) {a:Nat} {S' D':List OpX} {o:Bool} (hS:∀x∈S',x∈G) (hD:∀x∈D',x∈S') (hk:∀x∈G,byO x=(a:Int)->x∈D') (ho:o=false->∀x∈S',x∈D') (hw:WellK S') (hd:WellK D') (hn:D'.Nodup):MInv n i G (setAt S a S') (setAt D a D') (setAt off a o):=by
 refine ⟨h.one,h.ok,h.nodup,h.len,h.time,fun x hx=> ?_,fun r hr x hx=> ?_,fun r hr x hx=> ?_,fun r hr e x hx=> ?_,fun r hr=> ?_,fun r hr=> ?_⟩
 ·obtain ⟨q,hq,e1,e2⟩:=h.own x hx
  refine ⟨q,hq,e1,?_⟩
  by_cases e:q=a
  ·subst e;rw [setAt_is];exact hk x hx e1
  rw [setAt_ne _ _ e];exact e2
 ·by_cases e:r=a
  ·subst e;rw [setAt_is] at hx;exact hS x hx
  rw [setAt_ne _ _ e] at hx;exact h.sub r hr x hx
 ·by_cases e:r=a
  ·subst e;rw [setAt_is] at hx |-;exact hD x hx
  rw [setAt_ne _ _ e] at hx |-;exact h.disk r hr x hx
 ·by_cases q:r=a
  ·subst q;rw [setAt_is] at hx e |-;exact ho e x hx
  rw [setAt_ne _ _ q] at hx e |-;exact h.on r hr e x hx
 ·by_cases e:r=a
  ·subst e;rw [setAt_is];exact hw
  rw [setAt_ne _ _ e];exact h.well r hr
 by_cases e:r=a
 ·subst e;rw [setAt_is];exact ⟨hd,hn⟩
 rw [setAt_ne _ _ e];exact h.dwell r hr
theorem MInv.made (h:MInv n i G S D off) {a:Nat} (ha:a<n) {x:OpX} {S':List OpX} (hon:off a=false) (hb:byO x=(a:Int)) (ht:x.1<=(i:Int)+1) (hw:WellK (x::S a)) (hnew:∀y∈S a,byO y=byO x->numO y<numO x) (hm:∀y,y∈S'↔y=x\/y∈S a):MInv n (i+1) (G++ [x]) (setAt S a S') (setAt D a (D a++ [x])) (setAt off a false):=by
 have hxG:∀y∈G,byO y=byO x->numO y<numO x:=fun y hy e=>hnew y (h.disk a ha y (h.mine hy (e.trans hb))) e
 have hx1:∀y∈G,y≠x:=fun y hy e=>by have:=hxG y hy (by rw [e]);rw [e] at this;omega
 have hD:∀y,y∈D a++ [x]↔y∈x::S a:=fun y=>by
  rw [vv,vA,vz]
  constructor
  ·rintro (q | q)
   ·exact .inr (h.disk a ha y q)
   exact .inl q
  rintro (q | q)
  ·exact .inr q
  exact .inl (h.on a ha hon y q)
 refine ⟨fun y hy z hz e1 e2=> ?_,fun y hy=> ?_,?_,?_,fun y hy=> ?_,fun y hy=> ?_,fun r hr y hy=> ?_,fun r hr y hy=> ?_,fun r hr e y hy=> ?_,fun r hr=> ?_,fun r hr=> ?_⟩
 ·rcases vv.1 hy with p | p<;>rcases vv.1 hz with q | q
  ·exact h.one y p z q e1 e2
  ·rw [vA.1 q] at e1 e2;have:=hxG y p e1;omega
  ·rw [vA.1 p] at e1 e2;have:=hxG z q e1.symm;omega
  rw [vA.1 p,vA.1 q]
 ·rcases vv.1 hy with p | p
  ·exact h.ok y p
  rw [vA.1 p];exact hw.ok x vW
 ·rw [uf]
  refine ⟨h.nodup,zm,fun y hy z hz=> ?_⟩
  rw [vA.1 hz]
  exact hx1 y hy
 ·rw [vw];have:=h.len;simp;omega
 ·rcases vv.1 hy with p | p
  ·have:=h.time y p;omega
  rw [vA.1 p];omega
 ·rcases vv.1 hy with p | p
  ·obtain ⟨q,hq,e1,e2⟩:=h.own y p
   refine ⟨q,hq,e1,?_⟩
   by_cases e:q=a
   ·subst e;rw [setAt_is];exact vN _ e2
   rw [setAt_ne _ _ e];exact e2
  rw [vA.1 p]
  exact ⟨a,ha,hb,by rw [setAt_is];simp⟩
 ·by_cases e:r=a
  ·subst e
   rw [setAt_is] at hy
   rcases (hm y).1 hy with q | q
   ·rw [q];simp
   exact vN _ (h.sub r hr y q)
  rw [setAt_ne _ _ e] at hy;exact vN _ (h.sub r hr y hy)
 ·by_cases e:r=a
  ·subst e
   rw [setAt_is] at hy |-
   exact (hm y).2 (vz.1 ((hD y).1 hy))
  rw [setAt_ne _ _ e] at hy |-;exact h.disk r hr y hy
 ·by_cases q:r=a
  ·subst q
   rw [setAt_is] at hy |-
   exact (hD y).2 (vz.2 ((hm y).1 hy))
  rw [setAt_ne _ _ q] at hy e |-;exact h.on r hr e y hy
 ·by_cases e:r=a
  ·subst e;rw [setAt_is];exact hw.congr (fun y=>by rw [vz,hm y])
  rw [setAt_ne _ _ e];exact h.well r hr
 by_cases e:r=a
 ·subst e
  rw [setAt_is]
  refine ⟨hw.congr (fun y=>(hD y).symm),?_⟩
  rw [uf]
  refine ⟨(h.dwell r hr).2,zm,fun y hy z hz=> ?_⟩
  rw [vA.1 hz]
  exact hx1 y (h.sub r hr y (h.disk r hr y hy))
 rw [setAt_ne _ _ e];exact h.dwell r hr
theorem MInv.heard (h:MInv n i G S D off) (ha:a<n) {o:Bool} (hl:∀x∈l,x∈G) (hm:∀x,x∈S'↔x∈S a\/x∈l) (hw:WellK S') (hF:ByTime F) (hFn:F.Nodup) (hFm:∀x,x∈F↔x∈S'/\x∉S a) (hk0:off a=true->k=0) (hko:o=false->off a=false/\F.length<=k):MInv n i G (setAt S a S') (setAt D a (D a++F.take k)) (setAt off a o):=by
 have hS:∀x∈S',x∈G:=fun x hx=>((hm x).1 hx).elim (h.sub a ha x) (hl x)
 refine h.put hS (fun x hx=> ?_) (fun x hx e=>vN _ (h.mine hx e)) (fun e x hx=> ?_) hw ?_ ?_
 ·rcases vv.1 hx with q | q
  ·exact (hm x).2 (.inl (h.disk a ha x q))
  exact ((hFm x).1 (uz q)).1
 ·obtain ⟨e1,e2⟩:=hko e
  rw [vG e2]
  by_cases hx':x∈S a
  ·exact vN _ (h.on a ha e1 x hx')
  exact ub _ ((hFm x).2 ⟨hx,hx'⟩)
 ·cases ho:off a with
  | true=>rw [hk0 ho,List.take_zero,ur];exact (h.dwell a ha).1
  | false=>
   refine (well_ahead (h.well a ha) hw (fun x hx=>(hm x).2 (.inl hx)) hF hFm k).congr (fun x=> ?_)
   rw [vv,vv]
   exact or_congr ⟨h.on a ha ho x,h.disk a ha x⟩ Iff.rfl
 rw [uf]
 refine ⟨(h.dwell a ha).2,hFn.sublist (List.take_sublist _ _),fun x hx y hy e=> ?_⟩
 subst e
 exact ((hFm x).1 (uz hy)).2 (h.disk a ha x hx)
theorem MInv.boot (h:MInv n i G S D off) (ha:a<n) (hm:∀x,x∈S'↔x∈D a):MInv n i G (setAt S a S') (setAt D a (D a)) (setAt off a false):=
 h.put (fun x hx=>h.sub a ha x (h.disk a ha x ((hm x).1 hx))) (fun x hx=>(hm x).2 hx) (fun x hx e=>h.mine hx e) (fun _ x hx=>(hm x).1 hx) ((h.dwell a ha).1.congr (fun x=>(hm x).symm)) (h.dwell a ha).1 (h.dwell a ha).2
end
end
section
open Go Go.RowKit Go.Lib
open scoped Classical
abbrev NoteX:=Nat×Nat×Bool×(Nat->Int)×Option Addr×Nat×List OpX
abbrev opsN (x:NoteX):List OpX:=x.2.2.2.2.2.2
def valN (x:NoteX):Value:=.slice x.2.2.2.2.1 x.2.2.2.2.2.2.length x.2.2.2.2.2.1
def encNt (x:NoteX):List Value:=[.int .i64 (x.1:Int),.int .i64 (x.2.1:Int),.bool x.2.2.1,.int .i64 (x.2.2.2.1 0),.int .i64 (x.2.2.2.1 1),.int .i64 (x.2.2.2.1 2),.int .i64 (x.2.2.2.1 3),valN x]
theorem encNt_len (x:NoteX):(encNt x).length=8:=rfl
theorem encNt_one (x:NoteX):∀v∈encNt x,v.oneCell'=true:=by
 intro v hv
 unfold encNt valN at hv
 simp only [vz,Zc,or_false] at hv
 rcases hv with rfl | rfl | rfl | rfl | rfl | rfl | rfl | rfl<;>rfl
def ptrsP (bp:Nat->Nat) (n:Nat):List Value:=(List.range n).map fun r=>.pointer (some ⟨bp r,0,none⟩)
theorem ptrsP_succ (bp:Nat->Nat) (n:Nat):ptrsP bp (n+1)=ptrsP bp n++ [.pointer (some ⟨bp n,0,none⟩)]:=by unfold ptrsP;rw [Zg,uq];rfl
theorem ptrsP_get (bp:Nat->Nat) (h:r<n):(ptrsP bp n)[r]? =some (.pointer (some ⟨bp r,0,none⟩)):=by unfold ptrsP;rw [uu,List.getElem?_range h];rfl
theorem ptrsP_congr {bp bp':Nat->Nat} (h:∀r,r<n->bp r=bp' r):ptrsP bp n=ptrsP bp' n:=by
 unfold ptrsP
 exact uO (fun r hr=>by rw [h r (List.mem_range.1 hr)])
def PeerC (w:World) (p b d:Nat):Prop:=w.heap[p]? =some (.cells #[.pointer (some ⟨b,0,none⟩),.pointer (some ⟨d,0,none⟩)] 67 (0,0))
theorem PeerC.lt (h:PeerC w p b d):p<w.heap.size:=(vn.1 h).1
theorem PeerC.c0 (h:PeerC w p b d):w.cell? ⟨p,0,none⟩=some (.pointer (some ⟨b,0,none⟩)):=by unfold PeerC at h;simp [World.cell?,h]
theorem PeerC.c1 (h:PeerC w p b d):w.cell? ⟨p,1,none⟩=some (.pointer (some ⟨d,0,none⟩)):=by unfold PeerC at h;simp [World.cell?,h]
theorem PeerC.fz (h:PeerC w p b d) (o:Nat):w.frozen? ⟨p,o,none⟩=false:=by unfold PeerC at h;simp [World.frozen?,h]
theorem PeerC.same (h:PeerC w p b d) (e:w'.heap[p]? =w.heap[p]?):PeerC w' p b d:=e.trans h
def MeshC (w:World) (bm:Nat) (pv fv:Value):Prop:=w.heap[bm]? =some (.cells #[pv,fv] 61 (0,0))
theorem MeshC.lt (h:MeshC w bm pv fv):bm<w.heap.size:=(vn.1 h).1
theorem MeshC.c0 (h:MeshC w bm pv fv):w.cell? ⟨bm,0,none⟩=some pv:=by unfold MeshC at h;simp [World.cell?,h]
theorem MeshC.c1 (h:MeshC w bm pv fv):w.cell? ⟨bm,1,none⟩=some fv:=by unfold MeshC at h;simp [World.cell?,h]
theorem MeshC.fz (h:MeshC w bm pv fv) (o:Nat):w.frozen? ⟨bm,o,none⟩=false:=by unfold MeshC at h;simp [World.frozen?,h]
theorem MeshC.set0 (h:MeshC w bm pv fv) (v:Value):MeshC (w.setCell ⟨bm,0,none⟩ v) bm v fv:=heap_setCell_same w bm 0 _ _ _ h
theorem MeshC.set1 (h:MeshC w bm pv fv) (v:Value):MeshC (w.setCell ⟨bm,1,none⟩ v) bm pv v:=heap_setCell_same w bm 1 _ _ _ h
theorem PeerC.set0 (h:PeerC w p b d) (b':Nat):PeerC (w.setCell ⟨p,0,none⟩ (.pointer (some ⟨b',0,none⟩))) p b' d:=heap_setCell_same w p 0 _ _ _ h
structure NoteIn (w:World) (ow:Nat->Nat) (n:Nat) (x:NoteX):Prop where
 from_:x.1<n
 to_:x.2.1<n
 ops:OpsAt w (valN x) (opsN x)
 own:∀g,(valN x).ownBlock=some g->ow g=4
structure MeshAt (gd:Nat->Option Obj) (B:Nat) (w:World) (ow:Nat->Nat) (n bm:Nat) (pv fv:Value) (bp br d:Nat->Nat) (dv:Nat->Value) (c:Nat->Nat->Nat) (K:Nat->Rws) (st:Nat->DSt) (N:List NoteX):Prop where
 few:n<=4
 mesh:MeshC w bm pv fv
 om:ow bm=1
 peers:w.ownsRow B 62 1 pv n (ptrsP bp n)
 op:∀g,pv.ownBlock=some g->ow g=2
 fly:w.ownsRow B 82 8 fv N.length (flat encNt N)
 of:∀g,fv.ownBlock=some g->ow g=3
 notes:∀x∈N,NoteIn w ow n x
 peer:∀r,r<n->PeerC w (bp r) (br r) (d r)/\ow (bp r)=30+r
 rep:∀r,r<n->RepOwn B w (c r) (br r) (r:Int) (K r)/\∀k,c r k≠0->ow k=10+r
 disk:∀r,r<n->DiskAt w (d r) (dv r) (st r)/\∀k,OwnD (d r) (dv r) k->ow k=20+r
 low:∀k,ow k≠0->B<=k
 high:∀k,w.heap.size<=k->ow k=0
 base:B<=w.heap.size
 guard:∀k o,gd k=some o->ow k=5/\w.heap[k]? =some o
def paintTo (ow:Nat->Nat) (w w':World) (j:Nat):Nat->Nat:=fun k=>if k<w.heap.size then ow k else if k<w'.heap.size then j else 0
theorem paint_is (h:k<w.heap.size):paintTo ow w w' j k=ow k:=if_pos h
theorem paint_nw (h:w.heap.size<=k) (h':k<w'.heap.size):paintTo ow w w' j k=j:=by unfold paintTo;rw [if_neg zj,if_pos h']
theorem opsAt_kept {xs:List OpX} (h:OpsAt w v xs) (e:∀g,v.ownBlock=some g->w'.heap[g]? =w.heap[g]?):OpsAt w' v xs:=by
 rcases h with h | ⟨g,o,cp,rfl,h2⟩
 ·exact .inl h
 exact .inr ⟨g,o,cp,rfl,fun j u hj=>by rw [vI (a:=⟨g,o+j,none⟩) (e g rfl)];exact h2 j u hj⟩
theorem RepOwn.keep {c:Nat->Nat} {br:Nat} {by_:Int} (h:RepOwn B w c br by_ R) (hs:w.heap.size<=w'.heap.size) (e:∀k,k<w.heap.size->c k≠0->w'.heap[k]? =w.heap[k]?):RepOwn B w' c br by_ R:=
 ⟨h.rep.kept (fun i hi=>⟨fun k hk q=>e k hk (by rw [q];exact hi),fun _ _=>rfl⟩),h.low,fun k hk=>h.high k (vr hs hk)⟩
structure MeshBut (gd:Nat->Option Obj) (j:Nat) (B:Nat) (w:World) (ow:Nat->Nat) (n bm:Nat) (pv fv:Value) (bp br d:Nat->Nat) (dv:Nat->Value) (c:Nat->Nat->Nat) (K:Nat->Rws) (st:Nat->DSt) (N:List NoteX):Prop where
 few:n<=4
 mesh:j≠1->MeshC w bm pv fv
 om:ow bm=1
 peers:j≠2->w.ownsRow B 62 1 pv n (ptrsP bp n)
 op:∀g,pv.ownBlock=some g->ow g=2
 fly:j≠3->w.ownsRow B 82 8 fv N.length (flat encNt N)
 of:∀g,fv.ownBlock=some g->ow g=3
 notes:j≠4->∀x∈N,NoteIn w ow n x
 peer:∀r,r<n->(j≠30+r->PeerC w (bp r) (br r) (d r))/\ow (bp r)=30+r
 rep:∀r,r<n->(j≠10+r->RepOwn B w (c r) (br r) (r:Int) (K r))/\∀k,c r k≠0->ow k=10+r
 disk:∀r,r<n->(j≠20+r->DiskAt w (d r) (dv r) (st r))/\∀k,OwnD (d r) (dv r) k->ow k=20+r
 low:∀k,ow k≠0->B<=k
 high:∀k,w.heap.size<=k->ow k=0
 base:B<=w.heap.size
 guard:j≠5->∀k o,gd k=some o->ow k=5/\w.heap[k]? =some o
section
variable {gd:Nat→Option Obj} {B:Nat} {w:World} {ow:Nat→Nat} {n bm:Nat} {pv fv:Value} {bp br d:Nat→Nat} {dv:Nat→Value} {c:Nat→Nat→Nat} {K:Nat→Rws} {st:Nat→DSt} {N:List NoteX}
theorem MeshAt.in_ (h:MeshAt gd B w ow n bm pv fv bp br d dv c K st N) (hk:ow k≠0):k<w.heap.size:=by
 by_cases q:k<w.heap.size
 ·exact q
 exact absurd (h.high k zj) hk
theorem MeshAt.but (h:MeshAt gd B w ow n bm pv fv bp br d dv c K st N) (hk:Keeps (fun k=>ow k=j) w w'):MeshBut gd j B w' (paintTo ow w w' j) n bm pv fv bp br d dv c K st N:=by
 have hin:∀ {k i:Nat},ow k=i->i≠0->k<w.heap.size:=fun {k i} e hi=>h.in_ yw
 have same:∀ {k i:Nat},ow k=i->i≠0->j≠i->w'.heap[k]? =w.heap[k]? :=fun {k i} e hi hj=>hk.block k (hin e hi) (fun q=>hj (by rw [<-q,e]))
 have hue:∀ {k i:Nat},ow k=i->i≠0->paintTo ow w w' j k=i:=fun {k i} e hi=>(paint_is (hin e hi)).trans e
 refine ⟨h.few,fun hj=>(same h.om zj hj).trans h.mesh,hue h.om zj,fun hj=>ownsHeld h.peers (fun g hg=>same (h.op g hg) zj hj),fun g hg=>hue (h.op g hg) zj,fun hj=>ownsHeld h.fly (fun g hg=>same (h.of g hg) zj hj),fun g hg=>hue (h.of g hg) zj,fun hj x hx=> ?_,fun r hr=> ?_,fun r hr=> ?_,fun r hr=> ?_,fun k hq=> ?_,fun k hq=> ?_,vr h.base hk.size,fun hj k o e=>⟨hue (h.guard k o e).1 zj,(same (h.guard k o e).1 zj hj).trans (h.guard k o e).2⟩⟩
 ·have hn:=h.notes x hx
  exact ⟨hn.from_,hn.to_,opsAt_kept hn.ops (fun g hg=>same (hn.own g hg) zj hj),fun g hg=>hue (hn.own g hg) zj⟩
 ·obtain ⟨h1,h2⟩:=h.peer r hr
  exact ⟨fun hj=>h1.same (same h2 zj hj),hue h2 zj⟩
 ·obtain ⟨h1,h2⟩:=h.rep r hr
  exact ⟨fun hj=>h1.keep hk.size (fun k _ e=>same (h2 k e) zj hj),fun k e=>hue (h2 k e) zj⟩
 ·obtain ⟨h1,h2⟩:=h.disk r hr
  exact ⟨fun hj=>h1.same (fun k e=>same (h2 k e) zj hj),fun k e=>hue (h2 k e) zj⟩
 ·by_cases q:k<w.heap.size
  ·rw [paint_is q] at hq;exact h.low k hq
  have:=h.base;omega
 have:=hk.size
 unfold paintTo
 rw [if_neg zj,if_neg zj]
theorem MeshAt.still (h:MeshAt gd B w ow n bm pv fv bp br d dv c K st N) {S:Nat->Prop} (hk:Keeps S w w') (hS:∀k,S k->ow k=0):MeshAt gd B w' ow n bm pv fv bp br d dv c K st N:=by
 have same:∀ {k i:Nat},ow k=i->i≠0->w'.heap[k]? =w.heap[k]? :=fun {k i} e hi=>hk.block k (h.in_ yw) (fun q=>hi (by rw [<-e];exact hS k q))
 exact ⟨h.few,(same h.om zj).trans h.mesh,h.om,ownsHeld h.peers (fun g hg=>same (h.op g hg) zj),h.op,ownsHeld h.fly (fun g hg=>same (h.of g hg) zj),h.of,fun x hx=>⟨(h.notes x hx).from_,(h.notes x hx).to_,opsAt_kept (h.notes x hx).ops (fun g hg=>same ((h.notes x hx).own g hg) zj),(h.notes x hx).own⟩,fun r hr=>⟨(h.peer r hr).1.same (same (h.peer r hr).2 zj),(h.peer r hr).2⟩,fun r hr=>⟨(h.rep r hr).1.keep hk.size (fun k _ e=>same ((h.rep r hr).2 k e) zj),(h.rep r hr).2⟩,fun r hr=>⟨(h.disk r hr).1.same (fun k e=>same ((h.disk r hr).2 k e) zj),(h.disk r hr).2⟩,h.low,fun k hq=>h.high k (vr hk.size hq),vr h.base hk.size,fun k o e=>⟨(h.guard k o e).1,(same (h.guard k o e).1 zj).trans (h.guard k o e).2⟩⟩
theorem MeshAt.later (h:MeshAt gd B w ow n bm pv fv bp br d dv c K st N) (hb:Below w.heap.size w w'):MeshAt gd B w' ow n bm pv fv bp br d dv c K st N:=h.still (keeps_of_below hb) (fun k e=>h.high k e)
theorem MeshAt.repAct (h:MeshAt gd B w ow n bm pv fv bp br d dv c K st N) {a:Nat} (ha:a<n) {w':World} {c':Nat->Nat} {R':Rws} (hA:Acts w (c a) w' c') (hR:RepOwn B w' c' (br a) (a:Int) R'):MeshAt gd B w' (paintTo ow w w' (10+a)) n bm pv fv bp br d dv (setAt c a c') (setAt K a R') st N/\Keeps (fun k=>ow k=10+a) w w':=by
 have hf:=h.few
 have hk:Keeps (fun k=>ow k=10+a) w w':=hA.keeps.mono (fun k _ e=>(h.rep a ha).2 k e)
 have hb:=h.but hk
 refine ⟨⟨hf,hb.mesh zj,hb.om,hb.peers zj,hb.op,hb.fly zj,hb.of,hb.notes zj,fun r hr=>⟨(hb.peer r hr).1 zj,(hb.peer r hr).2⟩,fun r hr=> ?_,fun r hr=>⟨(hb.disk r hr).1 zj,(hb.disk r hr).2⟩,hb.low,hb.high,hb.base,hb.guard zj⟩,hk⟩
 by_cases e:r=a
 ·subst e
  rw [setAt_is,setAt_is]
  refine ⟨hR,fun k q=> ?_⟩
  by_cases hk':k<w.heap.size
  ·rw [paint_is hk']
   rw [hA.hue k hk'] at q
   exact (h.rep r ha).2 k q
  refine paint_nw zj ?_
  by_cases h2:k<w'.heap.size
  ·exact h2
  exact absurd (hR.high k zj) q
 rw [setAt_ne _ _ e,setAt_ne _ _ e]
 exact ⟨(hb.rep r hr).1 zj,(hb.rep r hr).2⟩
theorem MeshAt.diskAct (h:MeshAt gd B w ow n bm pv fv bp br d dv c K st N) (ha:a<n) {st':DSt} (hW:WroteD (d a) (dv a) w st' w'):∃v',MeshAt gd B w' (paintTo ow w w' (20+a)) n bm pv fv bp br d (setAt dv a v') c K (setAt st a st') N/\Keeps (fun k=>ow k=20+a) w w':=by
 obtain ⟨v',h1,h2,h3⟩:=hW
 have hf:=h.few
 have hk:Keeps (fun k=>ow k=20+a) w w':=h2.mono (fun k _ e=>(h.disk a ha).2 k e)
 have hb:=h.but hk
 refine ⟨v',⟨hf,hb.mesh zj,hb.om,hb.peers zj,hb.op,hb.fly zj,hb.of,hb.notes zj,fun r hr=>⟨(hb.peer r hr).1 zj,(hb.peer r hr).2⟩,fun r hr=>⟨(hb.rep r hr).1 zj,(hb.rep r hr).2⟩,fun r hr=> ?_,hb.low,hb.high,hb.base,hb.guard zj⟩,hk⟩
 by_cases e:r=a
 ·subst e
  rw [setAt_is,setAt_is]
  refine ⟨h1,fun k q=> ?_⟩
  rcases q with q | q
  ·exact (hb.disk r hr).2 k (.inl q)
  rcases h3 k q with p | p
  ·exact (hb.disk r hr).2 k (.inr p)
  exact paint_nw p (h1.row.lt q)
 rw [setAt_ne _ _ e,setAt_ne _ _ e]
 exact ⟨(hb.disk r hr).1 zj,(hb.disk r hr).2⟩
theorem MeshAt.flyAct (h:MeshAt gd B w ow n bm pv fv bp br d dv c K st N) {N':List NoteX} (hk1:Keeps (fun k=>some k=fv.ownBlock) w w1) (hrow:w1.ownsRow B 82 8 v N'.length (flat encNt N')) (hv:∀g,v.ownBlock=some g->fv.ownBlock=some g\/w.heap.size<=g) (hN:∀x∈N',NoteIn w ow n x):MeshAt gd B (w1.setCell ⟨bm,1,none⟩ v) (paintTo ow w w1 3) n bm pv v bp br d dv c K st N'/\Keeps (fun k=>ow k=3\/ow k=1) w (w1.setCell ⟨bm,1,none⟩ v):=by
 have hf:=h.few
 have hk:Keeps (fun k=>ow k=3) w w1:=hk1.mono (fun k _ e=>h.of k (Eq.symm e))
 have hb:=h.but hk
 have hs:=setCells_keeps bm [v] 1 w1
 have hsz:(w1.setCell ⟨bm,1,none⟩ v).heap.size=w1.heap.size:=zm
 have hbm:∀ {k i:Nat},paintTo ow w w1 3 k=i->i≠1->i≠0->(w1.setCell ⟨bm,1,none⟩ v).heap[k]? =w1.heap[k]? :=fun {k i} e hi h0=>by
  have hkl:k<w1.heap.size:=by
   by_cases q:k<w1.heap.size
   ·exact q
   exact absurd (hb.high k zj) (by rw [e];exact h0)
  exact hs.block k hkl (fun q=>hi (by rw [<-e,q];exact hb.om))
 have hof:∀g,v.ownBlock=some g->paintTo ow w w1 3 g=3:=fun g hg=>by
  rcases hv g hg with q | q
  ·exact hb.of g q
  exact paint_nw q (hrow.lt g hg).2
 refine ⟨⟨hf,(hb.mesh zj).set1 v,hb.om,ownsHeld (hb.peers zj) (fun g hg=>hbm (hb.op g hg) zj zj),hb.op,ownsHeld hrow (fun g hg=>hbm (hof g hg) zj zj),hof,fun x hx=> ?_,fun r hr=> ?_,fun r hr=> ?_,fun r hr=> ?_,hb.low,fun k hk=>hb.high k (by rw [hsz] at hk;exact hk),by rw [hsz];exact hb.base,fun k o e=>⟨(hb.guard zj k o e).1,(hbm (hb.guard zj k o e).1 zj zj).trans (hb.guard zj k o e).2⟩⟩,?_⟩
 ·have hn:=hN x hx
  have h4:∀g,(valN x).ownBlock=some g->paintTo ow w w1 3 g=4:=fun g hg=>(paint_is (h.in_ (by rw [hn.own g hg];omega))).trans (hn.own g hg)
  exact ⟨hn.from_,hn.to_,opsAt_kept hn.ops (fun g hg=>(hbm (h4 g hg) zj zj).trans (hk.block g (h.in_ (by rw [hn.own g hg];omega)) (fun q=>by have q':ow g=3:=q;rw [hn.own g hg] at q';omega))),h4⟩
 ·obtain ⟨h1,h2⟩:=hb.peer r hr
  exact ⟨(h1 zj).same (hbm h2 zj zj),h2⟩
 ·obtain ⟨h1,h2⟩:=hb.rep r hr
  exact ⟨(h1 zj).keep xm (fun k _ e=>hbm (h2 k e) zj zj),h2⟩
 ·obtain ⟨h1,h2⟩:=hb.disk r hr
  exact ⟨(h1 zj).same (fun k e=>hbm (h2 k e) zj zj),h2⟩
 exact (hk.mono (fun k _ e=>.inl e)).then hs (fun k _ e=>.inr (by have e':k=bm:=e;rw [e'];exact h.om))
theorem MeshAt.lend (h:MeshAt gd B w ow n bm pv fv bp br d dv c K st N) (hb:Below w.heap.size w w'):MeshAt gd B w' (paintTo ow w w' 4) n bm pv fv bp br d dv c K st N/\∀k,w.heap.size<=k->k<w'.heap.size->paintTo ow w w' 4 k=4:=by
 have h':=h.later hb
 have hue:∀ {k i:Nat},ow k=i->i≠0->paintTo ow w w' 4 k=i:=fun {k i} e hi=>(paint_is (h.in_ yw)).trans e
 refine ⟨⟨h.few,h'.mesh,hue h.om zj,h'.peers,fun g hg=>hue (h.op g hg) zj,h'.fly,fun g hg=>hue (h.of g hg) zj,fun x hx=>⟨(h'.notes x hx).from_,(h'.notes x hx).to_,(h'.notes x hx).ops,fun g hg=>hue ((h.notes x hx).own g hg) zj⟩,fun r hr=>⟨(h'.peer r hr).1,hue (h.peer r hr).2 zj⟩,fun r hr=>⟨(h'.rep r hr).1,fun k e=>hue ((h.rep r hr).2 k e) zj⟩,fun r hr=>⟨(h'.disk r hr).1,fun k e=>hue ((h.disk r hr).2 k e) zj⟩,fun k q=> ?_,fun k q=> ?_,h'.base,fun k o e=>⟨hue (h.guard k o e).1 zj,(h'.guard k o e).2⟩⟩,fun k h1 h2=>paint_nw h1 h2⟩
 ·by_cases e:k<w.heap.size
  ·rw [paint_is e] at q;exact h.low k q
  have:=h.base;omega
 have:=hb.size
 unfold paintTo
 rw [if_neg zj,if_neg zj]
theorem MeshAt.anew (h:MeshAt gd B w ow n bm pv fv bp br d dv c K st N) {a:Nat} (ha:a<n) {w1:World} {c':Nat->Nat} {b:Nat} {R':Rws} (hb:Below w.heap.size w w1) (hR:RepOwn w.heap.size w1 c' b (a:Int) R'):MeshAt gd B (w1.setCell ⟨bp a,0,none⟩ (.pointer (some ⟨b,0,none⟩))) (paintTo ow w w1 (10+a)) n bm pv fv bp (setAt br a b) d dv (setAt c a c') (setAt K a R') st N/\Keeps (fun k=>ow k=30+a) w (w1.setCell ⟨bp a,0,none⟩ (.pointer (some ⟨b,0,none⟩))):=by
 have hf:=h.few
 have h':=h.later hb
 have hue:∀ {k i:Nat},ow k=i->i≠0->paintTo ow w w1 (10+a) k=i:=fun {k i} e hi=>(paint_is (h.in_ yw)).trans e
 obtain ⟨W,hW⟩:=za (w1.setCell ⟨bp a,0,none⟩ (.pointer (some ⟨b,0,none⟩)))
 have hs:Keeps (fun k=>k=bp a) w1 W:=by rw [hW];exact setCells_keeps (bp a) [.pointer (some ⟨b,0,none⟩)] 0 w1
 have hsz:W.heap.size=w1.heap.size:=by rw [hW];simp
 have hbp:=(h.peer a ha).2
 have same:∀ {k i:Nat},ow k=i->i≠0->i≠30+a->W.heap[k]? =w1.heap[k]? :=fun {k i} e h0 hi=>hs.block k (vJ (h.in_ (by rw [e];exact h0)) hb.size) (fun q=>hi (by have q':k=bp a:=q;rw [<-e,q',hbp]))
 rw [<-hW]
 refine ⟨⟨hf,(same h.om zj zj).trans h'.mesh,hue h.om zj,ownsHeld h'.peers (fun g hg=>same (h.op g hg) zj zj),fun g hg=>hue (h.op g hg) zj,ownsHeld h'.fly (fun g hg=>same (h.of g hg) zj zj),fun g hg=>hue (h.of g hg) zj,fun x hx=> ?_,fun r hr=> ?_,fun r hr=> ?_,fun r hr=> ?_,fun k q=> ?_,fun k q=> ?_,by rw [hsz];exact h'.base,fun k o e=>⟨hue (h.guard k o e).1 zj,(same (h.guard k o e).1 zj zj).trans (h'.guard k o e).2⟩⟩,?_⟩
 ·have hn:=h'.notes x hx
  exact ⟨hn.from_,hn.to_,opsAt_kept hn.ops (fun g hg=>same (hn.own g hg) zj zj),fun g hg=>hue (hn.own g hg) zj⟩
 ·obtain ⟨h1,h2⟩:=h'.peer r hr
  by_cases e:r=a
  ·subst e
   rw [setAt_is]
   exact ⟨by rw [hW];exact h1.set0 b,hue h2 zj⟩
  rw [setAt_ne _ _ e]
  exact ⟨h1.same (same h2 zj zj),hue h2 zj⟩
 ·by_cases e:r=a
  ·subst e
   rw [setAt_is,setAt_is,setAt_is]
   refine ⟨(hR.down h.base).keep xm (fun k hk q=> ?_),fun k q=> ?_⟩
   ·refine hs.block k hk (fun p=> ?_)
    have p':k=bp r:=p
    have:=hR.low k q
    have:=h.in_ (k:=bp r) (by rw [hbp];omega)
    omega
   refine paint_nw (hR.low k q) ?_
   by_cases h2:k<w1.heap.size
   ·exact h2
   exact absurd (hR.high k zj) q
  rw [setAt_ne _ _ e,setAt_ne _ _ e,setAt_ne _ _ e]
  obtain ⟨h1,h2⟩:=h'.rep r hr
  exact ⟨h1.keep xm (fun k _ q=>same (h2 k q) zj zj),fun k q=>hue (h2 k q) zj⟩
 ·obtain ⟨h1,h2⟩:=h'.disk r hr
  exact ⟨h1.same (fun k q=>same (h2 k q) zj zj),fun k q=>hue (h2 k q) zj⟩
 ·by_cases e:k<w.heap.size
  ·rw [paint_is e] at q;exact h.low k q
  have:=h.base;omega
 ·have:=hb.size
  unfold paintTo
  rw [if_neg zj,if_neg zj]
 exact ((keeps_of_below hb).mono (fun k hk q=>absurd hk (by have q':w.heap.size<=k:=q;omega))).then hs (fun k _ e=>by have e':k=bp a:=e;rw [e'];exact hbp)
theorem MeshAt.below (h:MeshAt gd B w ow n bm pv fv bp br d dv c K st N) {w':World} {S:Nat->Prop} (hk:Keeps S w w') (hS:∀k,S k->ow k≠0):Below B w w':=hk.below h.base (fun k e=>h.low k (hS k e))
theorem MeshAt.note (h:MeshAt gd B w ow n bm pv fv bp br d dv c K st N) {x:NoteX} (hx:NoteIn w ow n x) {w2:World} {S:Nat->Prop} (hk:Keeps S w w') (hS:∀k,S k->ow k≠4) (j:Nat):NoteIn w' (paintTo ow w w2 j) n x:=by
 have hl:∀g,(valN x).ownBlock=some g->g<w.heap.size:=fun g hg=>h.in_ (by rw [hx.own g hg];omega)
 exact ⟨hx.from_,hx.to_,opsAt_kept hx.ops (fun g hg=>hk.block g (hl g hg) (fun q=>hS g q (hx.own g hg))),fun g hg=>(paint_is (hl g hg)).trans (hx.own g hg)⟩
theorem NoteIn.later {x:NoteX} (hx:NoteIn w ow n x) {w':World} (hb:Below w.heap.size w w'):NoteIn w' ow n x:=⟨hx.from_,hx.to_,hx.ops.later hb,hx.own⟩
theorem MeshAt.ward (h:MeshAt gd B w ow n bm pv fv bp br d dv c K st N) (hb:Below w.heap.size w w') (hq:w.heap.size<=q) (ho:w'.heap[q]? =some o):MeshAt (fun k=>if k=q then some o else gd k) B w' (fun k=>if k=q then 5 else ow k) n bm pv fv bp br d dv c K st N:=by
 have h':=h.later hb
 have hue:∀ {k i:Nat},ow k=i->i≠0->(if k=q then 5 else ow k)=i:=fun {k i} e hi=>by
  rw [if_neg (fun e'=>by have:=h.in_ (k:=k) yw;omega)];exact e
 refine ⟨h.few,h'.mesh,hue h.om zj,h'.peers,fun g hg=>hue (h.op g hg) zj,h'.fly,fun g hg=>hue (h.of g hg) zj,fun x hx=>⟨(h'.notes x hx).from_,(h'.notes x hx).to_,(h'.notes x hx).ops,fun g hg=>hue ((h.notes x hx).own g hg) zj⟩,fun r hr=>⟨(h'.peer r hr).1,hue (h.peer r hr).2 zj⟩,fun r hr=>⟨(h'.rep r hr).1,fun k e=>hue ((h.rep r hr).2 k e) zj⟩,fun r hr=>⟨(h'.disk r hr).1,fun k e=>hue ((h.disk r hr).2 k e) zj⟩,fun k e=> ?_,fun k e=> ?_,h'.base,fun k o' e=> ?_⟩
 ·by_cases e':k=q
  ·have:=h.base;omega
  rw [if_neg e'] at e;exact h.low k e
 ·have hql:=(vn.1 ho).1
  rw [if_neg zj]
  exact h.high k (vr hb.size e)
 by_cases e':k=q
 ·subst e'
  rw [if_pos rfl] at e |-
  cases e
  exact ⟨rfl,ho⟩
 rw [if_neg e'] at e |-
 exact h'.guard k o' e
theorem MeshAt.free (h:MeshAt gd B w ow n bm pv fv bp br d dv c K st N) (hq:ow q=5) (hk:Keeps (fun k=>k=q) w w') (hg:∀k o,gd' k=some o->gd k=some o/\k≠q):MeshAt gd' B w' ow n bm pv fv bp br d dv c K st N:=by
 have same:∀ {k i:Nat},ow k=i->i≠0->i≠5->w'.heap[k]? =w.heap[k]? :=fun {k i} e hi h5=>hk.block k (h.in_ yw) (fun p=>h5 (by have p':k=q:=p;rw [<-e,p',hq]))
 exact ⟨h.few,(same h.om zj zj).trans h.mesh,h.om,ownsHeld h.peers (fun g hg=>same (h.op g hg) zj zj),h.op,ownsHeld h.fly (fun g hg=>same (h.of g hg) zj zj),h.of,fun x hx=>⟨(h.notes x hx).from_,(h.notes x hx).to_,opsAt_kept (h.notes x hx).ops (fun g hg=>same ((h.notes x hx).own g hg) zj zj),(h.notes x hx).own⟩,fun r hr=>⟨(h.peer r hr).1.same (same (h.peer r hr).2 zj zj),(h.peer r hr).2⟩,fun r hr=>⟨(h.rep r hr).1.keep hk.size (fun k _ e=>same ((h.rep r hr).2 k e) zj (by have:=h.few;omega)),(h.rep r hr).2⟩,fun r hr=>⟨(h.disk r hr).1.same (fun k e=>same ((h.disk r hr).2 k e) zj zj),(h.disk r hr).2⟩,h.low,fun k hq=>h.high k (vr hk.size hq),vr h.base hk.size,fun k o e=>⟨(h.guard k o (hg k o e).1).1,(hk.block k (h.in_ (by rw [(h.guard k o (hg k o e).1).1];omega)) (hg k o e).2).trans (h.guard k o (hg k o e).1).2⟩⟩
end
def MeshS (gd:Nat->Option Obj) (B n bm:Nat) (K:Nat->Rws) (st:Nat->DSt) (N:List NoteX) (w:World):Prop:=∃ow pv fv bp br d dv c,MeshAt gd B w ow n bm pv fv bp br d dv c K st N
theorem MeshS.ward {gd:Nat->Option Obj} {B n bm:Nat} {K:Nat->Rws} {st:Nat->DSt} {N:List NoteX} {w w':World} (h:MeshS gd B n bm K st N w) (hb:Below w.heap.size w w') {q:Nat} {o:Obj} (hq:w.heap.size<=q) (ho:w'.heap[q]? =some o):MeshS (fun k=>if k=q then some o else gd k) B n bm K st N w':=by
 obtain ⟨ow,pv,fv,bp,br,d,dv,c,hm⟩:=h
 exact ⟨_,_,_,_,_,_,_,_,hm.ward hb hq ho⟩
theorem MeshS.held {st:Nat->DSt} {N:List NoteX} (h:MeshS gd B n bm K st N w) (hq:gd q=some o):w.heap[q]? =some o:=by
 obtain ⟨ow,pv,fv,bp,br,d,dv,c,hm⟩:=h
 exact (hm.guard q o hq).2
theorem MeshS.free {gd gd':Nat->Option Obj} {B n bm:Nat} {K:Nat->Rws} {st:Nat->DSt} {N:List NoteX} {w w':World} (h:MeshS gd B n bm K st N w) {q:Nat} {o:Obj} (hq:gd q=some o) (hk:Keeps (fun k=>k=q) w w') (hg:∀k o,gd' k=some o->gd k=some o/\k≠q):MeshS gd' B n bm K st N w':=by
 obtain ⟨ow,pv,fv,bp,br,d,dv,c,hm⟩:=h
 exact ⟨_,_,_,_,_,_,_,_,hm.free (hm.guard q o hq).1 hk hg⟩
theorem MeshS.later {gd:Nat->Option Obj} {B n bm:Nat} {K:Nat->Rws} {st:Nat->DSt} {N:List NoteX} {w w':World} (h:MeshS gd B n bm K st N w) (hb:Below w.heap.size w w'):MeshS gd B n bm K st N w':=by
 obtain ⟨ow,pv,fv,bp,br,d,dv,c,hm⟩:=h
 exact ⟨_,_,_,_,_,_,_,_,hm.later hb⟩
end
section
open Go Go.RowKit Go.Lib
open scoped Classical
theorem all_setAt (K:Nat->Rws) (a:Nat) (R':Rws):(fun r=>allR (setAt K a R' r))=setAt (fun r=>allR (K r)) a (allR R'):=by
 funext r
 unfold setAt
 split<;>rfl
theorem off_setAt (st:Nat->DSt) (a:Nat) (s:DSt):(fun r=>(setAt st a s r).2.1)=setAt (fun r=>(st r).2.1) a s.2.1:=by
 funext r
 unfold setAt
 split<;>rfl
theorem setAt_same {α:Type} (f:Nat->α) (a:Nat):setAt f a (f a)=f:=by
 funext r
 unfold setAt
 split
 ·rename_i e;rw [e]
 rfl
structure MeshI (n i:Nat) (G:List OpX) (K:Nat->Rws) (D:Nat->List OpX) (st:Nat->DSt) (N:List NoteX):Prop where
 inv:MInv n i G (fun r=>allR (K r)) D (fun r=>(st r).2.1)
 disk:∀r,r<n->DiskI (st r) (D r)
 notes:∀x∈N,(∀y∈opsN x,y∈G)/\(opsN x).length<=i
 rows:∀r,r<n->RowsK (K r)
section
variable {n i:Nat} {G:List OpX} {K:Nat→Rws} {D:Nat→List OpX} {st:Nat→DSt} {N:List NoteX}
theorem MeshI.up (h:MeshI n i G K D st N) {j:Nat} (hij:i<=j):MeshI n j G K D st N:=⟨h.inv.up hij,h.disk,fun x hx=>⟨(h.notes x hx).1,vr (h.notes x hx).2 hij⟩,h.rows⟩
theorem MeshI.fly (h:MeshI n i G K D st N) {N':List NoteX} (hN:∀x∈N',x∈N\/((∀y∈opsN x,y∈G)/\(opsN x).length<=i)):MeshI n i G K D st N':=⟨h.inv,h.disk,fun x hx=>(hN x hx).elim (h.notes x) id,h.rows⟩
theorem MeshI.len (h:MeshI n i G K D st N) (hr:r<n):(allR (K r)).length<=i:=h.inv.slen hr (h.rows r hr).num.nodup
theorem MeshI.time (h:MeshI n i G K D st N) {r:Nat} (hr:r<n) {T:Int} (hT:timeO (allR (K r)) T):T<=(i:Int):=by
 rcases hT.2.1 with q | ⟨x,hx,q⟩
 ·omega
 have:=h.inv.time x (h.inv.sub r hr x hx);omega
theorem MeshI.dlen (h:MeshI n i G K D st N) {r:Nat} (hr:r<n):(D r).length<=i:=h.inv.dlen hr
theorem MeshI.blen (h:MeshI n i G K D st N) (hr:r<n) (hi:i<=200):(st r).1.length<=65536:=by
 have h1:=(h.disk r hr).len
 have h2:=h.dlen hr
 omega
theorem MeshI.start (n:Nat) (st:Nat->DSt) (hs:∀r,r<n->st r=([],false,false,0)):MeshI n 0 [] (fun _ _=>[]) (fun _=>[]) st []:=
 ⟨MInv.start n _,fun r hr=>by rw [hs r hr];exact diskI_new,fun x hx=>zO,fun r hr=>rowsK_nil⟩
theorem MeshI.dark (h:MeshI n i G K D st N) {a:Nat} {s:DSt} (hs:DiskI s (D a)) (ho:s.2.1=false->(st a).2.1=false):MeshI n i G K D (setAt st a s) N:=by
 refine ⟨?_,fun r hr=> ?_,h.notes,h.rows⟩
 ·rw [off_setAt]
  refine h.inv.dark (fun r hr e=> ?_)
  by_cases q:r=a
  ·subst q;rw [setAt_is] at e;exact ho e
  rw [setAt_ne _ _ q] at e;exact e
 by_cases q:r=a
 ·subst q;rw [setAt_is];exact hs
 rw [setAt_ne _ _ q];exact h.disk r hr
theorem MeshI.cut (h:MeshI n i G K D st N) {a:Nat} (ha:a<n) (m:Int):MeshI n i G K D (setAt st a (cutSt (st a) m)) N:=by
 have:=(h.disk a ha).cut m
 exact h.dark this.1 (fun e=>by rw [<-this.2];exact e)
theorem MeshI.made (h:MeshI n i G K D st N) {a:Nat} (ha:a<n) {x:OpX} {T:Int} {R':Rws} {s:DSt} (ha4:a<4) (hT:timeO (allR (K a)) T) (hx:NextOp (K a) a T x) (hon:(st a).2.1=false) (hs:DiskI s (D a++ [x])) (hso:s.2.1=false) (hR:RowsK R') (hm:∀y,y∈allR R'↔y=x\/y∈allR (K a)):MeshI n (i+1) (G++ [x]) (setAt K a R') (setAt D a (D a++ [x])) (setAt st a s) N:=by
 have hw:=hx.well (h.rows a ha) ha4 hT.1
 refine ⟨?_,fun r hr=> ?_,fun y hy=>⟨fun z hz=>vN _ ((h.notes y hy).1 z hz),vr (h.notes y hy).2 zj⟩,fun r hr=> ?_⟩
 ·rw [all_setAt,off_setAt,hso]
  exact h.inv.made ha hon hx.by_ (by have:=hx.time;have:=h.time ha hT;omega) hw.1 hw.2 hm
 ·by_cases q:r=a
  ·subst q;rw [setAt_is,setAt_is];exact hs
  rw [setAt_ne _ _ q,setAt_ne _ _ q];exact h.disk r hr
 by_cases q:r=a
 ·subst q;rw [setAt_is];exact hR
 rw [setAt_ne _ _ q];exact h.rows r hr
theorem MeshI.heard (h:MeshI n i G K D st N) {a:Nat} (ha:a<n) {l F:List OpX} {R':Rws} {k:Nat} {s:DSt} (hl:∀x∈l,x∈G) (hm:∀x,x∈allR R'↔x∈allR (K a)\/x∈l) (hR:RowsK R') (hF:ByTime F) (hFn:F.Nodup) (hFm:∀x,x∈F↔x∈allR R'/\x∉allR (K a)) (hk0:(st a).2.1=true->k=0) (hko:s.2.1=false->(st a).2.1=false/\F.length<=k) (hs:DiskI s (D a++F.take k)):MeshI n i G (setAt K a R') (setAt D a (D a++F.take k)) (setAt st a s) N:=by
 refine ⟨?_,fun r hr=> ?_,h.notes,fun r hr=> ?_⟩
 ·rw [all_setAt,off_setAt]
  exact h.inv.heard ha hl hm hR.well hF hFn hFm hk0 hko
 ·by_cases q:r=a
  ·subst q;rw [setAt_is,setAt_is];exact hs
  rw [setAt_ne _ _ q,setAt_ne _ _ q];exact h.disk r hr
 by_cases q:r=a
 ·subst q;rw [setAt_is];exact hR
 rw [setAt_ne _ _ q];exact h.rows r hr
theorem MeshI.boot (h:MeshI n i G K D st N) {a:Nat} (ha:a<n) {R':Rws} {s:DSt} (hm:∀x,x∈allR R'↔x∈D a) (hR:RowsK R') (hs:DiskI s (D a)) (ho:s.2.1=false):MeshI n i G (setAt K a R') D (setAt st a s) N:=by
 refine ⟨?_,fun r hr=> ?_,h.notes,fun r hr=> ?_⟩
 ·rw [all_setAt,off_setAt,ho]
  have:=h.inv.boot ha hm
  rwa [setAt_same] at this
 ·by_cases q:r=a
  ·subst q;rw [setAt_is];exact hs
  rw [setAt_ne _ _ q];exact h.disk r hr
 by_cases q:r=a
 ·subst q;rw [setAt_is];exact hR
 rw [setAt_ne _ _ q];exact h.rows r hr
end
def Fits (G S l:List OpX):Prop:=∃T:List OpX,WellK T/\(∀x∈T,x∈G)/\(∀x∈l,x∈T)/\∀x∈T,x∈S\/x∈l
def vecR (R:Rws):Nat->Int:=fun i=>((R i).length:Int)
theorem held_old (h:RowsK R) (hx:x∈allR R):heldV (vecR R) x=true:=by
 obtain ⟨i,hi,hb,hbn⟩:=by_nat (h.well.ok x hx)
 have:=num_le h.num hi hx hb
 unfold heldV vecR
 have e:x.2.1.toNat=i:=hbn
 rw [e]
 exact decide_eq_true this
theorem held_new (h:RowsK R) (he:errO x=0) (hc:∀y∈allR R,byO y=byO x->numO y=numO x->y=x) (hx:heldV (vecR R) x=true):x∈allR R:=by
 obtain ⟨i,hi,hb,hbn⟩:=by_nat he
 have hp:=num_pos he
 unfold heldV vecR at hx
 have e:x.2.1.toNat=i:=hbn
 rw [e] at hx
 have hle:numO x<=((R i).length:Int):=of_decide_eq_true hx
 have hj:(numO x - 1).toNat<(R i).length:=zj
 have hm:(R i)[(numO x - 1).toNat]∈R i:=List.getElem_mem hj
 have hg:=h.num i hi _ _ (vj hj)
 have:=hc _ (mem_allR.2 ⟨i,hi,hm⟩) (hg.1.trans hb.symm) (by have:=hg.2.1;omega)
 rw [<-this]
 exact mem_allR.2 ⟨i,hi,hm⟩
theorem diff_is (h:RowsK R) (h':RowsK R') (hc:Compat (allR R) (allR R')) {ys:List OpX} (hst:StableOf (allR R') ys):ByTime (ys.filter (fun x=> !heldV (vecR R) x))/\(ys.filter (fun x=> !heldV (vecR R) x)).Nodup/\∀x,x∈ys.filter (fun x=> !heldV (vecR R) x)↔x∈allR R'/\x∉allR R:=by
 obtain ⟨hp,hb⟩:=stable_by hst
 refine ⟨hb.sublist List.filter_sublist,((hp.nodup_iff).2 h'.num.nodup).sublist List.filter_sublist,fun x=> ?_⟩
 rw [Zh,hp.mem_iff]
 constructor
 ·rintro ⟨h1,h2⟩
  refine ⟨h1,fun q=> ?_⟩
  rw [held_old h q] at h2
  cases h2
 rintro ⟨h1,h2⟩
 refine ⟨h1,?_⟩
 cases e:heldV (vecR R) x with
 | false=>rfl
 | true=>exact absurd (held_new h (h'.well.ok x h1) (fun y hy=>hc y hy x h1) e) h2
end
section
open Go.RowKit Go.Lib Go.Sort Go.Maps
open scoped Classical
theorem cov_true {a0 a1 a2 a3 b0 b1 b2 b3:Int} (h0:b0<=a0) (h1:b1<=a1) (h2:b2<=a2) (h3:b3<=a3):covB a0 a1 a2 a3 b0 b1 b2 b3=true:=by
 have e:∀ {a b:Int},b<=a->(mx a b==a)=true:=fun {a b} h=>by
  have:mx a b=a:=by unfold mx;omega
  rw [this]
  simp
 unfold covB
 rw [e h0,e h1,e h2,e h3]
 rfl
theorem row_sub (h:RowsK R) (h':RowsK R') (hs:∀x∈allR R,x∈allR R') {i:Nat} (hi:i<4):(R i).length<=(R' i).length:=by
 have hn:(R i).Nodup:=(h.num.nodup).sublist (by
  have h4:i=0\/i=1\/i=2\/i=3:=zj
  unfold allR
  rcases h4 with rfl | rfl | rfl | rfl
  ·exact uM _ _
  ·exact (uM _ _).trans (uc _ _)
  ·exact ((uM _ _).trans (uc _ _)).trans (uc _ _)
  ·exact ((uc _ _).trans (uc _ _)).trans (uc _ _))
 refine len_sub hn (fun x hx=> ?_)
 have hx':=hs x (mem_allR.2 ⟨i,hi,hx⟩)
 obtain ⟨j,hj,hxj⟩:=mem_allR.1 hx'
 obtain ⟨_,_,e1,_⟩:=h.num.get hi hx
 obtain ⟨_,_,e2,_⟩:=h'.num.get hj hxj
 have:j=i:=zj
 rw [<-this];exact hxj
