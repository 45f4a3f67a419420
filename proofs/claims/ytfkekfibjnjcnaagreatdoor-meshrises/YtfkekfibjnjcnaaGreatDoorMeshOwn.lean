import Derived.Test.YtfkekfibjnjcnaaGreatDoorMZ28
set_option linter.unusedSimpArgs false
set_option linter.unusedVariables false
namespace Go.Proofs.YtfkekfibjnjcnaaGreatDoor
section
open Go.RowKit Go.Lib Go.Sort Go.Maps
open scoped Classical
def ownN (G:List OpX) (r:Nat):Nat:=(G.filter (fun x=>decide (byO x=(r:Int)))).length
theorem ownN_more (G:List OpX) (y:OpX) (r:Nat):ownN (G++ [y]) r=ownN G r+(if byO y=(r:Int) then 1 else 0):=by
 unfold ownN
 rw [List.filter_append,List.length_append]
 by_cases h:byO y=(r:Int)
 ·simp [h]
 simp [h]
theorem row_nodup {R:Rws} (h:RowsK R) {i:Nat} (hi:i<4):(R i).Nodup:=(h.num.nodup).sublist (by
 have h4:i=0∨i=1∨i=2∨i=3:=by omega
 unfold allR
 rcases h4 with rfl | rfl | rfl | rfl
 ·exact List.sublist_append_left _ _
 ·exact (List.sublist_append_left _ _).trans (List.sublist_append_right _ _)
 ·exact ((List.sublist_append_left _ _).trans (List.sublist_append_right _ _)).trans (List.sublist_append_right _ _)
 ·exact ((List.sublist_append_right _ _).trans (List.sublist_append_right _ _)).trans (List.sublist_append_right _ _))
theorem own_count {n i:Nat} {G:List OpX} {K:Nat→Rws} {D:Nat→List OpX} {st:Nat→DSt} {N:List NoteX} (hI:MeshI n i G K D st N) {r:Nat} (hr:r<n) (hr4:r<4):(K r r).length=ownN G r:=by
 unfold ownN
 have hp:(K r r).Perm (G.filter (fun x=>decide (byO x=(r:Int)))):=by
  refine (List.perm_ext_iff_of_nodup (row_nodup (hI.rows r hr) hr4) (hI.inv.nodup.sublist List.filter_sublist)).2 fun a=>⟨fun q=> ?_,fun q=> ?_⟩
  ·refine List.mem_filter.2 ⟨hI.inv.sub r hr a (mem_allR.2 ⟨r,hr4,q⟩),?_⟩
   obtain ⟨_,_,e,_⟩:=NumK.get (hI.rows r hr).num hr4 q
   exact decide_eq_true e
  obtain ⟨q1,q2⟩:=List.mem_filter.1 q
  have q2:byO a=(r:Int):=of_decide_eq_true q2
  obtain ⟨r',hr',e,hd⟩:=hI.inv.own a q1
  obtain rfl:r'=r:=by omega
  have ha:=hI.inv.disk r' hr' a hd
  obtain ⟨j,hj,hx⟩:=mem_allR.1 ha
  obtain ⟨_,_,e2,_⟩:=NumK.get (hI.rows r' hr').num hj hx
  obtain rfl:j=r':=by omega
  exact hx
 exact hp.length_eq
end
end Go.Proofs.YtfkekfibjnjcnaaGreatDoor
