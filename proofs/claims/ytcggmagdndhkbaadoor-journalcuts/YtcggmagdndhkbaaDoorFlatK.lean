/- Lists laid flat, so many cells an element. Of no program. -/
import Derived.Test.YtcggmagdndhkbaaDoorRowOver
namespace Go.Proofs.YtcggmagdndhkbaaDoor
open Go

section
variable {α : Type} {enc : α → List Value} {k : Nat}
def flat (enc : α → List Value) (L : List α) : List Value := L.flatMap enc
theorem flat_nil : flat enc [] = [] := rfl
theorem flat_cons (x : α) (L : List α) : flat enc (x :: L) = enc x ++ flat enc L := rfl
theorem flat_append (L M : List α) : flat enc (L ++ M) = flat enc L ++ flat enc M := by simp [flat]
theorem flat_len (hk : ∀ x, (enc x).length = k) : ∀ L : List α, (flat enc L).length = L.length * k
  | [] => by simp [flat]
  | x :: L => by rw [flat_cons, List.length_append, hk, flat_len hk L, List.length_cons, Nat.succ_mul]; omega
theorem flat_take (hk : ∀ x, (enc x).length = k) (L : List α) (i : Nat) (hi : i ≤ L.length) : (flat enc L).take (i * k) = flat enc (L.take i) := by
  conv => lhs; rw [← List.take_append_drop i L]
  rw [flat_append, List.take_append_of_le_length (by rw [flat_len hk]; simp [Nat.min_eq_left hi]), List.take_of_length_le (by rw [flat_len hk]; simp [Nat.min_eq_left hi])]
theorem flat_drop (hk : ∀ x, (enc x).length = k) (L : List α) (i : Nat) (hi : i ≤ L.length) : (flat enc L).drop (i * k) = flat enc (L.drop i) := by
  conv => lhs; rw [← List.take_append_drop i L]
  rw [flat_append, List.drop_append_of_le_length (by rw [flat_len hk]; simp [Nat.min_eq_left hi]), List.drop_of_length_le (by rw [flat_len hk]; simp [Nat.min_eq_left hi])]
  rfl
theorem flat_get (hk : ∀ x, (enc x).length = k) {L : List α} {i c : Nat} {x : α} (hx : L[i]? = some x) (hc : c < k) : (flat enc L)[i * k + c]? = (enc x)[c]? := by
  obtain ⟨hil, hie⟩ := List.getElem?_eq_some_iff.1 hx
  have h1 : (flat enc L)[i * k + c]? = ((flat enc L).drop (i * k))[c]? := by rw [List.getElem?_drop]
  rw [h1, flat_drop hk L i (by omega), List.drop_eq_getElem_cons hil, hie, flat_cons, List.getElem?_append_left (by rw [hk]; exact hc)]
theorem flat_lay (hk : ∀ x, (enc x).length = k) (L : List α) (i : Nat) (hi : i ≤ L.length) (x : α) : flat enc (L.take i ++ x :: L.drop i) = (flat enc L).take (i * k) ++ enc x ++ (flat enc L).drop (i * k) := by
  rw [flat_append, flat_cons, flat_take hk L i hi, flat_drop hk L i hi, List.append_assoc]
theorem flat_set (hk : ∀ x, (enc x).length = k) (L : List α) (i : Nat) (hi : i < L.length) (x : α) : flat enc (L.set i x) = (flat enc L).take (i * k) ++ enc x ++ (flat enc L).drop ((i + 1) * k) := by
  rw [List.set_eq_take_append_cons_drop, if_pos hi, flat_append, flat_cons, flat_take hk L i (by omega), flat_drop hk L (i + 1) (by omega), List.append_assoc]
theorem flat_one (h1 : ∀ x, ∀ v ∈ enc x, v.oneCell' = true) (L : List α) : ∀ v ∈ flat enc L, v.oneCell' = true := by
  intro v hv
  obtain ⟨x, _, hx⟩ := List.mem_flatMap.1 hv
  exact h1 x v hx
end

/-- Some cells of a row of one's own are written over. -/
theorem owns_over {w : World} {base k g n cap : Nat} {E : TypeId} {A B C vs : List Value} (h : w.ownsRow base E k (.slice (some ⟨g, 0, none⟩) n cap) n (A ++ B ++ C)) (hl : B.length = vs.length) :
    (w.setCells g A.length vs).ownsRow base E k (.slice (some ⟨g, 0, none⟩) n cap) n (A ++ vs ++ C) := by
  obtain ⟨hlen, h2⟩ := h
  rcases h2 with ⟨hc, _⟩ | ⟨g', cap', cur, hc, hb, hg, hn, hm, hs, ht⟩
  · cases hc
  · cases hc
    have hlen' : (A ++ vs ++ C).length = n * k := by rw [← hlen]; simp [hl]
    refine ⟨hlen', .inr ⟨g, cap, _, rfl, hb, setCells_heap g vs A.length w cur E hg, hn, hm, by rw [over_size, hs], ?_⟩⟩
    have hcur : cur.toList = A ++ B ++ (C ++ cur.toList.drop (n * k)) := by
      conv => lhs; rw [← List.take_append_drop (n * k) cur.toList]
      rw [ht]; simp
    rw [over_list vs A B _ cur hcur hl, ← List.append_assoc, List.take_append_of_le_length (by omega), List.take_of_length_le (by omega)]
end Go.Proofs.YtcggmagdndhkbaaDoor
