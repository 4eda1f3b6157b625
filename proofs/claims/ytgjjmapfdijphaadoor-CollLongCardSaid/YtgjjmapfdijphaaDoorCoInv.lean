/- Plain facts: what the lines of a description keep small. No program in this text. -/
import Derived.Test.YtgjjmapfdijphaaDoorCoPure
namespace Go.Proofs.YtgjjmapfdijphaaDoor
open Go.Lib

def wtLe (x : Wt) (M : Nat) : Prop := x.1 ≤ M ∧ x.2.1 ≤ M ∧ x.2.2 ≤ M
theorem wtLe.up {x : Wt} {M N : Nat} (h : wtLe x M) (hN : M ≤ N) : wtLe x N := ⟨Nat.le_trans h.1 hN, Nat.le_trans h.2.1 hN, Nat.le_trans h.2.2 hN⟩
theorem wtLe.next {x : Wt} {M : Nat} (h : wtLe x M) (lv : Nat) : wtLe (wtNext x lv) (M + 1) := by
  obtain ⟨h0, h1, h2⟩ := h
  unfold wtNext wtLe
  split
  · simp; omega
  · split <;> simp <;> omega
theorem listGo_le : ∀ (ws : List (List UInt8)) (last : Wt) (acc : List (Nat × Wt)) (M : Nat) (last' : Wt) (es : List (Nat × Wt)), listGo last acc ws = some (last', es) → wtLe last M →
    ∃ k, es.length = acc.length + k ∧ wtLe last' (M + k) ∧ ∀ x ∈ es, x ∈ acc ∨ wtLe x.2 (M + k)
  | [], last, acc, M, last', es, h, hl => by
    unfold listGo at h
    cases h
    exact ⟨0, rfl, hl, fun x hx => .inl hx⟩
  | [a], last, acc, M, last', es, h, hl => by
    unfold listGo at h
    cases h
  | s :: c :: t, last, acc, M, last', es, h, hl => by
    unfold listGo at h
    split at h
    · rename_i lv ch _ _
      obtain ⟨k, h1, h2, h3⟩ := listGo_le t (wtNext last lv) (acc ++ [(ch, wtNext last lv)]) (M + 1) last' es h (hl.next lv)
      refine ⟨k + 1, by rw [h1]; simp; omega, h2.up (by omega), fun x hx => ?_⟩
      rcases h3 x hx with hx | hx
      · rcases List.mem_append.1 hx with hx | hx
        · exact .inl hx
        · obtain rfl := List.mem_singleton.1 hx
          exact .inr ((hl.next lv).up (by omega))
      · exact .inr (hx.up (by omega))
    · cases h
theorem keepL_le : ∀ (es tab tab' : List (Nat × Wt)), keepL es tab = some tab' → tab'.length = tab.length + es.length ∧ ∀ x ∈ tab', x ∈ tab ∨ x ∈ es
  | [], tab, tab', h => by
    unfold keepL at h
    cases h
    exact ⟨rfl, fun x hx => .inl hx⟩
  | e :: r, tab, tab', h => by
    unfold keepL at h
    split at h
    · cases h
    · obtain ⟨h1, h2⟩ := keepL_le r (e :: tab) tab' h
      refine ⟨by rw [h1]; simp; omega, fun x hx => ?_⟩
      rcases h2 x hx with hx | hx
      · rcases List.mem_cons.1 hx with rfl | hx
        · exact .inr (by simp)
        · exact .inl hx
      · exact .inr (by simp [hx])
/-- What stays small. -/
structure Inv (d : Ds) : Prop where
  len : d.tab.length ≤ 4096
  last : wtLe d.last d.tab.length
  tab : ∀ x ∈ d.tab, wtLe x.2 4096
  str : d.str ≤ 3
theorem keepD_inv (es : List (Nat × Wt)) (d d' : Ds) (k : Nat) (h : keepD es d = .ok d') (hd : Inv d) (l : Wt) (hl : wtLe l (d.tab.length + k)) (hk : k ≤ es.length) (hes : ∀ x ∈ es, wtLe x.2 (d.tab.length + es.length)) (d2 : Ds) (h2 : d2 = { d' with last := l }) : Inv d2 := by
  unfold keepD at h
  cases hK : keepL es d.tab with
  | none => rw [hK] at h; cases h
  | some tab =>
    rw [hK] at h
    simp only at h
    split at h
    · cases h
    · cases h
      obtain ⟨h3, h4⟩ := keepL_le es d.tab tab hK
      subst h2
      refine ⟨by simp only; omega, hl.up (by simp only; omega), fun x hx => ?_, hd.str⟩
      rcases h4 x hx with hx | hx
      · exact hd.tab x hx
      · exact (hes x hx).up (by omega)
theorem keepD_last (es : List (Nat × Wt)) (d d' : Ds) (h : keepD es d = .ok d') : d'.last = d.last ∧ d'.str = d.str := by
  unfold keepD at h
  split at h
  · cases h
  · split at h
    · cases h
    · cases h; exact ⟨rfl, rfl⟩
theorem strOf_three (x : List UInt8) : strOf x ≤ 3 := by unfold strOf; split <;> (try omega); split <;> (try omega); split <;> omega
theorem addL_inv (line : List UInt8) (d d' : Ds) (h : addL line d = .ok d') (hd : Inv d) : Inv d' := by
  unfold addL at h
  split at h
  · cases h; exact hd
  · split at h
    · cases h; exact hd
    · split at h
      · unfold setStr at h
        split at h
        · split at h
          · cases h
          · split at h
            · cases h
            · cases h
              exact ⟨hd.len, hd.last, hd.tab, strOf_three _⟩
        · cases h
      · split at h
        · unfold ignoreD at h
          split at h
          · cases h
          · split at h
            · cases h
            · rename_i cs _
              refine keepD_inv _ d d' 0 h hd d.last hd.last (Nat.zero_le _) (fun x hx => ?_) d' ?_
              · obtain ⟨c, _, rfl⟩ := List.mem_map.1 hx
                exact ⟨Nat.zero_le _, Nat.zero_le _, Nat.zero_le _⟩
              · obtain ⟨h1, _⟩ := keepD_last _ _ _ h
                rw [← h1]
        · unfold listD at h
          split at h
          · cases h
          · rename_i last es hgo
            obtain ⟨k, h1, h2, h3⟩ := listGo_le _ _ _ _ _ _ hgo hd.last
            have hk : k = es.length := by simpa using h1.symm
            obtain ⟨h4, h5⟩ := keepD_last _ _ _ h
            have hK : keepD es d = .ok { d' with last := d.last } := by
              unfold keepD at h ⊢
              split at h
              · cases h
              · rename_i hkk
                simp only at hkk
                rw [hkk]
                simp only
                split at h
                · cases h
                · rename_i hlt
                  rw [if_neg hlt]
                  cases h; rfl
            refine keepD_inv es d _ k hK hd last h2 (by omega) (fun x hx => ?_) d' ?_
            · rcases h3 x hx with hx | hx
              · cases hx
              · rw [← hk]; exact hx
            · simp only at h4
              rw [← h4]
end Go.Proofs.YtgjjmapfdijphaaDoor
