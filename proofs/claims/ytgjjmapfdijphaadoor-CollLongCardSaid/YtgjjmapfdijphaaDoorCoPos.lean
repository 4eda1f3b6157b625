/- Plain facts: the first weight of what a description lists is no 0; a text's key comes no later than that of a text that begins with it. No program in this text. -/
import Derived.Test.YtgjjmapfdijphaaDoorCoInv
import Derived.Test.YtgjjmapfdijphaaDoorCoCmp
namespace Go.Proofs.YtgjjmapfdijphaaDoor
open Go.Lib

theorem wtNext_pos {x : Wt} (h : 1 ≤ x.1) (lv : Nat) : 1 ≤ (wtNext x lv).1 := by
  unfold wtNext
  split
  · simp
  · split <;> exact h
theorem listGo_pos : ∀ (ws : List (List UInt8)) (last : Wt) (acc : List (Nat × Wt)) (last' : Wt) (es : List (Nat × Wt)), listGo last acc ws = some (last', es) → 1 ≤ last.1 → ∀ x ∈ es, x ∈ acc ∨ 1 ≤ x.2.1
  | [], last, acc, last', es, h, hl => by
    unfold listGo at h
    cases h
    exact fun x hx => .inl hx
  | [a], last, acc, last', es, h, hl => by
    unfold listGo at h
    cases h
  | s :: c :: t, last, acc, last', es, h, hl => by
    unfold listGo at h
    split at h
    · rename_i lv ch _ _
      have h3 := listGo_pos t (wtNext last lv) (acc ++ [(ch, wtNext last lv)]) last' es h (wtNext_pos hl lv)
      intro x hx
      rcases h3 x hx with hx | hx
      · rcases List.mem_append.1 hx with hx | hx
        · exact .inl hx
        · obtain rfl := List.mem_singleton.1 hx
          exact .inr (wtNext_pos hl lv)
      · exact .inr hx
    · cases h
/-- What begins with the sign for another first weight. -/
theorem listGo_first (ws : List (List UInt8)) (last last' : Wt) (es : List (Nat × Wt)) (h : listGo last [] ([60] :: ws) = some (last', es)) : ∀ x ∈ es, 1 ≤ x.2.1 := by
  match ws, h with
  | [], h => unfold listGo at h; cases h
  | c :: t, h =>
    unfold listGo at h
    rw [show signL [60] = some 0 from rfl] at h
    split at h
    · rename_i lv ch e _
      cases e
      have h1 : 1 ≤ (wtNext last 0).1 := by unfold wtNext; rw [if_pos rfl]; simp
      intro x hx
      rcases listGo_pos t _ _ _ _ h h1 x hx with hx | hx
      · rw [List.nil_append] at hx
        obtain rfl := List.mem_singleton.1 hx
        exact h1
      · exact hx
    · cases h
def Pos (tab : List (Nat × Wt)) : Prop := ∀ x ∈ tab, x.2 = (0, 0, 0) ∨ 1 ≤ x.2.1
theorem keepD_pos (es : List (Nat × Wt)) (d d' : Ds) (h : keepD es d = .ok d') (hd : Pos d.tab) (hes : ∀ x ∈ es, x.2 = (0, 0, 0) ∨ 1 ≤ x.2.1) : Pos d'.tab := by
  unfold keepD at h
  cases hK : keepL es d.tab with
  | none => rw [hK] at h; cases h
  | some tab =>
    rw [hK] at h
    simp only at h
    split at h
    · cases h
    · cases h
      intro x hx
      rcases (keepL_le es d.tab tab hK).2 x hx with hx | hx
      · exact hd x hx
      · exact hes x hx
theorem addL_pos (line : List UInt8) (d d' : Ds) (h : addL line d = .ok d') (hd : Pos d.tab) : Pos d'.tab := by
  unfold addL at h
  split at h
  · cases h; exact hd
  · split at h
    · cases h; exact hd
    · split at h
      · unfold setStr at h
        split at h
        · split at h
          · cases h
          · split at h
            · cases h
            · cases h; exact hd
        · cases h
      · split at h
        · unfold ignoreD at h
          split at h
          · cases h
          · split at h
            · cases h
            · refine keepD_pos _ d d' h hd (fun x hx => ?_)
              obtain ⟨c, _, rfl⟩ := List.mem_map.1 hx
              exact .inl rfl
        · unfold listD at h
          split at h
          · cases h
          · rename_i last es hgo
            exact keepD_pos es { d with last := last } d' h hd (fun x hx => .inr (listGo_first _ _ _ _ hgo x hx))
theorem linesGo_pos : ∀ (l : List (List UInt8)) (n : Nat) (d d' : Ds), linesGo n d l = .ok d' → Pos d.tab → Pos d'.tab
  | [], n, d, d', h, hd => by unfold linesGo at h; cases h; exact hd
  | x :: t, n, d, d', h, hd => by
    unfold linesGo at h
    split at h
    · cases h
    · rename_i d1 h1
      exact linesGo_pos t (n + 1) d1 d' h (addL_pos x d d1 h1 hd)
theorem parse_pos (l : List UInt8) (T : Tb) (h : parseL l = .ok T) : Pos T.tab := by
  unfold parseL at h
  split at h
  · cases h
  · split at h
    · cases h
    · split at h
      · cases h
      · rename_i d hd
        cases h
        exact linesGo_pos _ 0 _ d hd (fun x hx => by cases hx)
theorem cmp_zero (A : UInt8) (s t : List UInt8) (h : A ≠ 0) : cmpL (0 :: s) (A :: t) = -1 := by
  rw [cmpL_cons, if_pos]
  rw [UInt8.lt_iff_toNat_lt]
  exact Nat.pos_of_ne_zero (fun e => h (UInt8.toNat_inj.1 e))
theorem cmp_zeros (s t : List UInt8) : cmpL (0 :: s) (0 :: t) = cmpL s t := by rw [cmpL_cons]; simp
/-- Three bytes of a number that is no 0, after three bytes of 0. -/
theorem three_pos (n : Nat) (h0 : 1 ≤ n) (h1 : n < 16777216) (a b : List UInt8) : cmpL (three 0 ++ a) (three n ++ b) = -1 := by
  have hz : ∀ x : Nat, x.toUInt8 = 0 → x % 256 = 0 := fun x h => by
    have := congrArg UInt8.toNat h
    simpa [Nat.toUInt8, UInt8.toNat_ofNat'] using this
  show cmpL (0 :: 0 :: 0 :: a) ((n / 65536).toUInt8 :: (n / 256).toUInt8 :: n.toUInt8 :: b) = -1
  by_cases hA : (n / 65536).toUInt8 = 0
  · rw [hA, cmp_zeros]
    by_cases hB : (n / 256).toUInt8 = 0
    · rw [hB, cmp_zeros]
      refine cmp_zero _ _ _ (fun hC => ?_)
      have := hz _ hA
      have := hz _ hB
      have := hz _ hC
      omega
    · exact cmp_zero _ _ _ hB
  · exact cmp_zero _ _ _ hA
/-- First weights are no 0, and fit in three bytes. -/
def Fits3 (T : Tb) : Prop := ∀ c, c ≤ 1114111 → wtOf T c = (0, 0, 0) ∨ (1 ≤ (wtOf T c).1 ∧ (wtOf T c).1 < 16777216)
theorem level_app (T : Tb) (lv : Nat) (xs ys : List Nat) : levelL T lv (xs ++ ys) = levelL T lv xs ++ levelL T lv ys := by unfold levelL; exact List.flatMap_append
theorem level_cons (T : Tb) (lv c : Nat) (ys : List Nat) : levelL T lv (c :: ys) = (if wtOf T c = (0, 0, 0) then [] else three (wtAt (wtOf T c) lv)) ++ levelL T lv ys := rfl
theorem level_first (T : Tb) (hT : Fits3 T) : ∀ ys : List Nat, (∀ c ∈ ys, c ≤ 1114111) → (∀ lv, levelL T lv ys = []) ∨ ∃ n rest, 1 ≤ n ∧ n < 16777216 ∧ levelL T 0 ys = three n ++ rest
  | [], _ => .inl fun _ => rfl
  | c :: t, h => by
    rcases hT c (h c (by simp)) with h0 | ⟨h1, h2⟩
    · rcases level_first T hT t (fun x hx => h x (by simp [hx])) with h3 | ⟨n, rest, h4, h5, h6⟩
      · exact .inl fun lv => by rw [level_cons, if_pos h0, h3]; rfl
      · exact .inr ⟨n, rest, h4, h5, by rw [level_cons, if_pos h0, h6]; rfl⟩
    · refine .inr ⟨(wtOf T c).1, levelL T 0 t, h1, h2, ?_⟩
      rw [level_cons, if_neg]
      · rfl
      · intro e; rw [e] at h1; simp at h1
theorem key_prefix (T : Tb) (hT : Fits3 T) (xs ys : List Nat) (h : ∀ c ∈ ys, c ≤ 1114111) : cmpL (keyC T xs) (keyC T (xs ++ ys)) ≤ 0 := by
  unfold keyC
  rw [level_app, List.append_assoc, cmpL_same]
  rcases level_first T hT ys h with h0 | ⟨n, rest, h1, h2, h3⟩
  · have e : ∀ lv, restL T (xs ++ ys) lv = restL T xs lv := fun lv => by unfold restL; rw [level_app, h0 lv, List.append_nil]
    rw [h0 0, List.nil_append, e, e, cmpL_self]
    exact Int.le_refl 0
  · rw [h3, List.append_assoc]
    by_cases h4 : 2 ≤ T.str
    · rw [if_pos h4]
      unfold restL
      rw [List.append_assoc, three_pos n h1 h2]
      decide
    · rw [if_neg h4, if_neg (show ¬ 3 ≤ T.str by omega)]
      exact cmpL_app [] _
theorem fits_of (T : Tb) (hp : Pos T.tab) (hl : T.last ≤ 1000000) (hx : ∀ c x, lookL T.tab c = some x → x.1 ≤ 1000000) : Fits3 T := by
  have hmem : ∀ (l : List (Nat × Wt)) (c : Nat) (x : Wt), lookL l c = some x → ∃ y ∈ l, y.2 = x := by
    intro l
    induction l with
    | nil => intro c x h; cases h
    | cons e r ih =>
      intro c x h
      unfold lookL at h
      split at h
      · cases h; exact ⟨e, by simp, rfl⟩
      · obtain ⟨y, h1, h2⟩ := ih c x h
        exact ⟨y, by simp [h1], h2⟩
  intro c hc
  unfold wtOf
  cases h : lookL T.tab c with
  | none => right; simp only; omega
  | some x =>
    simp only
    obtain ⟨y, hy, rfl⟩ := hmem _ c x h
    rcases hp y hy with h1 | h1
    · exact .inl h1
    · exact .inr ⟨h1, by have := hx c _ h; omega⟩
end Go.Proofs.YtgjjmapfdijphaaDoor
