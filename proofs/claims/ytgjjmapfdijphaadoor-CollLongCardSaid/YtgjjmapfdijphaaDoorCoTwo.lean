/- What several laws of coll use: two strings in a row, texts that begin with a text, Parse with positive weights. -/
import Derived.Test.YtgjjmapfdijphaaDoorCoLight
import Derived.Test.YtgjjmapfdijphaaDoorCoPos
import Derived.Test.YtgjjmapfdijphaaDoorCharsPlain2
namespace Go.Proofs.YtgjjmapfdijphaaDoor
open Go.RowKit Go.Lib Go.Shelf

theorem two_cells (w : World) (a b : ByteArray) (t : TypeId) : ∀ (j : Nat) s, [a, b][j]? = some s → (w.alloc (.cells #[.string a, .string b] t)).cell? ⟨w.heap.size, j, none⟩ = some (.string s) := by
  intro j s hj
  match j, hj with
  | 0, hj => cases hj; rw [cell_of_row _ _ 0 _ _ (0, 0) (heap_alloc_new _ _)]; rfl
  | 1, hj => cases hj; rw [cell_of_row _ _ 1 _ _ (0, 0) (heap_alloc_new _ _)]; rfl
  | n + 2, hj => simp at hj
theorem codes_behind (p : List Nat) (r : List UInt8) (h : ∀ c ∈ p, chr c = true) : codes (form p ++ r) = p ++ codes r := by
  induction p with
  | nil => rfl
  | cons c p ih =>
    have hc := h c (by simp)
    have hl := encode_len c
    have hne : form (c :: p) ++ r ≠ [] := by
      intro h0
      have := congrArg List.length h0
      rw [form_cons, List.length_append, List.length_append, List.length_nil] at this
      omega
    have ih' := ih (fun d hd => h d (by simp [hd]))
    unfold codes at ih' ⊢
    rw [steps_cons _ hne, form_cons, List.append_assoc, decode_encode c hc, List.drop_left, List.map_cons, ih']
    rfl
theorem prefix_le (T : Tb) (hT : Fits3 T) (a b : List UInt8) (ha : text a = true) (hab : text (a ++ b) = true) : cmpL (keyL T a) (keyL T (a ++ b)) ≤ 0 := by
  unfold keyL
  rw [if_pos ha, if_pos hab]
  have e : codes (a ++ b) = codes a ++ codes b := by
    have := codes_behind (codes a) b (text_chr a ha)
    rwa [form_codes a ha] at this
  have hb : ∀ c ∈ codes b, c ≤ 1114111 := by
    intro c hc
    have h1 := text_chr (a ++ b) hab c (by rw [e]; exact List.mem_append_right _ hc)
    rw [chr_iff] at h1
    omega
  rw [e]
  exact key_prefix T hT _ _ hb
theorem parse_somePos (s : ByteArray) (w : World) (hg : GrC w) :
    Calls Tryd.prog 13 #[.string s] w fun e w' => ∃ (o : Option Addr) (n k : Int) (T : Tb), e = .returned (.tuple #[.pointer o, .int .i64 n, .int .i64 k]) ∧ TabAt w' (.pointer o) T ∧ TabSmall T ∧ Fits3 T ∧ Below w.heap.size w w' := by
  cases h : parseL s.data.toList with
  | ok T =>
    refine (parse_ok s T w hg h).mono ?_
    rintro e w' ⟨p, rfl, h1, h2, hb⟩
    exact ⟨_, _, _, T, rfl, h1, h2, fits_of T (parse_pos _ _ h) h2.1 (fun c x hx => (h2.2.2 c x hx).1), hb⟩
  | error x =>
    refine (parse_bad s x.1 x.2 w hg h).mono ?_
    rintro e w' ⟨rfl, hb⟩
    have hs : TabSmall ⟨[], 0, 0⟩ := ⟨by decide, by decide, fun c x h => by cases h⟩
    exact ⟨none, _, _, ⟨[], 0, 0⟩, rfl, .inl ⟨rfl, rfl⟩, hs, fits_of _ (fun x hx => by cases hx) (by decide) (fun c x hx => by cases hx), hb⟩
end Go.Proofs.YtgjjmapfdijphaaDoor
