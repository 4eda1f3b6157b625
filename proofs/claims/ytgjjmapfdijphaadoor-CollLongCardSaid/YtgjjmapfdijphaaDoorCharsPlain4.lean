/- Plain facts on the places of a text's characters among its bytes. No program in this text. -/
import Derived.Test.YtgjjmapfdijphaaDoorCharsPlain3
namespace Go.Proofs.YtgjjmapfdijphaaDoor
open Go.Lib

/-- Where the character with place k begins. -/
def PP (l : List UInt8) (k : Nat) : Nat := (form ((codes l).take k)).length
theorem drop_of_split {l a b : List UInt8} (h : l = a ++ b) : l.drop a.length = b := by subst h; exact List.drop_left
theorem take_of_split {l a b : List UInt8} (h : l = a ++ b) : l.take a.length = a := by subst h; exact List.take_left
theorem PP_zero (l : List UInt8) : PP l 0 = 0 := rfl
theorem drop_PP (l : List UInt8) (h : text l = true) (k : Nat) : l.drop (PP l k) = form ((codes l).drop k) := by
  have e : l = form ((codes l).take k) ++ form ((codes l).drop k) := by rw [← form_append, List.take_append_drop, form_codes l h]
  exact drop_of_split e
theorem take_PP (l : List UInt8) (h : text l = true) (k : Nat) : l.take (PP l k) = form ((codes l).take k) := by
  have e : l = form ((codes l).take k) ++ form ((codes l).drop k) := by rw [← form_append, List.take_append_drop, form_codes l h]
  exact take_of_split e
theorem PP_end (l : List UInt8) (h : text l = true) (k : Nat) (hk : (codes l).length ≤ k) : PP l k = l.length := by
  unfold PP; rw [List.take_of_length_le hk, form_codes l h]
theorem PP_step (l : List UInt8) (h : text l = true) (k : Nat) (hk : k < (codes l).length) : PP l k < l.length ∧ PP l (k + 1) = PP l k + (decodeL (l.drop (PP l k))).2 := by
  have hd := drop_PP l h k
  rw [List.drop_eq_getElem_cons hk, form_cons] at hd
  have hc := text_chr l h _ (List.getElem_mem hk)
  have he := encode_len (codes l)[k]
  have hlen := congrArg List.length hd
  rw [List.length_drop, List.length_append] at hlen
  refine ⟨by omega, ?_⟩
  rw [hd, decode_encode _ hc]
  unfold PP
  rw [List.take_add_one, List.getElem?_eq_getElem hk, form_append, List.length_append]
  simp [form]
theorem PP_mono (l : List UInt8) (j k : Nat) (h : j ≤ k) : PP l j ≤ PP l k := by
  unfold PP
  have e : (codes l).take k = (codes l).take j ++ ((codes l).take k).drop j := by
    have := List.take_append_drop j ((codes l).take k)
    rw [List.take_take, Nat.min_eq_left h] at this
    exact this.symm
  rw [e, form_append, List.length_append]; omega
theorem PP_le (l : List UInt8) (h : text l = true) (k : Nat) : PP l k ≤ l.length := by
  have := PP_mono l k (k + (codes l).length) (by omega)
  rw [PP_end l h (k + (codes l).length) (by omega)] at this
  exact this
theorem piece_PP (l : List UInt8) (h : text l = true) (f t : Nat) (hft : f ≤ t) : piece l f t = (l.take (PP l t)).drop (PP l f) := by
  rw [take_PP l h t]
  unfold piece
  have e : (codes l).take t = (codes l).take f ++ ((codes l).take t).drop f := by
    have := List.take_append_drop f ((codes l).take t)
    rw [List.take_take, Nat.min_eq_left hft] at this
    exact this.symm
  conv => rhs; rw [e, form_append]
  unfold PP
  rw [List.drop_left]
theorem PP_lt (l : List UInt8) (h : text l = true) (k : Nat) (hk : PP l k < l.length) : k < (codes l).length := by
  rcases Nat.lt_or_ge k (codes l).length with h' | h'
  · exact h'
  · rw [PP_end l h k h'] at hk; omega
theorem piece_none (l : List UInt8) (f t : Nat) (h : t ≤ f) : piece l f t = [] := by
  unfold piece; rw [List.drop_eq_nil_of_le (by rw [List.length_take]; omega)]; rfl
end Go.Proofs.YtgjjmapfdijphaaDoor
