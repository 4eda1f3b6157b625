/- Plain facts: the UTF-8 form of characters is read as these characters; two texts are a text. No program in this text. -/
import Derived.Test.YtgjjmapfdijphaaDoorCharsPlain
namespace Go.Proofs.YtgjjmapfdijphaaDoor
open Go.Lib

theorem u8_nat (n : Nat) (h : n < 256) : (n.toUInt8).toNat = n := by
  show (UInt8.ofNat n).toNat = n
  rw [UInt8.toNat_ofNat']; omega
theorem u8_int (z : Int) (h0 : 0 ≤ z) (h : z < 256) : ((z.toNat).toUInt8).toNat = z.toNat := u8_nat _ (by omega)

theorem decode_one (b0 : UInt8) (t : List UInt8) : decodeL (b0 :: t) = decodeN (t.length + 1) b0.toNat (t.getD 0 0).toNat (t.getD 1 0).toNat (t.getD 2 0).toNat := by
  rw [decodeL_N]; rfl
set_option maxHeartbeats 1000000 in
theorem decode_encode (c : Nat) (h : chr c = true) (t : List UInt8) : decodeL (encodeRune (c : Int) ++ t) = (c, (encodeRune (c : Int)).length) := by
  rw [chr_iff] at h
  unfold encodeRune
  by_cases h1 : c ≤ 127
  · rw [encodeRuneZ_one (by omega) (by omega)]
    have := u8_int (c : Int) (by omega) (by omega)
    simp only [List.map_cons, List.map_nil, List.cons_append, List.nil_append]
    rw [decodeL_ascii _ _ (by rw [this]; omega), this]; simp
  · by_cases h2 : c ≤ 2047
    · rw [encodeRuneZ_two (by omega) (by omega)]
      have e0 := u8_int (192 + (c : Int) / 64) (by omega) (by omega)
      have e1 := u8_int (128 + (c : Int) % 64) (by omega) (by omega)
      simp only [List.map_cons, List.map_nil, List.cons_append, List.nil_append]
      rw [decode_one]
      simp only [List.getD_cons_zero, List.getD_cons_succ, List.length_cons, List.length_nil, e0, e1]
      unfold decodeN
      repeat' split
      all_goals first | (exfalso; omega) | (apply Prod.ext <;> simp only <;> omega)
    · by_cases h3 : c ≤ 65535
      · rw [encodeRuneZ_three (by omega)]
        have e0 := u8_int (224 + (c : Int) / 4096) (by omega) (by omega)
        have e1 := u8_int (128 + (c : Int) / 64 % 64) (by omega) (by omega)
        have e2 := u8_int (128 + (c : Int) % 64) (by omega) (by omega)
        simp only [List.map_cons, List.map_nil, List.cons_append, List.nil_append]
        rw [decode_one]
        simp only [List.getD_cons_zero, List.getD_cons_succ, List.length_cons, List.length_nil, e0, e1, e2]
        unfold decodeN
        repeat' split
        all_goals first | (exfalso; omega) | (apply Prod.ext <;> simp only <;> omega)
      · rw [encodeRuneZ_four (by omega) (by omega)]
        have e0 := u8_int (240 + (c : Int) / 262144) (by omega) (by omega)
        have e1 := u8_int (128 + (c : Int) / 4096 % 64) (by omega) (by omega)
        have e2 := u8_int (128 + (c : Int) / 64 % 64) (by omega) (by omega)
        have e3 := u8_int (128 + (c : Int) % 64) (by omega) (by omega)
        simp only [List.map_cons, List.map_nil, List.cons_append, List.nil_append]
        rw [decode_one]
        simp only [List.getD_cons_zero, List.getD_cons_succ, List.length_cons, List.length_nil, e0, e1, e2, e3]
        unfold decodeN
        repeat' split
        all_goals first | (exfalso; omega) | (apply Prod.ext <;> simp only <;> omega)
theorem encode_len (c : Nat) : 1 ≤ (encodeRune (c : Int)).length ∧ (encodeRune (c : Int)).length ≤ 4 := by
  unfold encodeRune; rw [List.length_map]; exact encodeRuneZ_length _
theorem bad_encode (c : Nat) (h : chr c = true) : bad (c, (encodeRune (c : Int)).length) = false := by
  unfold bad
  rw [decide_eq_false_iff_not]
  rintro ⟨h1, h2⟩
  simp only at h1 h2
  subst h1
  revert h2
  decide
theorem steps_form (p : List Nat) (h : ∀ c ∈ p, chr c = true) : steps (form p) = p.map fun c => (c, (encodeRune ((c : Nat) : Int)).length) := by
  induction p with
  | nil => rfl
  | cons c p ih =>
    have hc := h c (by simp)
    have hl := encode_len c
    have hne : form (c :: p) ≠ [] := by
      intro h0
      have := congrArg List.length h0
      rw [form_cons, List.length_append, List.length_nil] at this
      omega
    rw [steps_cons _ hne, form_cons, decode_encode c hc, List.drop_left, ih (fun d hd => h d (by simp [hd])), List.map_cons]
theorem codes_form (p : List Nat) (h : ∀ c ∈ p, chr c = true) : codes (form p) = p := by
  unfold codes; rw [steps_form p h, List.map_map]
  conv => rhs; rw [← List.map_id p]
  rfl
theorem text_form (p : List Nat) (h : ∀ c ∈ p, chr c = true) : text (form p) = true := by
  unfold text; rw [steps_form p h, List.all_map, List.all_eq_true]
  intro c hc
  simp [bad_encode c (h c hc), h c hc]
theorem text_append (a b : List UInt8) (ha : text a = true) (hb : text b = true) : text (a ++ b) = true ∧ codes (a ++ b) = codes a ++ codes b := by
  have e : a ++ b = form (codes a ++ codes b) := by rw [form_append, form_codes a ha, form_codes b hb]
  have hc : ∀ c ∈ codes a ++ codes b, chr c = true := by
    intro c hc
    rcases List.mem_append.1 hc with hc | hc
    · exact text_chr a ha c hc
    · exact text_chr b hb c hc
  rw [e]
  exact ⟨text_form _ hc, codes_form _ hc⟩
/-- The characters with the places from f on and before t, as bytes. -/
def piece (l : List UInt8) (f t : Nat) : List UInt8 := form (((codes l).take t).drop f)
theorem text_piece (l : List UInt8) (h : text l = true) (f t : Nat) : text (piece l f t) = true ∧ codes (piece l f t) = ((codes l).take t).drop f := by
  have hc : ∀ c ∈ ((codes l).take t).drop f, chr c = true := fun c hc => text_chr l h c (List.mem_of_mem_take (List.mem_of_mem_drop hc))
  exact ⟨text_form _ hc, codes_form _ hc⟩
end Go.Proofs.YtgjjmapfdijphaaDoor
