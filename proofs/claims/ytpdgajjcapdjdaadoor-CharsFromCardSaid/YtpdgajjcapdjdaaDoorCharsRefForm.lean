/- The contracts of the specification's form and From. -/
import Derived.Test.YtpdgajjcapdjdaaDoorCharsRefNorm
import Derived.Test.YtpdgajjcapdjdaaDoorCharsLawBack
namespace Go.Proofs.YtpdgajjcapdjdaaDoor
open Go.RowKit Go.Lib

/-- 'string([]byte{..})'. -/
theorem conv_lit (w : World) (r : Int) (xs : List Int) (C : Array Value) (k : Nat) (hx : encodeRuneZ r = xs) (hC : C = (xs.map (Value.int .u8)).toArray) (hk : k = xs.length) :
    (convert 50 9 (.slice (some ⟨w.heap.size, 0, none⟩) k k)).run Tryd.prog (w.alloc (.cells C 5)) = .ok (.string ⟨(encodeRune r).toArray⟩) (w.alloc (.cells C 5)) := by
  subst hk hC
  have := run_convert_bytes_arg (P := Tryd.prog) (w.alloc (.cells (xs.map (Value.int .u8)).toArray 5)) 50 5 Tryd.underlying50 Tryd.underlying5 w.heap.size 0 xs.length xs.length xs rfl (fun i hi => by
    rw [Nat.zero_add]
    have e : (w.alloc (.cells (xs.map (Value.int .u8)).toArray 5)).heap[w.heap.size]? = some (.cells (xs.map (Value.int .u8)).toArray 5) := by
      show (w.heap.push _)[w.heap.size]? = _
      simp
    unfold World.cell?
    rw [e]
    simp [hi]) 9 Tryd.underlying9
  rw [this]
  subst hx
  rfl
set_option maxHeartbeats 1000000 in
set_option maxRecDepth 100000 in
theorem form_one (n : Nat) (w : World) (_h0 : 0 ≤ n) (h1 : n < 128) :
    Calls Tryd.prog 52 #[.int .i64 (n : Int)] w fun e w' => e = .returned (.string ⟨(encodeRune (n : Int)).toArray⟩) ∧ Below w.heap.size w w' := by
  have g4 : (n : Int) < 128 := by omega
  have g5 : (0 : Int) ≤ (n : Int) := by omega
  have hc := conv_lit w (n : Int) [(n : Int)] #[.int .u8 ((n : Int))] 1 (encodeRuneZ_one (by omega) (by omega)) rfl rfl
  generalize encodeRune (n : Int) = E at hc ⊢
  go_enter Tryd.func52, Tryd.ntmps52
  go_wp2
  go_ret
  exact ⟨rfl, (Below.refl _ _).alloc (Nat.le_refl _) _⟩
set_option maxHeartbeats 1000000 in
set_option maxRecDepth 100000 in
theorem form_two (n : Nat) (w : World) (_h0 : 128 ≤ n) (h1 : n < 2048) :
    Calls Tryd.prog 52 #[.int .i64 (n : Int)] w fun e w' => e = .returned (.string ⟨(encodeRune (n : Int)).toArray⟩) ∧ Below w.heap.size w w' := by
  have g1 : ¬ (n : Int) < 128 := by omega
  have g4 : (n : Int) < 2048 := by omega
  have g5 : (0 : Int) ≤ (n : Int) := by omega
  have hc := conv_lit w (n : Int) [192 + (n : Int) / 64, 128 + (n : Int) % 64] #[.int .u8 (192 + (n : Int) / 64), .int .u8 (128 + (n : Int) % 64)] 2 (encodeRuneZ_two (by omega) (by omega)) rfl rfl
  generalize encodeRune (n : Int) = E at hc ⊢
  go_enter Tryd.func52, Tryd.ntmps52
  go_wp2
  go_ret
  exact ⟨rfl, (Below.refl _ _).alloc (Nat.le_refl _) _⟩
set_option maxHeartbeats 1000000 in
set_option maxRecDepth 100000 in
theorem form_three (n : Nat) (w : World) (_h0 : 2048 ≤ n) (h1 : n < 65536) (hs : n < 55296 ∨ 57343 < n) :
    Calls Tryd.prog 52 #[.int .i64 (n : Int)] w fun e w' => e = .returned (.string ⟨(encodeRune (n : Int)).toArray⟩) ∧ Below w.heap.size w w' := by
  have g1 : ¬ (n : Int) < 128 := by omega
  have g2 : ¬ (n : Int) < 2048 := by omega
  have g4 : (n : Int) < 65536 := by omega
  have g5 : (0 : Int) ≤ (n : Int) := by omega
  have hc := conv_lit w (n : Int) [224 + (n : Int) / 4096, 128 + (n : Int) / 64 % 64, 128 + (n : Int) % 64] #[.int .u8 (224 + (n : Int) / 4096), .int .u8 (128 + (n : Int) / 64 % 64), .int .u8 (128 + (n : Int) % 64)] 3 (encodeRuneZ_three (by omega)) rfl rfl
  generalize encodeRune (n : Int) = E at hc ⊢
  go_enter Tryd.func52, Tryd.ntmps52
  go_wp2
  go_ret
  exact ⟨rfl, (Below.refl _ _).alloc (Nat.le_refl _) _⟩
set_option maxHeartbeats 1000000 in
set_option maxRecDepth 100000 in
theorem form_four (n : Nat) (w : World) (_h0 : 65536 ≤ n) (h1 : n < 1114112) :
    Calls Tryd.prog 52 #[.int .i64 (n : Int)] w fun e w' => e = .returned (.string ⟨(encodeRune (n : Int)).toArray⟩) ∧ Below w.heap.size w w' := by
  have g1 : ¬ (n : Int) < 128 := by omega
  have g2 : ¬ (n : Int) < 2048 := by omega
  have g3 : ¬ (n : Int) < 65536 := by omega
  have g4 : (n : Int) < 1114112 := by omega
  have g5 : (0 : Int) ≤ (n : Int) := by omega
  have hc := conv_lit w (n : Int) [240 + (n : Int) / 262144, 128 + (n : Int) / 4096 % 64, 128 + (n : Int) / 64 % 64, 128 + (n : Int) % 64] #[.int .u8 (240 + (n : Int) / 262144), .int .u8 (128 + (n : Int) / 4096 % 64), .int .u8 (128 + (n : Int) / 64 % 64), .int .u8 (128 + (n : Int) % 64)] 4 (encodeRuneZ_four (by omega) (by omega)) rfl rfl
  generalize encodeRune (n : Int) = E at hc ⊢
  go_enter Tryd.func52, Tryd.ntmps52
  go_wp2
  go_ret
  exact ⟨rfl, (Below.refl _ _).alloc (Nat.le_refl _) _⟩
theorem refForm_any (n : Nat) (w : World) (h : chr n = true) :
    Calls Tryd.prog 52 #[.int .i64 (n : Int)] w fun e w' => e = .returned (.string ⟨(encodeRune (n : Int)).toArray⟩) ∧ Below w.heap.size w w' := by
  rw [chr_iff] at h
  by_cases h1 : n < 128
  · exact form_one n w (by omega) h1
  · by_cases h2 : n < 2048
    · exact form_two n w (by omega) h2
    · by_cases h3 : n < 65536
      · exact form_three n w (by omega) h3 (by omega)
      · exact form_four n w (by omega) (by omega)

set_option maxHeartbeats 4000000 in
set_option maxRecDepth 100000 in
theorem refFrom_any (a : Option Addr) (n cap : Nat) (zs : List Int) (w : World) (hv : Ints w (.slice a n cap) zs) (hzn : zs.length = n) (hn : n ≤ 17592186044416) :
    Calls Tryd.prog 26 #[.slice a n cap] w fun e w' => e = .returned (fromV zs) ∧ Below w.heap.size w w' := by
  obtain ⟨i0, hi, hz0, hz1, hz2⟩ := info_parts infoByte
  subst hzn
  have HV := Lib.hid hv
  clear hv
  go_enter Tryd.func26, Tryd.ntmps26
  go_wp2
  go_loopg [4, 5] zs.length (fun g v s5 wx => ∃ i : Nat, s5 = .int .i64 i ∧ i + g = zs.length ∧ wx.ownsRow w.heap.size 5 1 v (formZ (zs.take i)).length (byteCells (formZ (zs.take i))) ∧ Below w.heap.size w wx ∧ Hid ((zs.take i).all chrZ = true))
  case atStart => exact ⟨0, rfl, by omega, World.ownsRow_nil _ _ _ _, Below.refl _ _, Lib.hid rfl⟩
  case round =>
    obtain ⟨i, rfl, hig, hown, hbw, HA⟩ := hrel
    by_cases hlt : i < zs.length
    · obtain ⟨g, rfl⟩ : ∃ g, gk = g + 1 := ⟨gk - 1, by omega⟩
      obtain ⟨z, hz⟩ : ∃ z, zs[i]? = some z := ⟨_, List.getElem?_eq_getElem hlt⟩
      obtain ⟨b1, o1, rfl, hc1⟩ := (HV.out.later hbw).cell i z hz
      have hc0 := HV.out.cell i z hz
      obtain ⟨b2, o2, he, hc0⟩ := hc0
      cases he
      have hbl := lt_of_cell hc0
      have cI := fun W => refIsChar_any z W
      cases hch : chrZ z <;> rw [hch] at cI
      · have HF := Lib.hid (fromV_no zs i z hz hch)
        clear hz hch HA hc0
        go_wp2_with (go_at_call 31; refine (cI _).mono ?_; rintro e w' ⟨rfl, rfl⟩)
        go_ret2
        exact ⟨by rw [HF.out]; rfl, hbw⟩
      · have hbd := chrZ_bd z hch
        obtain ⟨m, rfl⟩ := Int.eq_ofNat_of_zero_le hbd.1
        have hcm : chr m = true := by rw [← chrZ_nat]; exact hch
        have cF := fun W => refForm_any m W hcm
        have hall2 := Lib.hid (show (zs.take (i + 1)).all chrZ = true by rw [take_snoc zs i _ hz, List.all_append, HA.out]; simp [hch])
        have hfz := Lib.hid (show formZ (zs.take (i + 1)) = formZ (zs.take i) ++ encodeRune (m : Int) by rw [take_snoc zs i _ hz]; simp [formZ])
        have hl4 := formZ_len (zs.take i)
        rw [List.length_take] at hl4
        have he4 := encode_len m
        generalize encodeRune (m : Int) = E at cF hfz he4
        have hes : (⟨E.toArray⟩ : ByteArray).size = E.length := by rw [size_eq]
        have hws := hbw.size
        have hcells : strCells (⟨E.toArray⟩ : ByteArray) = byteCells E := rfl
        clear hz hch HA hcm
        go_wp2_with (go_at_call 31; refine (cI _).mono ?_; rintro e w' ⟨rfl, rfl⟩)
        refine (cF _).mono ?_
        rintro e w2 ⟨rfl, hx⟩
        have hown2 := own_below hown hx
        have hbw2 := hbw.trans (hx.mono hbw.size)
        have hs2 := hbw2.size
        clear hx hown hbw cF cI hc1 hc0
        go_wp2_with (at_builtin; go_must (refine wpList_append_own_string _ rfl (.tmp 18) (.tmp 23) 50 9 rfl w.heap.size 5 i0 Tryd.underlying50 Tryd.underlying9 hi hz0 hz1 hz2 _ _ _ rfl hown2 ⟨E.toArray⟩ rfl (by rw [hes]; unfold maxLen; omega) (by rw [hes]; omega) hs2 ?_; intro v3 w3 hown3 hgrow3 _))
        go_roundg g
        case measure => omega
        case rel =>
          rw [hcells, hes] at hown3
          refine ⟨i + 1, by go_num, by omega, by rw [hfz.out, List.length_append, byteCells_append]; exact hown3, ?_, hall2⟩
          exact hbw2.grown hgrow3 hs2 (fun j hj => (hown2.lt j hj).1)
    · obtain rfl : gk = 0 := by omega
      obtain rfl : i = zs.length := by omega
      have ha := HA.out
      rw [List.take_length] at hown ha
      have HF := Lib.hid (fromV_yes zs ha)
      have hcv := conv_own hown rfl
      clear ha HA HV
      go_wp2
      go_ret2
      exact ⟨by rw [HF.out]; rfl, hbw⟩
theorem refFrom_is (v : Value) (zs : List Int) (r : ByteArray) (hall : zs.all chrZ = true) (hr : formZ zs = r.data.toList) (W : World) (hv : Ints W v zs) (hn : zs.length ≤ 17592186044416) :
    Calls Tryd.prog 26 #[v] W fun e w' => e = .returned (.tuple #[.string r, .int .i64 0]) ∧ Below W.heap.size W w' := by
  obtain ⟨a, cap, rfl⟩ := hv.len
  refine (refFrom_any a _ cap zs W hv rfl hn).mono ?_
  rintro e w' ⟨rfl, hb⟩
  rw [fromV_yes zs hall, hr, ← str_of (s := r) rfl]
  exact ⟨rfl, hb⟩
theorem refFrom_bad (v : Value) (zs : List Int) (hall : zs.all chrZ = false) (W : World) (hv : Ints W v zs) (hn : zs.length ≤ 17592186044416) :
    Calls Tryd.prog 26 #[v] W fun e w' => e = .returned (.tuple #[.string ⟨#[]⟩, .int .i64 10]) ∧ Below W.heap.size W w' := by
  obtain ⟨a, cap, rfl⟩ := hv.len
  refine (refFrom_any a _ cap zs W hv rfl hn).mono ?_
  rintro e w' ⟨rfl, hb⟩
  unfold fromV
  rw [hall]
  exact ⟨rfl, hb⟩
end Go.Proofs.YtpdgajjcapdjdaaDoor
