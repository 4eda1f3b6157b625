/- The specification of num: the contract of read. -/
import Derived.Test.YtdfgifnccghlmabGreatDoorMRfScan
import Derived.Test.YtdfgifnccghlmabGreatDoorMRfResult
import Derived.Test.YtdfgifnccghlmabGreatDoorMRfE
import Derived.Test.YtdfgifnccghlmabGreatDoorMRfB
import Derived.Test.YtdfgifnccghlmabGreatDoorMNuVar
namespace Go.Proofs.YtdfgifnccghlmabGreatDoor.R
open Go.RowKit Go.Lib
open Go.Proofs.YtdfgifnccghlmabGreatDoor (isDg isDg_iff valD signOf Wr splitL numL divW evenW wayL VarAt Stored lt_of_cell trimW)

theorem var_new (w : World) (b : Bool) (p : Option Addr) (l c : Nat) : VarAt (w.alloc (.cells #[.bool b, .slice p l c] 86)) w.heap.size b p l c :=
  ⟨by simp [go_sem], by simp [go_sem], by simp [go_sem], by simp [go_sem], by simp⟩
theorem var_set0 {W : World} {B : Nat} {b : Bool} {p : Option Addr} {l c : Nat} (h : VarAt W B b p l c) (b' : Bool) : VarAt (W.setCell ⟨B, 0, none⟩ (.bool b')) B b' p l c :=
  ⟨World.cell?_setCell_same _ _ _ h.c0, (World.cell?_setCell_other _ _ _ _ (by simp)).trans h.c1, by simpa using h.f0, by simpa using h.f1, by simpa [World.setCell] using h.lt⟩
theorem var_set1 {W : World} {B : Nat} {b : Bool} {p : Option Addr} {l c : Nat} (h : VarAt W B b p l c) (p' : Option Addr) (l' c' : Nat) : VarAt (W.setCell ⟨B, 1, none⟩ (.slice p' l' c')) B b p' l' c' :=
  ⟨(World.cell?_setCell_other _ _ _ _ (by simp)).trans h.c0, World.cell?_setCell_same _ _ _ h.c1, by simpa using h.f0, by simpa using h.f1, by simpa [World.setCell] using h.lt⟩
theorem var_keep {W : World} {B B' o : Nat} {b : Bool} {p : Option Addr} {l c : Nat} (h : VarAt W B b p l c) (hne : B ≠ B') (u : Value) : VarAt (W.setCell ⟨B', o, none⟩ u) B b p l c :=
  h.other (Below.heap_setCell _ _ _ _ hne) (by simp [World.setCell])
theorem Digs.setCell {w : World} {x : Value} {l : List Nat} (h : Digs w x l) {p : Addr} {v : Value} (u : Value) (hp : w.cell? p = some v) (hv : ∀ k i, v ≠ .int k i) : Digs (w.setCell p u) x l := by
  rcases h with h | ⟨b, off, cap, rfl, hc, h⟩
  · exact .inl h
  · refine .inr ⟨b, off, cap, rfl, hc, fun j hj => (World.cell?_setCell_other _ _ _ _ (fun e => ?_)).trans (h j hj)⟩
    have := h j hj
    rw [← e, hp] at this
    exact hv _ _ (Option.some.inj this)
/-- What read gives. -/
def ReadG (w' : World) (r : Int ⊕ (Bool × Nat)) (e : Ending) : Prop := match r with
  | .inl z => e = .returned (.tuple #[.agg #[.bool false, .slice none 0 0], .int .i64 z])
  | .inr x => ∃ p c, e = .returned (.tuple #[.agg #[.bool x.1, .slice p (wordsOf x.2).length c], .int .i64 0]) ∧ Digs w' (.slice p (wordsOf x.2).length c) (wordsOf x.2)
/-- The number of what was read. -/
def readV (B A : List UInt8) (neg : Bool) : Nat := if 20 < A.length then divW evenW neg (valD (B ++ A) 0) (10 ^ (A.length - 20)) else valD (B ++ A) 0 * 10 ^ (20 - A.length)
theorem readN_err (S : List UInt8) (h : S.length ≤ 200) (hs : splitL S = none) : readN S = .inl 5 := by
  unfold readN; rw [if_neg (by omega), hs]
theorem readN_some (S sg T B A : List UInt8) (p neg : Bool) (h : S.length ≤ 200) (hsg : signOf S = (sg, T)) (hn : decide (sg = [45]) = neg) (hsc : scanL T [] [] false = some (B, A, p)) (h0 : B ++ A ≠ []) :
    readN S = if readV B A neg < 10 ^ 50 then .inr (neg && decide (readV B A neg ≠ 0), readV B A neg) else .inl 40 := by
  have hsp := scan_some S B A p (by rw [hsg]; exact hsc) h0
  rw [hsg] at hsp
  unfold readN
  rw [if_neg (by omega), hsp]
  have hnl : numL ⟨sg, B, A, p⟩ = (neg, readV B A neg) := by
    unfold numL readV
    simp only
    rw [hn]
  simp only [hnl]
theorem sign_of (s : ByteArray) : (s.size = 0 ∧ signOf s.data.toList = ([], s.data.toList.drop 0)) ∨ ∃ h : 0 < s.size, (s[0] = 43 ∧ signOf s.data.toList = ([43], s.data.toList.drop 1)) ∨ (s[0] = 45 ∧ signOf s.data.toList = ([45], s.data.toList.drop 1)) ∨ (s[0] ≠ 43 ∧ s[0] ≠ 45 ∧ signOf s.data.toList = ([], s.data.toList.drop 0)) := by
  by_cases h0 : s.size = 0
  · have hd : s.data.toList = [] := List.eq_nil_of_length_eq_zero (by rw [Array.length_toList]; exact h0)
    exact .inl ⟨h0, by rw [hd]; rfl⟩
  · have hp : 0 < s.size := by omega
    have hpl : 0 < s.data.toList.length := by rw [Array.length_toList]; exact hp
    have hd : s.data.toList = s[0] :: s.data.toList.drop 1 := by
      have := List.drop_eq_getElem_cons hpl
      rw [List.drop_zero] at this
      exact this
    refine .inr ⟨hp, ?_⟩
    by_cases h1 : s[0] = 43
    · exact .inl ⟨h1, by conv => lhs; rw [hd, h1]
                         rfl⟩
    · by_cases h2 : s[0] = 45
      · exact .inr (.inl ⟨h2, by conv => lhs; rw [hd, h2]
                                 rfl⟩)
      · refine .inr (.inr ⟨h1, h2, ?_⟩)
        rw [List.drop_zero]
        conv => lhs; rw [hd, signOf, if_neg (by rintro (h | h); exact h1 h; exact h2 h), ← hd]
set_option maxHeartbeats 8000000 in
set_option maxRecDepth 100000 in
theorem read_any (s : ByteArray) (w : World) :
    Calls Tryz.prog 70 #[.string s] w fun e w' => ReadG w' (readN s.data.toList) e ∧ Below w.heap.size w w' := by
  obtain ⟨RD, hRD⟩ : ∃ r, readN s.data.toList = r := ⟨_, rfl⟩
  have HRD := Lib.hid hRD
  rw [hRD]
  have hSl : s.data.toList.length = s.size := by rw [Array.length_toList]; rfl
  have vR0 := var_new w false none 0 0
  clear hRD
  by_cases hL : 200 < s.size
  · have hLz : (200 : Int) < (s.size : Int) := by omega
    have HR2 := Lib.hid (show RD = .inl 2 by rw [← HRD.out]; unfold readN; rw [if_pos (by omega)])
    clear hSl vR0
    go_enter Tryz.func70, Tryz.ntmps70
    go_wp2_with fail
    exact bodyPost_ret (v := .tuple #[.agg #[.bool false, .slice none 0 0], .int .i64 2]) (by simp [results, Tryz.results70, go_sem]) rfl ⟨by rw [HR2.out]; rfl, (Below.refl _ _).alloc (Nat.le_refl _) _⟩
  have hLz : ¬ (200 : Int) < (s.size : Int) := by omega
  have hL9 : s.size ≤ 200 := by omega
  -- the two variables
  have vX0 : VarAt ((w.alloc (.cells #[.bool false, .slice none 0 0] 86)).alloc (.cells #[.bool false, .slice none 0 0] 86)) (w.heap.size + 1) false none 0 0 := by
    have := var_new (w.alloc (.cells #[.bool false, .slice none 0 0] 86)) false none 0 0
    rwa [World.size_alloc] at this
  have vR1 : VarAt ((w.alloc (.cells #[.bool false, .slice none 0 0] 86)).alloc (.cells #[.bool false, .slice none 0 0] 86)) w.heap.size false none 0 0 := vR0.below ((Below.refl _ _).alloc (Nat.le_refl _) _)
  have hbW : Below w.heap.size w ((w.alloc (.cells #[.bool false, .slice none 0 0] 86)).alloc (.cells #[.bool false, .slice none 0 0] 86)) := ((Below.refl _ w).alloc (Nat.le_refl _) _).alloc (by simp) _
  obtain ⟨W1, hW1⟩ : ∃ W1, (w.alloc (.cells #[.bool false, .slice none 0 0] 86)).alloc (.cells #[.bool false, .slice none 0 0] 86) = W1 := ⟨_, rfl⟩
  rw [hW1] at vX0 vR1 hbW
  have vX := vX0
  have vR := vR1
  have hb1 := hbW
  clear vX0 vR1 vR0 hbW
  rcases sign_of s with ⟨h0, hsg⟩ | ⟨h0, ⟨hc, hsg⟩ | ⟨hc, hsg⟩ | ⟨hc, hc2, hsg⟩⟩
  · -- nothing
    obtain ⟨V, hVV⟩ : ∃ V, W1 = V := ⟨_, rfl⟩
    have hV1 : Below w.heap.size w V := by rw [← hVV]; exact hb1
    have vX9 := vX
    obtain ⟨neg, hneg⟩ : ∃ b : Bool, b = false := ⟨_, rfl⟩
    have HNG := Lib.hid (show decide (([] : List UInt8) = [45]) = neg by rw [hneg]; decide)
    rw [hVV] at vR vX
    have HW1 := Lib.hid hW1
    have HVV := Lib.hid hVV
    have h0z : ¬ (0 : Int) < (s.size : Int) := by omega
    have HNEG := Lib.hid hneg
    clear hVV hb1 hW1 hneg
    go_enter Tryz.func70, Tryz.ntmps70
    go_wp2_with fail
    try rw [HW1.out]
    try rw [HVV.out]
    clear vX9 HW1 HVV
    rw [← HNEG.out] at vX
    have H0 := Lib.hid h0
    clear h0 h0z
    -- the loop
    have HSG := Lib.hid hsg
    clear hsg
    have hbV : Below w.heap.size w V := hV1
    obtain ⟨RS, hRS⟩ : ∃ r, scanL (s.data.toList.drop 0) [] [] false = r := ⟨_, rfl⟩
    have HRS := Lib.hid hRS
    clear hRS hV1
    go_loopg [5, 6, 7, 8] (s.size - 0) (fun g s5 s6 s7 s8 wx => ∃ (k : Nat) (B A : List UInt8) (p : Bool), s5 = .int .i64 k ∧ k + g = s.size ∧ s7 = .int .i64 (A.length : Nat) ∧ s8 = .bool p ∧ Hid (Own V.heap.size wx s6 (dL (B ++ A))) ∧ Below V.heap.size V wx ∧ Hid (scanL (s.data.toList.drop k) B A p = RS ∧ (∀ b ∈ B ++ A, isDg b = true)) ∧ (B ++ A).length ≤ k ∧ Hid (p = false → A = []))
    case atStart => exact ⟨0, [], [], false, rfl, by omega, rfl, rfl, Lib.hid (Own.start _ _), Below.refl _ _, Lib.hid ⟨HRS.out, fun b hb => by cases hb⟩, by simp, Lib.hid (fun _ => rfl)⟩
    case round =>
      obtain ⟨k, B, A, p, rfl, hkg, rfl, rfl, HO, hbx, HK, hlen, HAN⟩ := hrel
      obtain ⟨pd, cd, h6⟩ := HO.out.shape
      rw [dL_len] at h6
      obtain ⟨ld, hld⟩ : ∃ l, (B ++ A).length = l := ⟨_, rfl⟩
      rw [hld] at h6 hlen
      have HLD := Lib.hid hld
      have hAl : A.length ≤ 200 := by rw [List.length_append] at hld; omega
      subst h6
      clear hld
      have vR := vR.below hbx
      have vX := vX.below hbx
      have hbw := hbV.trans (hbx.mono hbV.size)
      by_cases hlt : k < s.size
      · obtain ⟨g, rfl⟩ : ∃ g, gk = g + 1 := ⟨gk - 1, by omega⟩
        have hil : (k : Int) < (s.size : Int) := by omega
        have hcons : s.data.toList.drop k = s[k] :: s.data.toList.drop (k + 1) := List.drop_eq_getElem_cons (by rw [hSl]; exact hlt)
        have hk1 := HK.out
        rw [hcons] at hk1
        have hdig := HK.out.2
        obtain ⟨x, hx⟩ : ∃ x : UInt8, s[k] = x := ⟨_, rfl⟩
        rw [hx] at hk1
        rw [scanL] at hk1
        obtain ⟨d, hd⟩ : ∃ d, x.toNat = d := ⟨_, rfl⟩
        have hd256 : d < 256 := by rw [← hd]; exact UInt8.toNat_lt x
        have hdd : s[k].toNat = d := by rw [hx]; exact hd
        have h46 : x = 46 ↔ d = 46 := by rw [← hd]; exact ⟨fun e => by rw [e]; rfl, fun e => UInt8.toNat.inj e⟩
        have hdg : isDg x = decide (48 ≤ d ∧ d ≤ 57) := by unfold isDg; rw [hd]
        have cG := digit_any d hd256
        by_cases hpt : d = 46 ∧ p = false
        · obtain ⟨hd46, rfl⟩ := hpt
          rw [if_pos ⟨h46.2 hd46, rfl⟩] at hk1
          have HK2 := Lib.hid (And.intro hk1.1 hdig)
          subst hd46
          clear hk1 hdig hcons hdg h46 hd hx cG
          go_wp2_with fail
          go_roundg g
          case rel => exact ⟨k + 1, B, A, true, by congr 1, by omega, rfl, rfl, HO, hbx, HK2, by rw [HLD.out]; omega, Lib.hid (fun h => by cases h)⟩
          all_goals omega
        · rw [if_neg (fun h => hpt ⟨h46.1 h.1, h.2⟩), hdg] at hk1
          have hpt2 : d ≠ 46 ∨ p = true := by
            by_cases h : d = 46
            · exact .inr (by cases p with
                | true => rfl
                | false => exact absurd ⟨h, rfl⟩ hpt)
            · exact .inl h
          by_cases hD : 48 ≤ d ∧ d ≤ 57
          · rw [if_pos (by rw [decide_eq_true hD])] at hk1
            have hdi : isDg x = true := by rw [hdg, decide_eq_true hD]
            rw [decide_eq_true hD] at cG
            obtain ⟨v8, w8, hr8, ho8, hg8, _, hs8⟩ := append_digit V.heap.size _ _ (d - 48) (by rw [dL_len, HLD.out]; omega) wr HO.out hbx.size
            rw [show ((d - 48 : Nat) : Int) = (d : Int) - 48 by omega] at hr8
            have hb8 := hg8 _ hbx
            have hd1 : (48 : Int) ≤ (d : Int) := by omega
            have hd2 : (d : Int) ≤ 57 := by omega
            have hd46 : ¬ d = 46 := by omega
            have hd46b : ((d : Int) == 46) = false := beq_eq_false_iff_ne.2 (by omega)
            have H8 := Lib.hid hr8
            cases p with
            | true =>
              rw [if_pos rfl] at hk1
              have HK2 := Lib.hid (show scanL (s.data.toList.drop (k + 1)) B (A ++ [x]) true = RS ∧ ∀ b ∈ B ++ (A ++ [x]), isDg b = true from ⟨hk1.1, fun b hb => by
                rw [← List.append_assoc] at hb
                rcases List.mem_append.1 hb with hb | hb
                · exact hdig b hb
                · rw [List.mem_singleton.1 hb]; exact hdi⟩)
              have HO2 := Lib.hid (show Own V.heap.size w8 v8 (dL (B ++ (A ++ [x]))) by rw [← List.append_assoc, dL_snoc, hd]; exact ho8)
              have HL2 := Lib.hid (show (B ++ (A ++ [x])).length ≤ k + 1 by rw [← List.append_assoc, List.length_append, HLD.out]; simp; omega)
              have HA2 := Lib.hid (show (((A ++ [x]).length : Nat) : Int) = (A.length : Int) + 1 by simp)
              clear hk1 hdig hcons hdg h46 hd hx hr8 ho8 hg8 hs8 HO hdi hpt hpt2 hD
              go_wp2_with (first | (go_at_call 100; refine (cG _).mono ?_; rintro e w9 ⟨rfl, rfl⟩) | (at_builtin; refine Lib.wpList_append_run _ rfl (.tmp 49) (.tmp 55) 84 84 rfl _ _ rfl rfl _ _ H8.out ?_))
              go_roundg g
              case rel => exact ⟨k + 1, B, A ++ [x], true, by congr 1, by omega, by rw [HA2.out], rfl, HO2, hb8, HK2, HL2.out, Lib.hid (fun h => by cases h)⟩
              all_goals omega
            | false =>
              rw [if_neg (by decide)] at hk1
              have HK2 := Lib.hid (show scanL (s.data.toList.drop (k + 1)) (B ++ [x]) A false = RS ∧ ∀ b ∈ (B ++ [x]) ++ A, isDg b = true from ⟨hk1.1, fun b hb => by
                rcases List.mem_append.1 hb with hb | hb
                · rcases List.mem_append.1 hb with hb | hb
                  · exact hdig b (List.mem_append.2 (.inl hb))
                  · rw [List.mem_singleton.1 hb]; exact hdi
                · exact hdig b (List.mem_append.2 (.inr hb))⟩)
              have hAn : A = [] := HAN.out rfl
              have HO2 := Lib.hid (show Own V.heap.size w8 v8 (dL ((B ++ [x]) ++ A)) by rw [hAn, List.append_nil, dL_snoc, hd]; rw [hAn, List.append_nil] at ho8; exact ho8)
              have HL2 := Lib.hid (show ((B ++ [x]) ++ A).length ≤ k + 1 by have := HLD.out; simp only [List.length_append, List.length_cons, List.length_nil] at this ⊢; omega)
              clear hk1 hdig hcons hdg h46 hd hx hr8 ho8 hg8 hs8 HO hdi hpt hpt2 hD
              have HAn := Lib.hid hAn
              clear hAn
              go_wp2_with (first | (go_at_call 100; refine (cG _).mono ?_; rintro e w9 ⟨rfl, rfl⟩) | (at_builtin; refine Lib.wpList_append_run _ rfl (.tmp 49) (.tmp 55) 84 84 rfl _ _ rfl rfl _ _ H8.out ?_))
              go_roundg g
              case rel => exact ⟨k + 1, B ++ [x], A, false, by congr 1, by omega, rfl, rfl, HO2, hb8, HK2, HL2.out, Lib.hid (fun _ => HAn.out)⟩
              all_goals omega
          · rw [if_neg (by rw [decide_eq_false hD]; decide)] at hk1
            rw [decide_eq_false hD] at cG
            have HF := Lib.hid (show RD = .inl 5 by
              rw [← HRD.out]
              refine readN_err _ (by omega) (scan_none _ ?_)
              rw [HSG.out, HRS.out, ← hk1.1])
            obtain ⟨W5, hW5, v5, st5⟩ := vR.set false none 0 0
            have hb5 := st5.below hbw (Nat.le_refl _)
            obtain ⟨r0, r1, _, _, _⟩ := id v5
            obtain ⟨y0, y1, y2, y3, _⟩ := id vR
            have HW5 := Lib.hid hW5
            clear hk1 hdig hcons hdg h46 hd hx HO hpt hD hW5 v5 st5
            rcases hpt2 with h | rfl
            · have h46b : ((d : Int) == 46) = false := beq_eq_false_iff_ne.2 (by omega)
              cases p <;> (
                go_wp2_with (go_at_call 100; refine (cG _).mono ?_; rintro e w9 ⟨rfl, rfl⟩)
                try rw [HW5.out]
                exact bodyPost_ret (v := .tuple #[.agg #[.bool false, .slice none 0 0], .int .i64 5]) (by simp [results, Tryz.results70, go_sem, r0, r1]) rfl ⟨by rw [HF.out]; rfl, hb5⟩)
            · by_cases h : d = 46
              · have h46b : ((d : Int) == 46) = true := by rw [h]; rfl
                clear h
                go_wp2_with (go_at_call 100; refine (cG _).mono ?_; rintro e w9 ⟨rfl, rfl⟩)
                try rw [HW5.out]
                exact bodyPost_ret (v := .tuple #[.agg #[.bool false, .slice none 0 0], .int .i64 5]) (by simp [results, Tryz.results70, go_sem, r0, r1]) rfl ⟨by rw [HF.out]; rfl, hb5⟩
              · have h46b : ((d : Int) == 46) = false := beq_eq_false_iff_ne.2 (by omega)
                go_wp2_with (go_at_call 100; refine (cG _).mono ?_; rintro e w9 ⟨rfl, rfl⟩)
                try rw [HW5.out]
                exact bodyPost_ret (v := .tuple #[.agg #[.bool false, .slice none 0 0], .int .i64 5]) (by simp [results, Tryz.results70, go_sem, r0, r1]) rfl ⟨by rw [HF.out]; rfl, hb5⟩
      · obtain rfl : k = s.size := by omega
        obtain rfl : gk = 0 := by omega
        have hil : ¬ (s.size : Int) < (s.size : Int) := by omega
        have hk1 := HK.out
        rw [List.drop_eq_nil_of_le (by rw [hSl]; exact Nat.le_refl _), scanL] at hk1
        have HSC := Lib.hid (show scanL (s.data.toList.drop 0) [] [] false = some (B, A, p) from HRS.out.trans hk1.1.symm)
        have hsml := dL_small (B ++ A) hk1.2
        have hval := dL_val (B ++ A)
        have hdl := dL_len (B ++ A)
        rw [HLD.out] at hdl
        obtain ⟨LL, hLL⟩ : ∃ l, dL (B ++ A) = l := ⟨_, rfl⟩
        rw [hLL] at hsml hval hdl HO
        clear hk1 HK hLL
        by_cases hld0 : ld = 0
        · subst hld0
          have hnil : B ++ A = [] := List.eq_nil_of_length_eq_zero HLD.out
          have HF := Lib.hid (show RD = .inl 5 by
            rw [← HRD.out]
            refine readN_err _ (by omega) (scan_empty _ B A p ?_ hnil)
            rw [HSG.out]
            exact HSC.out)
          obtain ⟨W5, hW5, v5, st5⟩ := vR.set false none 0 0
          have hb5 := st5.below hbw (Nat.le_refl _)
          obtain ⟨r0, r1, _, _, _⟩ := id v5
          obtain ⟨y0, y1, y2, y3, _⟩ := id vR
          have HW5 := Lib.hid hW5
          clear hW5 v5 st5 hsml hval hdl HO hnil
          go_wp2_with fail
          try rw [HW5.out]
          exact bodyPost_ret (v := .tuple #[.agg #[.bool false, .slice none 0 0], .int .i64 5]) (by simp [results, Tryz.results70, go_sem, r0, r1]) rfl ⟨by rw [HF.out]; rfl, hb5⟩
        · have hld0b : ((ld : Int) == 0) = false := beq_eq_false_iff_ne.2 (by omega)
          have HSM := Lib.hid (readN_some s.data.toList [] (s.data.toList.drop 0) B A p neg (by omega) HSG.out HNG.out HSC.out (fun e => hld0 (by rw [← HLD.out, e]; rfl)))
          by_cases hA20 : A.length ≤ 20
          · have hA20z : (A.length : Int) ≤ 20 := by omega
            obtain ⟨m, hm⟩ : ∃ m, 20 - A.length = m := ⟨_, rfl⟩
            have hmz : (20 : Int) - (A.length : Int) = (m : Int) := by omega
            obtain ⟨n, hn⟩ : ∃ n, readV B A neg = n := ⟨_, rfl⟩
            have HNV := Lib.hid hn
            have HV2 := Lib.hid (show trimW (List.replicate m 0 ++ LL) = wordsOf n by
              rw [trimW_words _ ((Small.zeros m).app hsml), val_app, val_zeros, hval, List.length_replicate, ← hn, readV, if_neg (by omega), hm, Nat.zero_add, Nat.mul_comm])
            have cZ := zeros_any _ LL m (by omega) (by omega) wr HO.out.digs
            have cT := fun W v (h : Digs W v (List.replicate m 0 ++ LL)) => trim_any v (List.replicate m 0 ++ LL) (by rw [List.length_append, List.length_replicate]; omega) W h
            rw [HV2.out] at cT
            clear hn hm hsml hval
            go_wp2_with fail
            refine cZ.mono ?_
            rintro e w5 ⟨x, rfl, hx, hb5⟩
            have cT2 := cT w5 x hx
            obtain ⟨px, cx, hxe⟩ := hx.shape
            rw [show (List.replicate m (0 : Nat) ++ LL).length = m + ld by rw [List.length_append, List.length_replicate, hdl]] at hxe
            subst hxe
            clear cT cZ hx hdl HO
            go_wp2_with fail
            refine cT2.mono ?_
            rintro e w6 ⟨u, rfl, hu, rfl⟩
            have vR5 := vR.below hb5
            have vX5 := vX.below hb5
            have hbw5 := hbw.trans (hb5.mono hbw.size)
            obtain ⟨pu, cu, hue⟩ := hu.shape
            subst hue
            obtain ⟨lu, hlu⟩ : ∃ l, (wordsOf n).length = l := ⟨_, rfl⟩
            rw [hlu] at hu ⊢
            have v6 := var_set1 vX5 pu lu cu
            have vR6 := var_keep vR5 (show w.heap.size ≠ w.heap.size + 1 by omega) (B' := w.heap.size + 1) (o := 1) (.slice pu lu cu)
            have hD6 := hu.setCell (.slice pu lu cu) vX5.c1 (fun k i h => by cases h)
            have hb6 : Below w.heap.size w (w5.setCell ⟨w.heap.size + 1, 1, none⟩ (.slice pu lu cu)) := hbw5.setCell (p := ⟨w.heap.size + 1, 1, none⟩) (Nat.le_succ _) _
            obtain ⟨W6, hW6⟩ : ∃ W6, w5.setCell ⟨w.heap.size + 1, 1, none⟩ (.slice pu lu cu) = W6 := ⟨_, rfl⟩
            rw [hW6] at v6 vR6 hD6 hb6
            obtain ⟨x0, x1, x2, x3, _⟩ := id vX5
            have HLU := Lib.hid hlu
            have h50 := len_50 n
            have hz0 := wordsOf_nil n
            rw [hlu] at h50
            clear hu hlu vR5 vX5 hb5 hbw5
            by_cases hl0 : lu = 0
            · subst hl0
              have hn0 : n = 0 := hz0.1 (List.eq_nil_of_length_eq_zero HLU.out)
              have HR := Lib.hid (show RD = .inr (false, 0) by
                rw [← HRD.out, HSM.out, HNV.out, hn0, if_pos (by decide)]
                simp)
              have v7 := var_set0 v6 false
              have vR7 := var_keep vR6 (show w.heap.size ≠ w.heap.size + 1 by omega) (B' := w.heap.size + 1) (o := 0) (.bool false)
              have hb7 : Below w.heap.size w (W6.setCell ⟨w.heap.size + 1, 0, none⟩ (.bool false)) := hb6.setCell (p := ⟨w.heap.size + 1, 0, none⟩) (Nat.le_succ _) _
              obtain ⟨W7, hW7⟩ : ∃ W7, W6.setCell ⟨w.heap.size + 1, 0, none⟩ (.bool false) = W7 := ⟨_, rfl⟩
              rw [hW7] at v7 vR7 hb7
              obtain ⟨W8, hW8, v8, st8⟩ := vR7.set false pu 0 cu
              have hb8 := st8.below hb7 (Nat.le_refl _)
              obtain ⟨z0, z1, z2, z3, _⟩ := id v6
              obtain ⟨q0, q1, q2, q3, _⟩ := id v7
              obtain ⟨t0, t1, t2, t3, _⟩ := id vR7
              obtain ⟨r0, r1, _, _, _⟩ := id v8
              clear hD6 st8 v8 v7 vR7 v6 vR6 h50 hz0 hn0
              go_wp2_with fail
              exact bodyPost_ret (v := .tuple #[.agg #[.bool false, .slice pu 0 cu], .int .i64 0]) (by simp [results, Tryz.results70, go_sem, r0, r1]) rfl ⟨by rw [HR.out]; exact ⟨pu, cu, rfl, Digs.nil _ _ _⟩, hb8⟩
            · have hn0 : n ≠ 0 := fun h => hl0 (by rw [← HLU.out, h]; rfl)
              have hl0b : ((lu : Int) == 0) = false := beq_eq_false_iff_ne.2 (by omega)
              obtain ⟨z0, z1, z2, z3, _⟩ := id v6
              obtain ⟨t0, t1, t2, t3, _⟩ := id vR6
              by_cases hl50 : lu ≤ 50
              · have hl50z : ¬ (50 : Int) < (lu : Int) := by omega
                have HR := Lib.hid (show RD = .inr (neg, n) by
                  rw [← HRD.out, HSM.out, HNV.out, if_pos (h50.1 hl50)]
                  simp [hn0])
                obtain ⟨W8, hW8, v8, st8⟩ := vR6.set neg pu lu cu
                have hb8 := st8.below hb6 (Nat.le_refl _)
                have HD8 := Lib.hid (show Digs W8 (.slice pu lu cu) (wordsOf n) by
                  have := (hD6.setCell (.bool neg) vR6.c0 (fun k i h => by cases h)).setCell (.slice pu lu cu) ((World.cell?_setCell_other _ _ _ _ (by simp)).trans vR6.c1) (fun k i h => by cases h)
                  rw [hW8] at this
                  exact this)
                obtain ⟨r0, r1, _, _, _⟩ := id v8
                clear hD6 st8 v8 v6 vR6 h50 hz0 hn0
                go_wp2_with fail
                exact bodyPost_ret (v := .tuple #[.agg #[.bool neg, .slice pu lu cu], .int .i64 0]) (by simp [results, Tryz.results70, go_sem, r0, r1]) rfl ⟨by rw [HR.out]; exact ⟨pu, cu, by rw [HLU.out], by rw [HLU.out]; exact HD8.out⟩, hb8⟩
              · have hl50z : (50 : Int) < (lu : Int) := by omega
                have HR := Lib.hid (show RD = .inl 40 by
                  rw [← HRD.out, HSM.out, HNV.out, if_neg (fun h => hl50 (h50.2 h))])
                obtain ⟨W8, hW8, v8, st8⟩ := vR6.set false none 0 0
                have hb8 := st8.below hb6 (Nat.le_refl _)
                obtain ⟨r0, r1, _, _, _⟩ := id v8
                clear hD6 st8 v8 v6 vR6 h50 hz0 hn0
                go_wp2_with fail
                exact bodyPost_ret (v := .tuple #[.agg #[.bool false, .slice none 0 0], .int .i64 40]) (by simp [results, Tryz.results70, go_sem, r0, r1]) rfl ⟨by rw [HR.out]; rfl, hb8⟩
          · have hA20z : ¬ (A.length : Int) ≤ 20 := by omega
            obtain ⟨m, hm⟩ : ∃ m, A.length - 20 = m := ⟨_, rfl⟩
            have hmz : (A.length : Int) - 20 = (m : Int) := by omega
            obtain ⟨n, hn⟩ : ∃ n, readV B A neg = n := ⟨_, rfl⟩
            have HNV := Lib.hid hn
            have cZ := cut_any neg ⟨#[101, 118, 101, 110]⟩ evenW rfl _ LL hsml m (by omega) (by omega) (by omega) wr HO.out.digs
            rw [show divW evenW neg (val LL) (10 ^ m) = n by rw [hval, ← hn, readV, if_pos (by omega), hm]] at cZ
            obtain ⟨xx0, xx1, xx2, xx3, _⟩ := id vX
            clear hn hm hsml hval
            go_wp2_with fail
            refine cZ.mono ?_
            rintro e w5 ⟨u, rfl, hu, hb5⟩
            clear cZ hdl HO xx0 xx1 xx2 xx3
            have vR5 := vR.below hb5
            have vX5 := vX.below hb5
            have hbw5 := hbw.trans (hb5.mono hbw.size)
            obtain ⟨pu, cu, hue⟩ := hu.shape
            subst hue
            obtain ⟨lu, hlu⟩ : ∃ l, (wordsOf n).length = l := ⟨_, rfl⟩
            rw [hlu] at hu ⊢
            have v6 := var_set1 vX5 pu lu cu
            have vR6 := var_keep vR5 (show w.heap.size ≠ w.heap.size + 1 by omega) (B' := w.heap.size + 1) (o := 1) (.slice pu lu cu)
            have hD6 := hu.setCell (.slice pu lu cu) vX5.c1 (fun k i h => by cases h)
            have hb6 : Below w.heap.size w (w5.setCell ⟨w.heap.size + 1, 1, none⟩ (.slice pu lu cu)) := hbw5.setCell (p := ⟨w.heap.size + 1, 1, none⟩) (Nat.le_succ _) _
            obtain ⟨W6, hW6⟩ : ∃ W6, w5.setCell ⟨w.heap.size + 1, 1, none⟩ (.slice pu lu cu) = W6 := ⟨_, rfl⟩
            rw [hW6] at v6 vR6 hD6 hb6
            obtain ⟨x0, x1, x2, x3, _⟩ := id vX5
            have HLU := Lib.hid hlu
            have h50 := len_50 n
            have hz0 := wordsOf_nil n
            rw [hlu] at h50
            clear hu hlu vR5 vX5 hb5 hbw5
            by_cases hl0 : lu = 0
            · subst hl0
              have hn0 : n = 0 := hz0.1 (List.eq_nil_of_length_eq_zero HLU.out)
              have HR := Lib.hid (show RD = .inr (false, 0) by
                rw [← HRD.out, HSM.out, HNV.out, hn0, if_pos (by decide)]
                simp)
              have v7 := var_set0 v6 false
              have vR7 := var_keep vR6 (show w.heap.size ≠ w.heap.size + 1 by omega) (B' := w.heap.size + 1) (o := 0) (.bool false)
              have hb7 : Below w.heap.size w (W6.setCell ⟨w.heap.size + 1, 0, none⟩ (.bool false)) := hb6.setCell (p := ⟨w.heap.size + 1, 0, none⟩) (Nat.le_succ _) _
              obtain ⟨W7, hW7⟩ : ∃ W7, W6.setCell ⟨w.heap.size + 1, 0, none⟩ (.bool false) = W7 := ⟨_, rfl⟩
              rw [hW7] at v7 vR7 hb7
              obtain ⟨W8, hW8, v8, st8⟩ := vR7.set false pu 0 cu
              have hb8 := st8.below hb7 (Nat.le_refl _)
              obtain ⟨z0, z1, z2, z3, _⟩ := id v6
              obtain ⟨q0, q1, q2, q3, _⟩ := id v7
              obtain ⟨t0, t1, t2, t3, _⟩ := id vR7
              obtain ⟨r0, r1, _, _, _⟩ := id v8
              clear hD6 st8 v8 v7 vR7 v6 vR6 h50 hz0 hn0
              go_wp2_with fail
              exact bodyPost_ret (v := .tuple #[.agg #[.bool false, .slice pu 0 cu], .int .i64 0]) (by simp [results, Tryz.results70, go_sem, r0, r1]) rfl ⟨by rw [HR.out]; exact ⟨pu, cu, rfl, Digs.nil _ _ _⟩, hb8⟩
            · have hn0 : n ≠ 0 := fun h => hl0 (by rw [← HLU.out, h]; rfl)
              have hl0b : ((lu : Int) == 0) = false := beq_eq_false_iff_ne.2 (by omega)
              obtain ⟨z0, z1, z2, z3, _⟩ := id v6
              obtain ⟨t0, t1, t2, t3, _⟩ := id vR6
              by_cases hl50 : lu ≤ 50
              · have hl50z : ¬ (50 : Int) < (lu : Int) := by omega
                have HR := Lib.hid (show RD = .inr (neg, n) by
                  rw [← HRD.out, HSM.out, HNV.out, if_pos (h50.1 hl50)]
                  simp [hn0])
                obtain ⟨W8, hW8, v8, st8⟩ := vR6.set neg pu lu cu
                have hb8 := st8.below hb6 (Nat.le_refl _)
                have HD8 := Lib.hid (show Digs W8 (.slice pu lu cu) (wordsOf n) by
                  have := (hD6.setCell (.bool neg) vR6.c0 (fun k i h => by cases h)).setCell (.slice pu lu cu) ((World.cell?_setCell_other _ _ _ _ (by simp)).trans vR6.c1) (fun k i h => by cases h)
                  rw [hW8] at this
                  exact this)
                obtain ⟨r0, r1, _, _, _⟩ := id v8
                clear hD6 st8 v8 v6 vR6 h50 hz0 hn0
                go_wp2_with fail
                exact bodyPost_ret (v := .tuple #[.agg #[.bool neg, .slice pu lu cu], .int .i64 0]) (by simp [results, Tryz.results70, go_sem, r0, r1]) rfl ⟨by rw [HR.out]; exact ⟨pu, cu, by rw [HLU.out], by rw [HLU.out]; exact HD8.out⟩, hb8⟩
              · have hl50z : (50 : Int) < (lu : Int) := by omega
                have HR := Lib.hid (show RD = .inl 40 by
                  rw [← HRD.out, HSM.out, HNV.out, if_neg (fun h => hl50 (h50.2 h))])
                obtain ⟨W8, hW8, v8, st8⟩ := vR6.set false none 0 0
                have hb8 := st8.below hb6 (Nat.le_refl _)
                obtain ⟨r0, r1, _, _, _⟩ := id v8
                clear hD6 st8 v8 v6 vR6 h50 hz0 hn0
                go_wp2_with fail
                exact bodyPost_ret (v := .tuple #[.agg #[.bool false, .slice none 0 0], .int .i64 40]) (by simp [results, Tryz.results70, go_sem, r0, r1]) rfl ⟨by rw [HR.out]; rfl, hb8⟩
  · -- plus
    obtain ⟨V, hVV⟩ : ∃ V, W1 = V := ⟨_, rfl⟩
    have hV1 : Below w.heap.size w V := by rw [← hVV]; exact hb1
    have vX9 := vX
    obtain ⟨neg, hneg⟩ : ∃ b : Bool, b = false := ⟨_, rfl⟩
    have HNG := Lib.hid (show decide (([43] : List UInt8) = [45]) = neg by rw [hneg]; decide)
    rw [hVV] at vR vX
    have HW1 := Lib.hid hW1
    have HVV := Lib.hid hVV
    have h0z : (0 : Int) < (s.size : Int) := by omega
    have hc1 : s[0].toNat = 43 := by rw [hc]; rfl
    have HNEG := Lib.hid hneg
    clear hVV hb1 hW1 hneg
    go_enter Tryz.func70, Tryz.ntmps70
    go_wp2_with fail
    try rw [HW1.out]
    try rw [HVV.out]
    clear vX9 HW1 HVV
    rw [← HNEG.out] at vX
    clear hc1 hc h0z
    -- the loop
    have HSG := Lib.hid hsg
    clear hsg
    have hbV : Below w.heap.size w V := hV1
    obtain ⟨RS, hRS⟩ : ∃ r, scanL (s.data.toList.drop 1) [] [] false = r := ⟨_, rfl⟩
    have HRS := Lib.hid hRS
    clear hRS hV1
    go_loopg [5, 6, 7, 8] (s.size - 1) (fun g s5 s6 s7 s8 wx => ∃ (k : Nat) (B A : List UInt8) (p : Bool), s5 = .int .i64 k ∧ k + g = s.size ∧ s7 = .int .i64 (A.length : Nat) ∧ s8 = .bool p ∧ Hid (Own V.heap.size wx s6 (dL (B ++ A))) ∧ Below V.heap.size V wx ∧ Hid (scanL (s.data.toList.drop k) B A p = RS ∧ (∀ b ∈ B ++ A, isDg b = true)) ∧ (B ++ A).length ≤ k ∧ Hid (p = false → A = []))
    case atStart => exact ⟨1, [], [], false, rfl, by omega, rfl, rfl, Lib.hid (Own.start _ _), Below.refl _ _, Lib.hid ⟨HRS.out, fun b hb => by cases hb⟩, by simp, Lib.hid (fun _ => rfl)⟩
    case round =>
      obtain ⟨k, B, A, p, rfl, hkg, rfl, rfl, HO, hbx, HK, hlen, HAN⟩ := hrel
      obtain ⟨pd, cd, h6⟩ := HO.out.shape
      rw [dL_len] at h6
      obtain ⟨ld, hld⟩ : ∃ l, (B ++ A).length = l := ⟨_, rfl⟩
      rw [hld] at h6 hlen
      have HLD := Lib.hid hld
      have hAl : A.length ≤ 200 := by rw [List.length_append] at hld; omega
      subst h6
      clear hld
      have vR := vR.below hbx
      have vX := vX.below hbx
      have hbw := hbV.trans (hbx.mono hbV.size)
      by_cases hlt : k < s.size
      · obtain ⟨g, rfl⟩ : ∃ g, gk = g + 1 := ⟨gk - 1, by omega⟩
        have hil : (k : Int) < (s.size : Int) := by omega
        have hcons : s.data.toList.drop k = s[k] :: s.data.toList.drop (k + 1) := List.drop_eq_getElem_cons (by rw [hSl]; exact hlt)
        have hk1 := HK.out
        rw [hcons] at hk1
        have hdig := HK.out.2
        obtain ⟨x, hx⟩ : ∃ x : UInt8, s[k] = x := ⟨_, rfl⟩
        rw [hx] at hk1
        rw [scanL] at hk1
        obtain ⟨d, hd⟩ : ∃ d, x.toNat = d := ⟨_, rfl⟩
        have hd256 : d < 256 := by rw [← hd]; exact UInt8.toNat_lt x
        have hdd : s[k].toNat = d := by rw [hx]; exact hd
        have h46 : x = 46 ↔ d = 46 := by rw [← hd]; exact ⟨fun e => by rw [e]; rfl, fun e => UInt8.toNat.inj e⟩
        have hdg : isDg x = decide (48 ≤ d ∧ d ≤ 57) := by unfold isDg; rw [hd]
        have cG := digit_any d hd256
        by_cases hpt : d = 46 ∧ p = false
        · obtain ⟨hd46, rfl⟩ := hpt
          rw [if_pos ⟨h46.2 hd46, rfl⟩] at hk1
          have HK2 := Lib.hid (And.intro hk1.1 hdig)
          subst hd46
          clear hk1 hdig hcons hdg h46 hd hx cG
          go_wp2_with fail
          go_roundg g
          case rel => exact ⟨k + 1, B, A, true, by congr 1, by omega, rfl, rfl, HO, hbx, HK2, by rw [HLD.out]; omega, Lib.hid (fun h => by cases h)⟩
          all_goals omega
        · rw [if_neg (fun h => hpt ⟨h46.1 h.1, h.2⟩), hdg] at hk1
          have hpt2 : d ≠ 46 ∨ p = true := by
            by_cases h : d = 46
            · exact .inr (by cases p with
                | true => rfl
                | false => exact absurd ⟨h, rfl⟩ hpt)
            · exact .inl h
          by_cases hD : 48 ≤ d ∧ d ≤ 57
          · rw [if_pos (by rw [decide_eq_true hD])] at hk1
            have hdi : isDg x = true := by rw [hdg, decide_eq_true hD]
            rw [decide_eq_true hD] at cG
            obtain ⟨v8, w8, hr8, ho8, hg8, _, hs8⟩ := append_digit V.heap.size _ _ (d - 48) (by rw [dL_len, HLD.out]; omega) wr HO.out hbx.size
            rw [show ((d - 48 : Nat) : Int) = (d : Int) - 48 by omega] at hr8
            have hb8 := hg8 _ hbx
            have hd1 : (48 : Int) ≤ (d : Int) := by omega
            have hd2 : (d : Int) ≤ 57 := by omega
            have hd46 : ¬ d = 46 := by omega
            have hd46b : ((d : Int) == 46) = false := beq_eq_false_iff_ne.2 (by omega)
            have H8 := Lib.hid hr8
            cases p with
            | true =>
              rw [if_pos rfl] at hk1
              have HK2 := Lib.hid (show scanL (s.data.toList.drop (k + 1)) B (A ++ [x]) true = RS ∧ ∀ b ∈ B ++ (A ++ [x]), isDg b = true from ⟨hk1.1, fun b hb => by
                rw [← List.append_assoc] at hb
                rcases List.mem_append.1 hb with hb | hb
                · exact hdig b hb
                · rw [List.mem_singleton.1 hb]; exact hdi⟩)
              have HO2 := Lib.hid (show Own V.heap.size w8 v8 (dL (B ++ (A ++ [x]))) by rw [← List.append_assoc, dL_snoc, hd]; exact ho8)
              have HL2 := Lib.hid (show (B ++ (A ++ [x])).length ≤ k + 1 by rw [← List.append_assoc, List.length_append, HLD.out]; simp; omega)
              have HA2 := Lib.hid (show (((A ++ [x]).length : Nat) : Int) = (A.length : Int) + 1 by simp)
              clear hk1 hdig hcons hdg h46 hd hx hr8 ho8 hg8 hs8 HO hdi hpt hpt2 hD
              go_wp2_with (first | (go_at_call 100; refine (cG _).mono ?_; rintro e w9 ⟨rfl, rfl⟩) | (at_builtin; refine Lib.wpList_append_run _ rfl (.tmp 49) (.tmp 55) 84 84 rfl _ _ rfl rfl _ _ H8.out ?_))
              go_roundg g
              case rel => exact ⟨k + 1, B, A ++ [x], true, by congr 1, by omega, by rw [HA2.out], rfl, HO2, hb8, HK2, HL2.out, Lib.hid (fun h => by cases h)⟩
              all_goals omega
            | false =>
              rw [if_neg (by decide)] at hk1
              have HK2 := Lib.hid (show scanL (s.data.toList.drop (k + 1)) (B ++ [x]) A false = RS ∧ ∀ b ∈ (B ++ [x]) ++ A, isDg b = true from ⟨hk1.1, fun b hb => by
                rcases List.mem_append.1 hb with hb | hb
                · rcases List.mem_append.1 hb with hb | hb
                  · exact hdig b (List.mem_append.2 (.inl hb))
                  · rw [List.mem_singleton.1 hb]; exact hdi
                · exact hdig b (List.mem_append.2 (.inr hb))⟩)
              have hAn : A = [] := HAN.out rfl
              have HO2 := Lib.hid (show Own V.heap.size w8 v8 (dL ((B ++ [x]) ++ A)) by rw [hAn, List.append_nil, dL_snoc, hd]; rw [hAn, List.append_nil] at ho8; exact ho8)
              have HL2 := Lib.hid (show ((B ++ [x]) ++ A).length ≤ k + 1 by have := HLD.out; simp only [List.length_append, List.length_cons, List.length_nil] at this ⊢; omega)
              clear hk1 hdig hcons hdg h46 hd hx hr8 ho8 hg8 hs8 HO hdi hpt hpt2 hD
              have HAn := Lib.hid hAn
              clear hAn
              go_wp2_with (first | (go_at_call 100; refine (cG _).mono ?_; rintro e w9 ⟨rfl, rfl⟩) | (at_builtin; refine Lib.wpList_append_run _ rfl (.tmp 49) (.tmp 55) 84 84 rfl _ _ rfl rfl _ _ H8.out ?_))
              go_roundg g
              case rel => exact ⟨k + 1, B ++ [x], A, false, by congr 1, by omega, rfl, rfl, HO2, hb8, HK2, HL2.out, Lib.hid (fun _ => HAn.out)⟩
              all_goals omega
          · rw [if_neg (by rw [decide_eq_false hD]; decide)] at hk1
            rw [decide_eq_false hD] at cG
            have HF := Lib.hid (show RD = .inl 5 by
              rw [← HRD.out]
              refine readN_err _ (by omega) (scan_none _ ?_)
              rw [HSG.out, HRS.out, ← hk1.1])
            obtain ⟨W5, hW5, v5, st5⟩ := vR.set false none 0 0
            have hb5 := st5.below hbw (Nat.le_refl _)
            obtain ⟨r0, r1, _, _, _⟩ := id v5
            obtain ⟨y0, y1, y2, y3, _⟩ := id vR
            have HW5 := Lib.hid hW5
            clear hk1 hdig hcons hdg h46 hd hx HO hpt hD hW5 v5 st5
            rcases hpt2 with h | rfl
            · have h46b : ((d : Int) == 46) = false := beq_eq_false_iff_ne.2 (by omega)
              cases p <;> (
                go_wp2_with (go_at_call 100; refine (cG _).mono ?_; rintro e w9 ⟨rfl, rfl⟩)
                try rw [HW5.out]
                exact bodyPost_ret (v := .tuple #[.agg #[.bool false, .slice none 0 0], .int .i64 5]) (by simp [results, Tryz.results70, go_sem, r0, r1]) rfl ⟨by rw [HF.out]; rfl, hb5⟩)
            · by_cases h : d = 46
              · have h46b : ((d : Int) == 46) = true := by rw [h]; rfl
                clear h
                go_wp2_with (go_at_call 100; refine (cG _).mono ?_; rintro e w9 ⟨rfl, rfl⟩)
                try rw [HW5.out]
                exact bodyPost_ret (v := .tuple #[.agg #[.bool false, .slice none 0 0], .int .i64 5]) (by simp [results, Tryz.results70, go_sem, r0, r1]) rfl ⟨by rw [HF.out]; rfl, hb5⟩
              · have h46b : ((d : Int) == 46) = false := beq_eq_false_iff_ne.2 (by omega)
                go_wp2_with (go_at_call 100; refine (cG _).mono ?_; rintro e w9 ⟨rfl, rfl⟩)
                try rw [HW5.out]
                exact bodyPost_ret (v := .tuple #[.agg #[.bool false, .slice none 0 0], .int .i64 5]) (by simp [results, Tryz.results70, go_sem, r0, r1]) rfl ⟨by rw [HF.out]; rfl, hb5⟩
      · obtain rfl : k = s.size := by omega
        obtain rfl : gk = 0 := by omega
        have hil : ¬ (s.size : Int) < (s.size : Int) := by omega
        have hk1 := HK.out
        rw [List.drop_eq_nil_of_le (by rw [hSl]; exact Nat.le_refl _), scanL] at hk1
        have HSC := Lib.hid (show scanL (s.data.toList.drop 1) [] [] false = some (B, A, p) from HRS.out.trans hk1.1.symm)
        have hsml := dL_small (B ++ A) hk1.2
        have hval := dL_val (B ++ A)
        have hdl := dL_len (B ++ A)
        rw [HLD.out] at hdl
        obtain ⟨LL, hLL⟩ : ∃ l, dL (B ++ A) = l := ⟨_, rfl⟩
        rw [hLL] at hsml hval hdl HO
        clear hk1 HK hLL
        by_cases hld0 : ld = 0
        · subst hld0
          have hnil : B ++ A = [] := List.eq_nil_of_length_eq_zero HLD.out
          have HF := Lib.hid (show RD = .inl 5 by
            rw [← HRD.out]
            refine readN_err _ (by omega) (scan_empty _ B A p ?_ hnil)
            rw [HSG.out]
            exact HSC.out)
          obtain ⟨W5, hW5, v5, st5⟩ := vR.set false none 0 0
          have hb5 := st5.below hbw (Nat.le_refl _)
          obtain ⟨r0, r1, _, _, _⟩ := id v5
          obtain ⟨y0, y1, y2, y3, _⟩ := id vR
          have HW5 := Lib.hid hW5
          clear hW5 v5 st5 hsml hval hdl HO hnil
          go_wp2_with fail
          try rw [HW5.out]
          exact bodyPost_ret (v := .tuple #[.agg #[.bool false, .slice none 0 0], .int .i64 5]) (by simp [results, Tryz.results70, go_sem, r0, r1]) rfl ⟨by rw [HF.out]; rfl, hb5⟩
        · have hld0b : ((ld : Int) == 0) = false := beq_eq_false_iff_ne.2 (by omega)
          have HSM := Lib.hid (readN_some s.data.toList [43] (s.data.toList.drop 1) B A p neg (by omega) HSG.out HNG.out HSC.out (fun e => hld0 (by rw [← HLD.out, e]; rfl)))
          by_cases hA20 : A.length ≤ 20
          · have hA20z : (A.length : Int) ≤ 20 := by omega
            obtain ⟨m, hm⟩ : ∃ m, 20 - A.length = m := ⟨_, rfl⟩
            have hmz : (20 : Int) - (A.length : Int) = (m : Int) := by omega
            obtain ⟨n, hn⟩ : ∃ n, readV B A neg = n := ⟨_, rfl⟩
            have HNV := Lib.hid hn
            have HV2 := Lib.hid (show trimW (List.replicate m 0 ++ LL) = wordsOf n by
              rw [trimW_words _ ((Small.zeros m).app hsml), val_app, val_zeros, hval, List.length_replicate, ← hn, readV, if_neg (by omega), hm, Nat.zero_add, Nat.mul_comm])
            have cZ := zeros_any _ LL m (by omega) (by omega) wr HO.out.digs
            have cT := fun W v (h : Digs W v (List.replicate m 0 ++ LL)) => trim_any v (List.replicate m 0 ++ LL) (by rw [List.length_append, List.length_replicate]; omega) W h
            rw [HV2.out] at cT
            clear hn hm hsml hval
            go_wp2_with fail
            refine cZ.mono ?_
            rintro e w5 ⟨x, rfl, hx, hb5⟩
            have cT2 := cT w5 x hx
            obtain ⟨px, cx, hxe⟩ := hx.shape
            rw [show (List.replicate m (0 : Nat) ++ LL).length = m + ld by rw [List.length_append, List.length_replicate, hdl]] at hxe
            subst hxe
            clear cT cZ hx hdl HO
            go_wp2_with fail
            refine cT2.mono ?_
            rintro e w6 ⟨u, rfl, hu, rfl⟩
            have vR5 := vR.below hb5
            have vX5 := vX.below hb5
            have hbw5 := hbw.trans (hb5.mono hbw.size)
            obtain ⟨pu, cu, hue⟩ := hu.shape
            subst hue
            obtain ⟨lu, hlu⟩ : ∃ l, (wordsOf n).length = l := ⟨_, rfl⟩
            rw [hlu] at hu ⊢
            have v6 := var_set1 vX5 pu lu cu
            have vR6 := var_keep vR5 (show w.heap.size ≠ w.heap.size + 1 by omega) (B' := w.heap.size + 1) (o := 1) (.slice pu lu cu)
            have hD6 := hu.setCell (.slice pu lu cu) vX5.c1 (fun k i h => by cases h)
            have hb6 : Below w.heap.size w (w5.setCell ⟨w.heap.size + 1, 1, none⟩ (.slice pu lu cu)) := hbw5.setCell (p := ⟨w.heap.size + 1, 1, none⟩) (Nat.le_succ _) _
            obtain ⟨W6, hW6⟩ : ∃ W6, w5.setCell ⟨w.heap.size + 1, 1, none⟩ (.slice pu lu cu) = W6 := ⟨_, rfl⟩
            rw [hW6] at v6 vR6 hD6 hb6
            obtain ⟨x0, x1, x2, x3, _⟩ := id vX5
            have HLU := Lib.hid hlu
            have h50 := len_50 n
            have hz0 := wordsOf_nil n
            rw [hlu] at h50
            clear hu hlu vR5 vX5 hb5 hbw5
            by_cases hl0 : lu = 0
            · subst hl0
              have hn0 : n = 0 := hz0.1 (List.eq_nil_of_length_eq_zero HLU.out)
              have HR := Lib.hid (show RD = .inr (false, 0) by
                rw [← HRD.out, HSM.out, HNV.out, hn0, if_pos (by decide)]
                simp)
              have v7 := var_set0 v6 false
              have vR7 := var_keep vR6 (show w.heap.size ≠ w.heap.size + 1 by omega) (B' := w.heap.size + 1) (o := 0) (.bool false)
              have hb7 : Below w.heap.size w (W6.setCell ⟨w.heap.size + 1, 0, none⟩ (.bool false)) := hb6.setCell (p := ⟨w.heap.size + 1, 0, none⟩) (Nat.le_succ _) _
              obtain ⟨W7, hW7⟩ : ∃ W7, W6.setCell ⟨w.heap.size + 1, 0, none⟩ (.bool false) = W7 := ⟨_, rfl⟩
              rw [hW7] at v7 vR7 hb7
              obtain ⟨W8, hW8, v8, st8⟩ := vR7.set false pu 0 cu
              have hb8 := st8.below hb7 (Nat.le_refl _)
              obtain ⟨z0, z1, z2, z3, _⟩ := id v6
              obtain ⟨q0, q1, q2, q3, _⟩ := id v7
              obtain ⟨t0, t1, t2, t3, _⟩ := id vR7
              obtain ⟨r0, r1, _, _, _⟩ := id v8
              clear hD6 st8 v8 v7 vR7 v6 vR6 h50 hz0 hn0
              go_wp2_with fail
              exact bodyPost_ret (v := .tuple #[.agg #[.bool false, .slice pu 0 cu], .int .i64 0]) (by simp [results, Tryz.results70, go_sem, r0, r1]) rfl ⟨by rw [HR.out]; exact ⟨pu, cu, rfl, Digs.nil _ _ _⟩, hb8⟩
            · have hn0 : n ≠ 0 := fun h => hl0 (by rw [← HLU.out, h]; rfl)
              have hl0b : ((lu : Int) == 0) = false := beq_eq_false_iff_ne.2 (by omega)
              obtain ⟨z0, z1, z2, z3, _⟩ := id v6
              obtain ⟨t0, t1, t2, t3, _⟩ := id vR6
              by_cases hl50 : lu ≤ 50
              · have hl50z : ¬ (50 : Int) < (lu : Int) := by omega
                have HR := Lib.hid (show RD = .inr (neg, n) by
                  rw [← HRD.out, HSM.out, HNV.out, if_pos (h50.1 hl50)]
                  simp [hn0])
                obtain ⟨W8, hW8, v8, st8⟩ := vR6.set neg pu lu cu
                have hb8 := st8.below hb6 (Nat.le_refl _)
                have HD8 := Lib.hid (show Digs W8 (.slice pu lu cu) (wordsOf n) by
                  have := (hD6.setCell (.bool neg) vR6.c0 (fun k i h => by cases h)).setCell (.slice pu lu cu) ((World.cell?_setCell_other _ _ _ _ (by simp)).trans vR6.c1) (fun k i h => by cases h)
                  rw [hW8] at this
                  exact this)
                obtain ⟨r0, r1, _, _, _⟩ := id v8
                clear hD6 st8 v8 v6 vR6 h50 hz0 hn0
                go_wp2_with fail
                exact bodyPost_ret (v := .tuple #[.agg #[.bool neg, .slice pu lu cu], .int .i64 0]) (by simp [results, Tryz.results70, go_sem, r0, r1]) rfl ⟨by rw [HR.out]; exact ⟨pu, cu, by rw [HLU.out], by rw [HLU.out]; exact HD8.out⟩, hb8⟩
              · have hl50z : (50 : Int) < (lu : Int) := by omega
                have HR := Lib.hid (show RD = .inl 40 by
                  rw [← HRD.out, HSM.out, HNV.out, if_neg (fun h => hl50 (h50.2 h))])
                obtain ⟨W8, hW8, v8, st8⟩ := vR6.set false none 0 0
                have hb8 := st8.below hb6 (Nat.le_refl _)
                obtain ⟨r0, r1, _, _, _⟩ := id v8
                clear hD6 st8 v8 v6 vR6 h50 hz0 hn0
                go_wp2_with fail
                exact bodyPost_ret (v := .tuple #[.agg #[.bool false, .slice none 0 0], .int .i64 40]) (by simp [results, Tryz.results70, go_sem, r0, r1]) rfl ⟨by rw [HR.out]; rfl, hb8⟩
          · have hA20z : ¬ (A.length : Int) ≤ 20 := by omega
            obtain ⟨m, hm⟩ : ∃ m, A.length - 20 = m := ⟨_, rfl⟩
            have hmz : (A.length : Int) - 20 = (m : Int) := by omega
            obtain ⟨n, hn⟩ : ∃ n, readV B A neg = n := ⟨_, rfl⟩
            have HNV := Lib.hid hn
            have cZ := cut_any neg ⟨#[101, 118, 101, 110]⟩ evenW rfl _ LL hsml m (by omega) (by omega) (by omega) wr HO.out.digs
            rw [show divW evenW neg (val LL) (10 ^ m) = n by rw [hval, ← hn, readV, if_pos (by omega), hm]] at cZ
            obtain ⟨xx0, xx1, xx2, xx3, _⟩ := id vX
            clear hn hm hsml hval
            go_wp2_with fail
            refine cZ.mono ?_
            rintro e w5 ⟨u, rfl, hu, hb5⟩
            clear cZ hdl HO xx0 xx1 xx2 xx3
            have vR5 := vR.below hb5
            have vX5 := vX.below hb5
            have hbw5 := hbw.trans (hb5.mono hbw.size)
            obtain ⟨pu, cu, hue⟩ := hu.shape
            subst hue
            obtain ⟨lu, hlu⟩ : ∃ l, (wordsOf n).length = l := ⟨_, rfl⟩
            rw [hlu] at hu ⊢
            have v6 := var_set1 vX5 pu lu cu
            have vR6 := var_keep vR5 (show w.heap.size ≠ w.heap.size + 1 by omega) (B' := w.heap.size + 1) (o := 1) (.slice pu lu cu)
            have hD6 := hu.setCell (.slice pu lu cu) vX5.c1 (fun k i h => by cases h)
            have hb6 : Below w.heap.size w (w5.setCell ⟨w.heap.size + 1, 1, none⟩ (.slice pu lu cu)) := hbw5.setCell (p := ⟨w.heap.size + 1, 1, none⟩) (Nat.le_succ _) _
            obtain ⟨W6, hW6⟩ : ∃ W6, w5.setCell ⟨w.heap.size + 1, 1, none⟩ (.slice pu lu cu) = W6 := ⟨_, rfl⟩
            rw [hW6] at v6 vR6 hD6 hb6
            obtain ⟨x0, x1, x2, x3, _⟩ := id vX5
            have HLU := Lib.hid hlu
            have h50 := len_50 n
            have hz0 := wordsOf_nil n
            rw [hlu] at h50
            clear hu hlu vR5 vX5 hb5 hbw5
            by_cases hl0 : lu = 0
            · subst hl0
              have hn0 : n = 0 := hz0.1 (List.eq_nil_of_length_eq_zero HLU.out)
              have HR := Lib.hid (show RD = .inr (false, 0) by
                rw [← HRD.out, HSM.out, HNV.out, hn0, if_pos (by decide)]
                simp)
              have v7 := var_set0 v6 false
              have vR7 := var_keep vR6 (show w.heap.size ≠ w.heap.size + 1 by omega) (B' := w.heap.size + 1) (o := 0) (.bool false)
              have hb7 : Below w.heap.size w (W6.setCell ⟨w.heap.size + 1, 0, none⟩ (.bool false)) := hb6.setCell (p := ⟨w.heap.size + 1, 0, none⟩) (Nat.le_succ _) _
              obtain ⟨W7, hW7⟩ : ∃ W7, W6.setCell ⟨w.heap.size + 1, 0, none⟩ (.bool false) = W7 := ⟨_, rfl⟩
              rw [hW7] at v7 vR7 hb7
              obtain ⟨W8, hW8, v8, st8⟩ := vR7.set false pu 0 cu
              have hb8 := st8.below hb7 (Nat.le_refl _)
              obtain ⟨z0, z1, z2, z3, _⟩ := id v6
              obtain ⟨q0, q1, q2, q3, _⟩ := id v7
              obtain ⟨t0, t1, t2, t3, _⟩ := id vR7
              obtain ⟨r0, r1, _, _, _⟩ := id v8
              clear hD6 st8 v8 v7 vR7 v6 vR6 h50 hz0 hn0
              go_wp2_with fail
              exact bodyPost_ret (v := .tuple #[.agg #[.bool false, .slice pu 0 cu], .int .i64 0]) (by simp [results, Tryz.results70, go_sem, r0, r1]) rfl ⟨by rw [HR.out]; exact ⟨pu, cu, rfl, Digs.nil _ _ _⟩, hb8⟩
            · have hn0 : n ≠ 0 := fun h => hl0 (by rw [← HLU.out, h]; rfl)
              have hl0b : ((lu : Int) == 0) = false := beq_eq_false_iff_ne.2 (by omega)
              obtain ⟨z0, z1, z2, z3, _⟩ := id v6
              obtain ⟨t0, t1, t2, t3, _⟩ := id vR6
              by_cases hl50 : lu ≤ 50
              · have hl50z : ¬ (50 : Int) < (lu : Int) := by omega
                have HR := Lib.hid (show RD = .inr (neg, n) by
                  rw [← HRD.out, HSM.out, HNV.out, if_pos (h50.1 hl50)]
                  simp [hn0])
                obtain ⟨W8, hW8, v8, st8⟩ := vR6.set neg pu lu cu
                have hb8 := st8.below hb6 (Nat.le_refl _)
                have HD8 := Lib.hid (show Digs W8 (.slice pu lu cu) (wordsOf n) by
                  have := (hD6.setCell (.bool neg) vR6.c0 (fun k i h => by cases h)).setCell (.slice pu lu cu) ((World.cell?_setCell_other _ _ _ _ (by simp)).trans vR6.c1) (fun k i h => by cases h)
                  rw [hW8] at this
                  exact this)
                obtain ⟨r0, r1, _, _, _⟩ := id v8
                clear hD6 st8 v8 v6 vR6 h50 hz0 hn0
                go_wp2_with fail
                exact bodyPost_ret (v := .tuple #[.agg #[.bool neg, .slice pu lu cu], .int .i64 0]) (by simp [results, Tryz.results70, go_sem, r0, r1]) rfl ⟨by rw [HR.out]; exact ⟨pu, cu, by rw [HLU.out], by rw [HLU.out]; exact HD8.out⟩, hb8⟩
              · have hl50z : (50 : Int) < (lu : Int) := by omega
                have HR := Lib.hid (show RD = .inl 40 by
                  rw [← HRD.out, HSM.out, HNV.out, if_neg (fun h => hl50 (h50.2 h))])
                obtain ⟨W8, hW8, v8, st8⟩ := vR6.set false none 0 0
                have hb8 := st8.below hb6 (Nat.le_refl _)
                obtain ⟨r0, r1, _, _, _⟩ := id v8
                clear hD6 st8 v8 v6 vR6 h50 hz0 hn0
                go_wp2_with fail
                exact bodyPost_ret (v := .tuple #[.agg #[.bool false, .slice none 0 0], .int .i64 40]) (by simp [results, Tryz.results70, go_sem, r0, r1]) rfl ⟨by rw [HR.out]; rfl, hb8⟩
  · -- minus
    obtain ⟨V, hVV⟩ : ∃ V, ((w.alloc (.cells #[.bool false, .slice none 0 0] 86)).alloc (.cells #[.bool true, .slice none 0 0] 86)) = V := ⟨_, rfl⟩
    have hV1 : Below w.heap.size w V := by rw [← hVV]; exact ((Below.refl _ w).alloc (Nat.le_refl _) _).alloc (by simp) _
    have vX9 := vX
    have vX : VarAt ((w.alloc (.cells #[.bool false, .slice none 0 0] 86)).alloc (.cells #[.bool true, .slice none 0 0] 86)) (w.heap.size + 1) true none 0 0 := by
      have := var_new (w.alloc (.cells #[.bool false, .slice none 0 0] 86)) true none 0 0
      rwa [World.size_alloc] at this
    have vR : VarAt ((w.alloc (.cells #[.bool false, .slice none 0 0] 86)).alloc (.cells #[.bool true, .slice none 0 0] 86)) w.heap.size false none 0 0 := (var_new w false none 0 0).below ((Below.refl _ _).alloc (Nat.le_refl _) _)
    obtain ⟨neg, hneg⟩ : ∃ b : Bool, b = true := ⟨_, rfl⟩
    have HNG := Lib.hid (show decide (([45] : List UInt8) = [45]) = neg by rw [hneg]; decide)
    rw [hVV] at vR vX
    have HW1 := Lib.hid hW1
    have HVV := Lib.hid hVV
    have h0z : (0 : Int) < (s.size : Int) := by omega
    have hc1 : s[0].toNat = 45 := by rw [hc]; rfl
    have HNEG := Lib.hid hneg
    clear hVV hb1 hW1 hneg
    go_enter Tryz.func70, Tryz.ntmps70
    go_wp2_with fail
    try rw [HW1.out]
    try rw [HVV.out]
    clear vX9 HW1 HVV
    rw [← HNEG.out] at vX
    clear hc1 hc h0z
    -- the loop
    have HSG := Lib.hid hsg
    clear hsg
    have hbV : Below w.heap.size w V := hV1
    obtain ⟨RS, hRS⟩ : ∃ r, scanL (s.data.toList.drop 1) [] [] false = r := ⟨_, rfl⟩
    have HRS := Lib.hid hRS
    clear hRS hV1
    go_loopg [5, 6, 7, 8] (s.size - 1) (fun g s5 s6 s7 s8 wx => ∃ (k : Nat) (B A : List UInt8) (p : Bool), s5 = .int .i64 k ∧ k + g = s.size ∧ s7 = .int .i64 (A.length : Nat) ∧ s8 = .bool p ∧ Hid (Own V.heap.size wx s6 (dL (B ++ A))) ∧ Below V.heap.size V wx ∧ Hid (scanL (s.data.toList.drop k) B A p = RS ∧ (∀ b ∈ B ++ A, isDg b = true)) ∧ (B ++ A).length ≤ k ∧ Hid (p = false → A = []))
    case atStart => exact ⟨1, [], [], false, rfl, by omega, rfl, rfl, Lib.hid (Own.start _ _), Below.refl _ _, Lib.hid ⟨HRS.out, fun b hb => by cases hb⟩, by simp, Lib.hid (fun _ => rfl)⟩
    case round =>
      obtain ⟨k, B, A, p, rfl, hkg, rfl, rfl, HO, hbx, HK, hlen, HAN⟩ := hrel
      obtain ⟨pd, cd, h6⟩ := HO.out.shape
      rw [dL_len] at h6
      obtain ⟨ld, hld⟩ : ∃ l, (B ++ A).length = l := ⟨_, rfl⟩
      rw [hld] at h6 hlen
      have HLD := Lib.hid hld
      have hAl : A.length ≤ 200 := by rw [List.length_append] at hld; omega
      subst h6
      clear hld
      have vR := vR.below hbx
      have vX := vX.below hbx
      have hbw := hbV.trans (hbx.mono hbV.size)
      by_cases hlt : k < s.size
      · obtain ⟨g, rfl⟩ : ∃ g, gk = g + 1 := ⟨gk - 1, by omega⟩
        have hil : (k : Int) < (s.size : Int) := by omega
        have hcons : s.data.toList.drop k = s[k] :: s.data.toList.drop (k + 1) := List.drop_eq_getElem_cons (by rw [hSl]; exact hlt)
        have hk1 := HK.out
        rw [hcons] at hk1
        have hdig := HK.out.2
        obtain ⟨x, hx⟩ : ∃ x : UInt8, s[k] = x := ⟨_, rfl⟩
        rw [hx] at hk1
        rw [scanL] at hk1
        obtain ⟨d, hd⟩ : ∃ d, x.toNat = d := ⟨_, rfl⟩
        have hd256 : d < 256 := by rw [← hd]; exact UInt8.toNat_lt x
        have hdd : s[k].toNat = d := by rw [hx]; exact hd
        have h46 : x = 46 ↔ d = 46 := by rw [← hd]; exact ⟨fun e => by rw [e]; rfl, fun e => UInt8.toNat.inj e⟩
        have hdg : isDg x = decide (48 ≤ d ∧ d ≤ 57) := by unfold isDg; rw [hd]
        have cG := digit_any d hd256
        by_cases hpt : d = 46 ∧ p = false
        · obtain ⟨hd46, rfl⟩ := hpt
          rw [if_pos ⟨h46.2 hd46, rfl⟩] at hk1
          have HK2 := Lib.hid (And.intro hk1.1 hdig)
          subst hd46
          clear hk1 hdig hcons hdg h46 hd hx cG
          go_wp2_with fail
          go_roundg g
          case rel => exact ⟨k + 1, B, A, true, by congr 1, by omega, rfl, rfl, HO, hbx, HK2, by rw [HLD.out]; omega, Lib.hid (fun h => by cases h)⟩
          all_goals omega
        · rw [if_neg (fun h => hpt ⟨h46.1 h.1, h.2⟩), hdg] at hk1
          have hpt2 : d ≠ 46 ∨ p = true := by
            by_cases h : d = 46
            · exact .inr (by cases p with
                | true => rfl
                | false => exact absurd ⟨h, rfl⟩ hpt)
            · exact .inl h
          by_cases hD : 48 ≤ d ∧ d ≤ 57
          · rw [if_pos (by rw [decide_eq_true hD])] at hk1
            have hdi : isDg x = true := by rw [hdg, decide_eq_true hD]
            rw [decide_eq_true hD] at cG
            obtain ⟨v8, w8, hr8, ho8, hg8, _, hs8⟩ := append_digit V.heap.size _ _ (d - 48) (by rw [dL_len, HLD.out]; omega) wr HO.out hbx.size
            rw [show ((d - 48 : Nat) : Int) = (d : Int) - 48 by omega] at hr8
            have hb8 := hg8 _ hbx
            have hd1 : (48 : Int) ≤ (d : Int) := by omega
            have hd2 : (d : Int) ≤ 57 := by omega
            have hd46 : ¬ d = 46 := by omega
            have hd46b : ((d : Int) == 46) = false := beq_eq_false_iff_ne.2 (by omega)
            have H8 := Lib.hid hr8
            cases p with
            | true =>
              rw [if_pos rfl] at hk1
              have HK2 := Lib.hid (show scanL (s.data.toList.drop (k + 1)) B (A ++ [x]) true = RS ∧ ∀ b ∈ B ++ (A ++ [x]), isDg b = true from ⟨hk1.1, fun b hb => by
                rw [← List.append_assoc] at hb
                rcases List.mem_append.1 hb with hb | hb
                · exact hdig b hb
                · rw [List.mem_singleton.1 hb]; exact hdi⟩)
              have HO2 := Lib.hid (show Own V.heap.size w8 v8 (dL (B ++ (A ++ [x]))) by rw [← List.append_assoc, dL_snoc, hd]; exact ho8)
              have HL2 := Lib.hid (show (B ++ (A ++ [x])).length ≤ k + 1 by rw [← List.append_assoc, List.length_append, HLD.out]; simp; omega)
              have HA2 := Lib.hid (show (((A ++ [x]).length : Nat) : Int) = (A.length : Int) + 1 by simp)
              clear hk1 hdig hcons hdg h46 hd hx hr8 ho8 hg8 hs8 HO hdi hpt hpt2 hD
              go_wp2_with (first | (go_at_call 100; refine (cG _).mono ?_; rintro e w9 ⟨rfl, rfl⟩) | (at_builtin; refine Lib.wpList_append_run _ rfl (.tmp 49) (.tmp 55) 84 84 rfl _ _ rfl rfl _ _ H8.out ?_))
              go_roundg g
              case rel => exact ⟨k + 1, B, A ++ [x], true, by congr 1, by omega, by rw [HA2.out], rfl, HO2, hb8, HK2, HL2.out, Lib.hid (fun h => by cases h)⟩
              all_goals omega
            | false =>
              rw [if_neg (by decide)] at hk1
              have HK2 := Lib.hid (show scanL (s.data.toList.drop (k + 1)) (B ++ [x]) A false = RS ∧ ∀ b ∈ (B ++ [x]) ++ A, isDg b = true from ⟨hk1.1, fun b hb => by
                rcases List.mem_append.1 hb with hb | hb
                · rcases List.mem_append.1 hb with hb | hb
                  · exact hdig b (List.mem_append.2 (.inl hb))
                  · rw [List.mem_singleton.1 hb]; exact hdi
                · exact hdig b (List.mem_append.2 (.inr hb))⟩)
              have hAn : A = [] := HAN.out rfl
              have HO2 := Lib.hid (show Own V.heap.size w8 v8 (dL ((B ++ [x]) ++ A)) by rw [hAn, List.append_nil, dL_snoc, hd]; rw [hAn, List.append_nil] at ho8; exact ho8)
              have HL2 := Lib.hid (show ((B ++ [x]) ++ A).length ≤ k + 1 by have := HLD.out; simp only [List.length_append, List.length_cons, List.length_nil] at this ⊢; omega)
              clear hk1 hdig hcons hdg h46 hd hx hr8 ho8 hg8 hs8 HO hdi hpt hpt2 hD
              have HAn := Lib.hid hAn
              clear hAn
              go_wp2_with (first | (go_at_call 100; refine (cG _).mono ?_; rintro e w9 ⟨rfl, rfl⟩) | (at_builtin; refine Lib.wpList_append_run _ rfl (.tmp 49) (.tmp 55) 84 84 rfl _ _ rfl rfl _ _ H8.out ?_))
              go_roundg g
              case rel => exact ⟨k + 1, B ++ [x], A, false, by congr 1, by omega, rfl, rfl, HO2, hb8, HK2, HL2.out, Lib.hid (fun _ => HAn.out)⟩
              all_goals omega
          · rw [if_neg (by rw [decide_eq_false hD]; decide)] at hk1
            rw [decide_eq_false hD] at cG
            have HF := Lib.hid (show RD = .inl 5 by
              rw [← HRD.out]
              refine readN_err _ (by omega) (scan_none _ ?_)
              rw [HSG.out, HRS.out, ← hk1.1])
            obtain ⟨W5, hW5, v5, st5⟩ := vR.set false none 0 0
            have hb5 := st5.below hbw (Nat.le_refl _)
            obtain ⟨r0, r1, _, _, _⟩ := id v5
            obtain ⟨y0, y1, y2, y3, _⟩ := id vR
            have HW5 := Lib.hid hW5
            clear hk1 hdig hcons hdg h46 hd hx HO hpt hD hW5 v5 st5
            rcases hpt2 with h | rfl
            · have h46b : ((d : Int) == 46) = false := beq_eq_false_iff_ne.2 (by omega)
              cases p <;> (
                go_wp2_with (go_at_call 100; refine (cG _).mono ?_; rintro e w9 ⟨rfl, rfl⟩)
                try rw [HW5.out]
                exact bodyPost_ret (v := .tuple #[.agg #[.bool false, .slice none 0 0], .int .i64 5]) (by simp [results, Tryz.results70, go_sem, r0, r1]) rfl ⟨by rw [HF.out]; rfl, hb5⟩)
            · by_cases h : d = 46
              · have h46b : ((d : Int) == 46) = true := by rw [h]; rfl
                clear h
                go_wp2_with (go_at_call 100; refine (cG _).mono ?_; rintro e w9 ⟨rfl, rfl⟩)
                try rw [HW5.out]
                exact bodyPost_ret (v := .tuple #[.agg #[.bool false, .slice none 0 0], .int .i64 5]) (by simp [results, Tryz.results70, go_sem, r0, r1]) rfl ⟨by rw [HF.out]; rfl, hb5⟩
              · have h46b : ((d : Int) == 46) = false := beq_eq_false_iff_ne.2 (by omega)
                go_wp2_with (go_at_call 100; refine (cG _).mono ?_; rintro e w9 ⟨rfl, rfl⟩)
                try rw [HW5.out]
                exact bodyPost_ret (v := .tuple #[.agg #[.bool false, .slice none 0 0], .int .i64 5]) (by simp [results, Tryz.results70, go_sem, r0, r1]) rfl ⟨by rw [HF.out]; rfl, hb5⟩
      · obtain rfl : k = s.size := by omega
        obtain rfl : gk = 0 := by omega
        have hil : ¬ (s.size : Int) < (s.size : Int) := by omega
        have hk1 := HK.out
        rw [List.drop_eq_nil_of_le (by rw [hSl]; exact Nat.le_refl _), scanL] at hk1
        have HSC := Lib.hid (show scanL (s.data.toList.drop 1) [] [] false = some (B, A, p) from HRS.out.trans hk1.1.symm)
        have hsml := dL_small (B ++ A) hk1.2
        have hval := dL_val (B ++ A)
        have hdl := dL_len (B ++ A)
        rw [HLD.out] at hdl
        obtain ⟨LL, hLL⟩ : ∃ l, dL (B ++ A) = l := ⟨_, rfl⟩
        rw [hLL] at hsml hval hdl HO
        clear hk1 HK hLL
        by_cases hld0 : ld = 0
        · subst hld0
          have hnil : B ++ A = [] := List.eq_nil_of_length_eq_zero HLD.out
          have HF := Lib.hid (show RD = .inl 5 by
            rw [← HRD.out]
            refine readN_err _ (by omega) (scan_empty _ B A p ?_ hnil)
            rw [HSG.out]
            exact HSC.out)
          obtain ⟨W5, hW5, v5, st5⟩ := vR.set false none 0 0
          have hb5 := st5.below hbw (Nat.le_refl _)
          obtain ⟨r0, r1, _, _, _⟩ := id v5
          obtain ⟨y0, y1, y2, y3, _⟩ := id vR
          have HW5 := Lib.hid hW5
          clear hW5 v5 st5 hsml hval hdl HO hnil
          go_wp2_with fail
          try rw [HW5.out]
          exact bodyPost_ret (v := .tuple #[.agg #[.bool false, .slice none 0 0], .int .i64 5]) (by simp [results, Tryz.results70, go_sem, r0, r1]) rfl ⟨by rw [HF.out]; rfl, hb5⟩
        · have hld0b : ((ld : Int) == 0) = false := beq_eq_false_iff_ne.2 (by omega)
          have HSM := Lib.hid (readN_some s.data.toList [45] (s.data.toList.drop 1) B A p neg (by omega) HSG.out HNG.out HSC.out (fun e => hld0 (by rw [← HLD.out, e]; rfl)))
          by_cases hA20 : A.length ≤ 20
          · have hA20z : (A.length : Int) ≤ 20 := by omega
            obtain ⟨m, hm⟩ : ∃ m, 20 - A.length = m := ⟨_, rfl⟩
            have hmz : (20 : Int) - (A.length : Int) = (m : Int) := by omega
            obtain ⟨n, hn⟩ : ∃ n, readV B A neg = n := ⟨_, rfl⟩
            have HNV := Lib.hid hn
            have HV2 := Lib.hid (show trimW (List.replicate m 0 ++ LL) = wordsOf n by
              rw [trimW_words _ ((Small.zeros m).app hsml), val_app, val_zeros, hval, List.length_replicate, ← hn, readV, if_neg (by omega), hm, Nat.zero_add, Nat.mul_comm])
            have cZ := zeros_any _ LL m (by omega) (by omega) wr HO.out.digs
            have cT := fun W v (h : Digs W v (List.replicate m 0 ++ LL)) => trim_any v (List.replicate m 0 ++ LL) (by rw [List.length_append, List.length_replicate]; omega) W h
            rw [HV2.out] at cT
            clear hn hm hsml hval
            go_wp2_with fail
            refine cZ.mono ?_
            rintro e w5 ⟨x, rfl, hx, hb5⟩
            have cT2 := cT w5 x hx
            obtain ⟨px, cx, hxe⟩ := hx.shape
            rw [show (List.replicate m (0 : Nat) ++ LL).length = m + ld by rw [List.length_append, List.length_replicate, hdl]] at hxe
            subst hxe
            clear cT cZ hx hdl HO
            go_wp2_with fail
            refine cT2.mono ?_
            rintro e w6 ⟨u, rfl, hu, rfl⟩
            have vR5 := vR.below hb5
            have vX5 := vX.below hb5
            have hbw5 := hbw.trans (hb5.mono hbw.size)
            obtain ⟨pu, cu, hue⟩ := hu.shape
            subst hue
            obtain ⟨lu, hlu⟩ : ∃ l, (wordsOf n).length = l := ⟨_, rfl⟩
            rw [hlu] at hu ⊢
            have v6 := var_set1 vX5 pu lu cu
            have vR6 := var_keep vR5 (show w.heap.size ≠ w.heap.size + 1 by omega) (B' := w.heap.size + 1) (o := 1) (.slice pu lu cu)
            have hD6 := hu.setCell (.slice pu lu cu) vX5.c1 (fun k i h => by cases h)
            have hb6 : Below w.heap.size w (w5.setCell ⟨w.heap.size + 1, 1, none⟩ (.slice pu lu cu)) := hbw5.setCell (p := ⟨w.heap.size + 1, 1, none⟩) (Nat.le_succ _) _
            obtain ⟨W6, hW6⟩ : ∃ W6, w5.setCell ⟨w.heap.size + 1, 1, none⟩ (.slice pu lu cu) = W6 := ⟨_, rfl⟩
            rw [hW6] at v6 vR6 hD6 hb6
            obtain ⟨x0, x1, x2, x3, _⟩ := id vX5
            have HLU := Lib.hid hlu
            have h50 := len_50 n
            have hz0 := wordsOf_nil n
            rw [hlu] at h50
            clear hu hlu vR5 vX5 hb5 hbw5
            by_cases hl0 : lu = 0
            · subst hl0
              have hn0 : n = 0 := hz0.1 (List.eq_nil_of_length_eq_zero HLU.out)
              have HR := Lib.hid (show RD = .inr (false, 0) by
                rw [← HRD.out, HSM.out, HNV.out, hn0, if_pos (by decide)]
                simp)
              have v7 := var_set0 v6 false
              have vR7 := var_keep vR6 (show w.heap.size ≠ w.heap.size + 1 by omega) (B' := w.heap.size + 1) (o := 0) (.bool false)
              have hb7 : Below w.heap.size w (W6.setCell ⟨w.heap.size + 1, 0, none⟩ (.bool false)) := hb6.setCell (p := ⟨w.heap.size + 1, 0, none⟩) (Nat.le_succ _) _
              obtain ⟨W7, hW7⟩ : ∃ W7, W6.setCell ⟨w.heap.size + 1, 0, none⟩ (.bool false) = W7 := ⟨_, rfl⟩
              rw [hW7] at v7 vR7 hb7
              obtain ⟨W8, hW8, v8, st8⟩ := vR7.set false pu 0 cu
              have hb8 := st8.below hb7 (Nat.le_refl _)
              obtain ⟨z0, z1, z2, z3, _⟩ := id v6
              obtain ⟨q0, q1, q2, q3, _⟩ := id v7
              obtain ⟨t0, t1, t2, t3, _⟩ := id vR7
              obtain ⟨r0, r1, _, _, _⟩ := id v8
              clear hD6 st8 v8 v7 vR7 v6 vR6 h50 hz0 hn0
              go_wp2_with fail
              exact bodyPost_ret (v := .tuple #[.agg #[.bool false, .slice pu 0 cu], .int .i64 0]) (by simp [results, Tryz.results70, go_sem, r0, r1]) rfl ⟨by rw [HR.out]; exact ⟨pu, cu, rfl, Digs.nil _ _ _⟩, hb8⟩
            · have hn0 : n ≠ 0 := fun h => hl0 (by rw [← HLU.out, h]; rfl)
              have hl0b : ((lu : Int) == 0) = false := beq_eq_false_iff_ne.2 (by omega)
              obtain ⟨z0, z1, z2, z3, _⟩ := id v6
              obtain ⟨t0, t1, t2, t3, _⟩ := id vR6
              by_cases hl50 : lu ≤ 50
              · have hl50z : ¬ (50 : Int) < (lu : Int) := by omega
                have HR := Lib.hid (show RD = .inr (neg, n) by
                  rw [← HRD.out, HSM.out, HNV.out, if_pos (h50.1 hl50)]
                  simp [hn0])
                obtain ⟨W8, hW8, v8, st8⟩ := vR6.set neg pu lu cu
                have hb8 := st8.below hb6 (Nat.le_refl _)
                have HD8 := Lib.hid (show Digs W8 (.slice pu lu cu) (wordsOf n) by
                  have := (hD6.setCell (.bool neg) vR6.c0 (fun k i h => by cases h)).setCell (.slice pu lu cu) ((World.cell?_setCell_other _ _ _ _ (by simp)).trans vR6.c1) (fun k i h => by cases h)
                  rw [hW8] at this
                  exact this)
                obtain ⟨r0, r1, _, _, _⟩ := id v8
                clear hD6 st8 v8 v6 vR6 h50 hz0 hn0
                go_wp2_with fail
                exact bodyPost_ret (v := .tuple #[.agg #[.bool neg, .slice pu lu cu], .int .i64 0]) (by simp [results, Tryz.results70, go_sem, r0, r1]) rfl ⟨by rw [HR.out]; exact ⟨pu, cu, by rw [HLU.out], by rw [HLU.out]; exact HD8.out⟩, hb8⟩
              · have hl50z : (50 : Int) < (lu : Int) := by omega
                have HR := Lib.hid (show RD = .inl 40 by
                  rw [← HRD.out, HSM.out, HNV.out, if_neg (fun h => hl50 (h50.2 h))])
                obtain ⟨W8, hW8, v8, st8⟩ := vR6.set false none 0 0
                have hb8 := st8.below hb6 (Nat.le_refl _)
                obtain ⟨r0, r1, _, _, _⟩ := id v8
                clear hD6 st8 v8 v6 vR6 h50 hz0 hn0
                go_wp2_with fail
                exact bodyPost_ret (v := .tuple #[.agg #[.bool false, .slice none 0 0], .int .i64 40]) (by simp [results, Tryz.results70, go_sem, r0, r1]) rfl ⟨by rw [HR.out]; rfl, hb8⟩
          · have hA20z : ¬ (A.length : Int) ≤ 20 := by omega
            obtain ⟨m, hm⟩ : ∃ m, A.length - 20 = m := ⟨_, rfl⟩
            have hmz : (A.length : Int) - 20 = (m : Int) := by omega
            obtain ⟨n, hn⟩ : ∃ n, readV B A neg = n := ⟨_, rfl⟩
            have HNV := Lib.hid hn
            have cZ := cut_any neg ⟨#[101, 118, 101, 110]⟩ evenW rfl _ LL hsml m (by omega) (by omega) (by omega) wr HO.out.digs
            rw [show divW evenW neg (val LL) (10 ^ m) = n by rw [hval, ← hn, readV, if_pos (by omega), hm]] at cZ
            obtain ⟨xx0, xx1, xx2, xx3, _⟩ := id vX
            clear hn hm hsml hval
            go_wp2_with fail
            refine cZ.mono ?_
            rintro e w5 ⟨u, rfl, hu, hb5⟩
            clear cZ hdl HO xx0 xx1 xx2 xx3
            have vR5 := vR.below hb5
            have vX5 := vX.below hb5
            have hbw5 := hbw.trans (hb5.mono hbw.size)
            obtain ⟨pu, cu, hue⟩ := hu.shape
            subst hue
            obtain ⟨lu, hlu⟩ : ∃ l, (wordsOf n).length = l := ⟨_, rfl⟩
            rw [hlu] at hu ⊢
            have v6 := var_set1 vX5 pu lu cu
            have vR6 := var_keep vR5 (show w.heap.size ≠ w.heap.size + 1 by omega) (B' := w.heap.size + 1) (o := 1) (.slice pu lu cu)
            have hD6 := hu.setCell (.slice pu lu cu) vX5.c1 (fun k i h => by cases h)
            have hb6 : Below w.heap.size w (w5.setCell ⟨w.heap.size + 1, 1, none⟩ (.slice pu lu cu)) := hbw5.setCell (p := ⟨w.heap.size + 1, 1, none⟩) (Nat.le_succ _) _
            obtain ⟨W6, hW6⟩ : ∃ W6, w5.setCell ⟨w.heap.size + 1, 1, none⟩ (.slice pu lu cu) = W6 := ⟨_, rfl⟩
            rw [hW6] at v6 vR6 hD6 hb6
            obtain ⟨x0, x1, x2, x3, _⟩ := id vX5
            have HLU := Lib.hid hlu
            have h50 := len_50 n
            have hz0 := wordsOf_nil n
            rw [hlu] at h50
            clear hu hlu vR5 vX5 hb5 hbw5
            by_cases hl0 : lu = 0
            · subst hl0
              have hn0 : n = 0 := hz0.1 (List.eq_nil_of_length_eq_zero HLU.out)
              have HR := Lib.hid (show RD = .inr (false, 0) by
                rw [← HRD.out, HSM.out, HNV.out, hn0, if_pos (by decide)]
                simp)
              have v7 := var_set0 v6 false
              have vR7 := var_keep vR6 (show w.heap.size ≠ w.heap.size + 1 by omega) (B' := w.heap.size + 1) (o := 0) (.bool false)
              have hb7 : Below w.heap.size w (W6.setCell ⟨w.heap.size + 1, 0, none⟩ (.bool false)) := hb6.setCell (p := ⟨w.heap.size + 1, 0, none⟩) (Nat.le_succ _) _
              obtain ⟨W7, hW7⟩ : ∃ W7, W6.setCell ⟨w.heap.size + 1, 0, none⟩ (.bool false) = W7 := ⟨_, rfl⟩
              rw [hW7] at v7 vR7 hb7
              obtain ⟨W8, hW8, v8, st8⟩ := vR7.set false pu 0 cu
              have hb8 := st8.below hb7 (Nat.le_refl _)
              obtain ⟨z0, z1, z2, z3, _⟩ := id v6
              obtain ⟨q0, q1, q2, q3, _⟩ := id v7
              obtain ⟨t0, t1, t2, t3, _⟩ := id vR7
              obtain ⟨r0, r1, _, _, _⟩ := id v8
              clear hD6 st8 v8 v7 vR7 v6 vR6 h50 hz0 hn0
              go_wp2_with fail
              exact bodyPost_ret (v := .tuple #[.agg #[.bool false, .slice pu 0 cu], .int .i64 0]) (by simp [results, Tryz.results70, go_sem, r0, r1]) rfl ⟨by rw [HR.out]; exact ⟨pu, cu, rfl, Digs.nil _ _ _⟩, hb8⟩
            · have hn0 : n ≠ 0 := fun h => hl0 (by rw [← HLU.out, h]; rfl)
              have hl0b : ((lu : Int) == 0) = false := beq_eq_false_iff_ne.2 (by omega)
              obtain ⟨z0, z1, z2, z3, _⟩ := id v6
              obtain ⟨t0, t1, t2, t3, _⟩ := id vR6
              by_cases hl50 : lu ≤ 50
              · have hl50z : ¬ (50 : Int) < (lu : Int) := by omega
                have HR := Lib.hid (show RD = .inr (neg, n) by
                  rw [← HRD.out, HSM.out, HNV.out, if_pos (h50.1 hl50)]
                  simp [hn0])
                obtain ⟨W8, hW8, v8, st8⟩ := vR6.set neg pu lu cu
                have hb8 := st8.below hb6 (Nat.le_refl _)
                have HD8 := Lib.hid (show Digs W8 (.slice pu lu cu) (wordsOf n) by
                  have := (hD6.setCell (.bool neg) vR6.c0 (fun k i h => by cases h)).setCell (.slice pu lu cu) ((World.cell?_setCell_other _ _ _ _ (by simp)).trans vR6.c1) (fun k i h => by cases h)
                  rw [hW8] at this
                  exact this)
                obtain ⟨r0, r1, _, _, _⟩ := id v8
                clear hD6 st8 v8 v6 vR6 h50 hz0 hn0
                go_wp2_with fail
                exact bodyPost_ret (v := .tuple #[.agg #[.bool neg, .slice pu lu cu], .int .i64 0]) (by simp [results, Tryz.results70, go_sem, r0, r1]) rfl ⟨by rw [HR.out]; exact ⟨pu, cu, by rw [HLU.out], by rw [HLU.out]; exact HD8.out⟩, hb8⟩
              · have hl50z : (50 : Int) < (lu : Int) := by omega
                have HR := Lib.hid (show RD = .inl 40 by
                  rw [← HRD.out, HSM.out, HNV.out, if_neg (fun h => hl50 (h50.2 h))])
                obtain ⟨W8, hW8, v8, st8⟩ := vR6.set false none 0 0
                have hb8 := st8.below hb6 (Nat.le_refl _)
                obtain ⟨r0, r1, _, _, _⟩ := id v8
                clear hD6 st8 v8 v6 vR6 h50 hz0 hn0
                go_wp2_with fail
                exact bodyPost_ret (v := .tuple #[.agg #[.bool false, .slice none 0 0], .int .i64 40]) (by simp [results, Tryz.results70, go_sem, r0, r1]) rfl ⟨by rw [HR.out]; rfl, hb8⟩
  · -- digits
    obtain ⟨V, hVV⟩ : ∃ V, W1 = V := ⟨_, rfl⟩
    have hV1 : Below w.heap.size w V := by rw [← hVV]; exact hb1
    have vX9 := vX
    obtain ⟨neg, hneg⟩ : ∃ b : Bool, b = false := ⟨_, rfl⟩
    have HNG := Lib.hid (show decide (([] : List UInt8) = [45]) = neg by rw [hneg]; decide)
    rw [hVV] at vR vX
    have HW1 := Lib.hid hW1
    have HVV := Lib.hid hVV
    have h0z : (0 : Int) < (s.size : Int) := by omega
    obtain ⟨d0, hd0⟩ : ∃ d, s[0].toNat = d := ⟨_, rfl⟩
    have hc1 : ((d0 : Int) == 43) = false := beq_eq_false_iff_ne.2 (fun e => hc (UInt8.toNat.inj (hd0.trans (by have h43 : (43 : UInt8).toNat = 43 := rfl; omega))))
    have hc3 : ((d0 : Int) == 45) = false := beq_eq_false_iff_ne.2 (fun e => hc2 (UInt8.toNat.inj (hd0.trans (by have h45 : (45 : UInt8).toNat = 45 := rfl; omega))))
    have HNEG := Lib.hid hneg
    clear hVV hb1 hW1 hneg
    go_enter Tryz.func70, Tryz.ntmps70
    go_wp2_with fail
    try rw [HW1.out]
    try rw [HVV.out]
    clear vX9 HW1 HVV
    rw [← HNEG.out] at vX
    clear hc1 hc3 hc hc2 h0z hd0
    -- the loop
    have HSG := Lib.hid hsg
    clear hsg
    have hbV : Below w.heap.size w V := hV1
    obtain ⟨RS, hRS⟩ : ∃ r, scanL (s.data.toList.drop 0) [] [] false = r := ⟨_, rfl⟩
    have HRS := Lib.hid hRS
    clear hRS hV1
    go_loopg [5, 6, 7, 8] (s.size - 0) (fun g s5 s6 s7 s8 wx => ∃ (k : Nat) (B A : List UInt8) (p : Bool), s5 = .int .i64 k ∧ k + g = s.size ∧ s7 = .int .i64 (A.length : Nat) ∧ s8 = .bool p ∧ Hid (Own V.heap.size wx s6 (dL (B ++ A))) ∧ Below V.heap.size V wx ∧ Hid (scanL (s.data.toList.drop k) B A p = RS ∧ (∀ b ∈ B ++ A, isDg b = true)) ∧ (B ++ A).length ≤ k ∧ Hid (p = false → A = []))
    case atStart => exact ⟨0, [], [], false, rfl, by omega, rfl, rfl, Lib.hid (Own.start _ _), Below.refl _ _, Lib.hid ⟨HRS.out, fun b hb => by cases hb⟩, by simp, Lib.hid (fun _ => rfl)⟩
    case round =>
      obtain ⟨k, B, A, p, rfl, hkg, rfl, rfl, HO, hbx, HK, hlen, HAN⟩ := hrel
      obtain ⟨pd, cd, h6⟩ := HO.out.shape
      rw [dL_len] at h6
      obtain ⟨ld, hld⟩ : ∃ l, (B ++ A).length = l := ⟨_, rfl⟩
      rw [hld] at h6 hlen
      have HLD := Lib.hid hld
      have hAl : A.length ≤ 200 := by rw [List.length_append] at hld; omega
      subst h6
      clear hld
      have vR := vR.below hbx
      have vX := vX.below hbx
      have hbw := hbV.trans (hbx.mono hbV.size)
      by_cases hlt : k < s.size
      · obtain ⟨g, rfl⟩ : ∃ g, gk = g + 1 := ⟨gk - 1, by omega⟩
        have hil : (k : Int) < (s.size : Int) := by omega
        have hcons : s.data.toList.drop k = s[k] :: s.data.toList.drop (k + 1) := List.drop_eq_getElem_cons (by rw [hSl]; exact hlt)
        have hk1 := HK.out
        rw [hcons] at hk1
        have hdig := HK.out.2
        obtain ⟨x, hx⟩ : ∃ x : UInt8, s[k] = x := ⟨_, rfl⟩
        rw [hx] at hk1
        rw [scanL] at hk1
        obtain ⟨d, hd⟩ : ∃ d, x.toNat = d := ⟨_, rfl⟩
        have hd256 : d < 256 := by rw [← hd]; exact UInt8.toNat_lt x
        have hdd : s[k].toNat = d := by rw [hx]; exact hd
        have h46 : x = 46 ↔ d = 46 := by rw [← hd]; exact ⟨fun e => by rw [e]; rfl, fun e => UInt8.toNat.inj e⟩
        have hdg : isDg x = decide (48 ≤ d ∧ d ≤ 57) := by unfold isDg; rw [hd]
        have cG := digit_any d hd256
        by_cases hpt : d = 46 ∧ p = false
        · obtain ⟨hd46, rfl⟩ := hpt
          rw [if_pos ⟨h46.2 hd46, rfl⟩] at hk1
          have HK2 := Lib.hid (And.intro hk1.1 hdig)
          subst hd46
          clear hk1 hdig hcons hdg h46 hd hx cG
          go_wp2_with fail
          go_roundg g
          case rel => exact ⟨k + 1, B, A, true, by congr 1, by omega, rfl, rfl, HO, hbx, HK2, by rw [HLD.out]; omega, Lib.hid (fun h => by cases h)⟩
          all_goals omega
        · rw [if_neg (fun h => hpt ⟨h46.1 h.1, h.2⟩), hdg] at hk1
          have hpt2 : d ≠ 46 ∨ p = true := by
            by_cases h : d = 46
            · exact .inr (by cases p with
                | true => rfl
                | false => exact absurd ⟨h, rfl⟩ hpt)
            · exact .inl h
          by_cases hD : 48 ≤ d ∧ d ≤ 57
          · rw [if_pos (by rw [decide_eq_true hD])] at hk1
            have hdi : isDg x = true := by rw [hdg, decide_eq_true hD]
            rw [decide_eq_true hD] at cG
            obtain ⟨v8, w8, hr8, ho8, hg8, _, hs8⟩ := append_digit V.heap.size _ _ (d - 48) (by rw [dL_len, HLD.out]; omega) wr HO.out hbx.size
            rw [show ((d - 48 : Nat) : Int) = (d : Int) - 48 by omega] at hr8
            have hb8 := hg8 _ hbx
            have hd1 : (48 : Int) ≤ (d : Int) := by omega
            have hd2 : (d : Int) ≤ 57 := by omega
            have hd46 : ¬ d = 46 := by omega
            have hd46b : ((d : Int) == 46) = false := beq_eq_false_iff_ne.2 (by omega)
            have H8 := Lib.hid hr8
            cases p with
            | true =>
              rw [if_pos rfl] at hk1
              have HK2 := Lib.hid (show scanL (s.data.toList.drop (k + 1)) B (A ++ [x]) true = RS ∧ ∀ b ∈ B ++ (A ++ [x]), isDg b = true from ⟨hk1.1, fun b hb => by
                rw [← List.append_assoc] at hb
                rcases List.mem_append.1 hb with hb | hb
                · exact hdig b hb
                · rw [List.mem_singleton.1 hb]; exact hdi⟩)
              have HO2 := Lib.hid (show Own V.heap.size w8 v8 (dL (B ++ (A ++ [x]))) by rw [← List.append_assoc, dL_snoc, hd]; exact ho8)
              have HL2 := Lib.hid (show (B ++ (A ++ [x])).length ≤ k + 1 by rw [← List.append_assoc, List.length_append, HLD.out]; simp; omega)
              have HA2 := Lib.hid (show (((A ++ [x]).length : Nat) : Int) = (A.length : Int) + 1 by simp)
              clear hk1 hdig hcons hdg h46 hd hx hr8 ho8 hg8 hs8 HO hdi hpt hpt2 hD
              go_wp2_with (first | (go_at_call 100; refine (cG _).mono ?_; rintro e w9 ⟨rfl, rfl⟩) | (at_builtin; refine Lib.wpList_append_run _ rfl (.tmp 49) (.tmp 55) 84 84 rfl _ _ rfl rfl _ _ H8.out ?_))
              go_roundg g
              case rel => exact ⟨k + 1, B, A ++ [x], true, by congr 1, by omega, by rw [HA2.out], rfl, HO2, hb8, HK2, HL2.out, Lib.hid (fun h => by cases h)⟩
              all_goals omega
            | false =>
              rw [if_neg (by decide)] at hk1
              have HK2 := Lib.hid (show scanL (s.data.toList.drop (k + 1)) (B ++ [x]) A false = RS ∧ ∀ b ∈ (B ++ [x]) ++ A, isDg b = true from ⟨hk1.1, fun b hb => by
                rcases List.mem_append.1 hb with hb | hb
                · rcases List.mem_append.1 hb with hb | hb
                  · exact hdig b (List.mem_append.2 (.inl hb))
                  · rw [List.mem_singleton.1 hb]; exact hdi
                · exact hdig b (List.mem_append.2 (.inr hb))⟩)
              have hAn : A = [] := HAN.out rfl
              have HO2 := Lib.hid (show Own V.heap.size w8 v8 (dL ((B ++ [x]) ++ A)) by rw [hAn, List.append_nil, dL_snoc, hd]; rw [hAn, List.append_nil] at ho8; exact ho8)
              have HL2 := Lib.hid (show ((B ++ [x]) ++ A).length ≤ k + 1 by have := HLD.out; simp only [List.length_append, List.length_cons, List.length_nil] at this ⊢; omega)
              clear hk1 hdig hcons hdg h46 hd hx hr8 ho8 hg8 hs8 HO hdi hpt hpt2 hD
              have HAn := Lib.hid hAn
              clear hAn
              go_wp2_with (first | (go_at_call 100; refine (cG _).mono ?_; rintro e w9 ⟨rfl, rfl⟩) | (at_builtin; refine Lib.wpList_append_run _ rfl (.tmp 49) (.tmp 55) 84 84 rfl _ _ rfl rfl _ _ H8.out ?_))
              go_roundg g
              case rel => exact ⟨k + 1, B ++ [x], A, false, by congr 1, by omega, rfl, rfl, HO2, hb8, HK2, HL2.out, Lib.hid (fun _ => HAn.out)⟩
              all_goals omega
          · rw [if_neg (by rw [decide_eq_false hD]; decide)] at hk1
            rw [decide_eq_false hD] at cG
            have HF := Lib.hid (show RD = .inl 5 by
              rw [← HRD.out]
              refine readN_err _ (by omega) (scan_none _ ?_)
              rw [HSG.out, HRS.out, ← hk1.1])
            obtain ⟨W5, hW5, v5, st5⟩ := vR.set false none 0 0
            have hb5 := st5.below hbw (Nat.le_refl _)
            obtain ⟨r0, r1, _, _, _⟩ := id v5
            obtain ⟨y0, y1, y2, y3, _⟩ := id vR
            have HW5 := Lib.hid hW5
            clear hk1 hdig hcons hdg h46 hd hx HO hpt hD hW5 v5 st5
            rcases hpt2 with h | rfl
            · have h46b : ((d : Int) == 46) = false := beq_eq_false_iff_ne.2 (by omega)
              cases p <;> (
                go_wp2_with (go_at_call 100; refine (cG _).mono ?_; rintro e w9 ⟨rfl, rfl⟩)
                try rw [HW5.out]
                exact bodyPost_ret (v := .tuple #[.agg #[.bool false, .slice none 0 0], .int .i64 5]) (by simp [results, Tryz.results70, go_sem, r0, r1]) rfl ⟨by rw [HF.out]; rfl, hb5⟩)
            · by_cases h : d = 46
              · have h46b : ((d : Int) == 46) = true := by rw [h]; rfl
                clear h
                go_wp2_with (go_at_call 100; refine (cG _).mono ?_; rintro e w9 ⟨rfl, rfl⟩)
                try rw [HW5.out]
                exact bodyPost_ret (v := .tuple #[.agg #[.bool false, .slice none 0 0], .int .i64 5]) (by simp [results, Tryz.results70, go_sem, r0, r1]) rfl ⟨by rw [HF.out]; rfl, hb5⟩
              · have h46b : ((d : Int) == 46) = false := beq_eq_false_iff_ne.2 (by omega)
                go_wp2_with (go_at_call 100; refine (cG _).mono ?_; rintro e w9 ⟨rfl, rfl⟩)
                try rw [HW5.out]
                exact bodyPost_ret (v := .tuple #[.agg #[.bool false, .slice none 0 0], .int .i64 5]) (by simp [results, Tryz.results70, go_sem, r0, r1]) rfl ⟨by rw [HF.out]; rfl, hb5⟩
      · obtain rfl : k = s.size := by omega
        obtain rfl : gk = 0 := by omega
        have hil : ¬ (s.size : Int) < (s.size : Int) := by omega
        have hk1 := HK.out
        rw [List.drop_eq_nil_of_le (by rw [hSl]; exact Nat.le_refl _), scanL] at hk1
        have HSC := Lib.hid (show scanL (s.data.toList.drop 0) [] [] false = some (B, A, p) from HRS.out.trans hk1.1.symm)
        have hsml := dL_small (B ++ A) hk1.2
        have hval := dL_val (B ++ A)
        have hdl := dL_len (B ++ A)
        rw [HLD.out] at hdl
        obtain ⟨LL, hLL⟩ : ∃ l, dL (B ++ A) = l := ⟨_, rfl⟩
        rw [hLL] at hsml hval hdl HO
        clear hk1 HK hLL
        by_cases hld0 : ld = 0
        · subst hld0
          have hnil : B ++ A = [] := List.eq_nil_of_length_eq_zero HLD.out
          have HF := Lib.hid (show RD = .inl 5 by
            rw [← HRD.out]
            refine readN_err _ (by omega) (scan_empty _ B A p ?_ hnil)
            rw [HSG.out]
            exact HSC.out)
          obtain ⟨W5, hW5, v5, st5⟩ := vR.set false none 0 0
          have hb5 := st5.below hbw (Nat.le_refl _)
          obtain ⟨r0, r1, _, _, _⟩ := id v5
          obtain ⟨y0, y1, y2, y3, _⟩ := id vR
          have HW5 := Lib.hid hW5
          clear hW5 v5 st5 hsml hval hdl HO hnil
          go_wp2_with fail
          try rw [HW5.out]
          exact bodyPost_ret (v := .tuple #[.agg #[.bool false, .slice none 0 0], .int .i64 5]) (by simp [results, Tryz.results70, go_sem, r0, r1]) rfl ⟨by rw [HF.out]; rfl, hb5⟩
        · have hld0b : ((ld : Int) == 0) = false := beq_eq_false_iff_ne.2 (by omega)
          have HSM := Lib.hid (readN_some s.data.toList [] (s.data.toList.drop 0) B A p neg (by omega) HSG.out HNG.out HSC.out (fun e => hld0 (by rw [← HLD.out, e]; rfl)))
          by_cases hA20 : A.length ≤ 20
          · have hA20z : (A.length : Int) ≤ 20 := by omega
            obtain ⟨m, hm⟩ : ∃ m, 20 - A.length = m := ⟨_, rfl⟩
            have hmz : (20 : Int) - (A.length : Int) = (m : Int) := by omega
            obtain ⟨n, hn⟩ : ∃ n, readV B A neg = n := ⟨_, rfl⟩
            have HNV := Lib.hid hn
            have HV2 := Lib.hid (show trimW (List.replicate m 0 ++ LL) = wordsOf n by
              rw [trimW_words _ ((Small.zeros m).app hsml), val_app, val_zeros, hval, List.length_replicate, ← hn, readV, if_neg (by omega), hm, Nat.zero_add, Nat.mul_comm])
            have cZ := zeros_any _ LL m (by omega) (by omega) wr HO.out.digs
            have cT := fun W v (h : Digs W v (List.replicate m 0 ++ LL)) => trim_any v (List.replicate m 0 ++ LL) (by rw [List.length_append, List.length_replicate]; omega) W h
            rw [HV2.out] at cT
            clear hn hm hsml hval
            go_wp2_with fail
            refine cZ.mono ?_
            rintro e w5 ⟨x, rfl, hx, hb5⟩
            have cT2 := cT w5 x hx
            obtain ⟨px, cx, hxe⟩ := hx.shape
            rw [show (List.replicate m (0 : Nat) ++ LL).length = m + ld by rw [List.length_append, List.length_replicate, hdl]] at hxe
            subst hxe
            clear cT cZ hx hdl HO
            go_wp2_with fail
            refine cT2.mono ?_
            rintro e w6 ⟨u, rfl, hu, rfl⟩
            have vR5 := vR.below hb5
            have vX5 := vX.below hb5
            have hbw5 := hbw.trans (hb5.mono hbw.size)
            obtain ⟨pu, cu, hue⟩ := hu.shape
            subst hue
            obtain ⟨lu, hlu⟩ : ∃ l, (wordsOf n).length = l := ⟨_, rfl⟩
            rw [hlu] at hu ⊢
            have v6 := var_set1 vX5 pu lu cu
            have vR6 := var_keep vR5 (show w.heap.size ≠ w.heap.size + 1 by omega) (B' := w.heap.size + 1) (o := 1) (.slice pu lu cu)
            have hD6 := hu.setCell (.slice pu lu cu) vX5.c1 (fun k i h => by cases h)
            have hb6 : Below w.heap.size w (w5.setCell ⟨w.heap.size + 1, 1, none⟩ (.slice pu lu cu)) := hbw5.setCell (p := ⟨w.heap.size + 1, 1, none⟩) (Nat.le_succ _) _
            obtain ⟨W6, hW6⟩ : ∃ W6, w5.setCell ⟨w.heap.size + 1, 1, none⟩ (.slice pu lu cu) = W6 := ⟨_, rfl⟩
            rw [hW6] at v6 vR6 hD6 hb6
            obtain ⟨x0, x1, x2, x3, _⟩ := id vX5
            have HLU := Lib.hid hlu
            have h50 := len_50 n
            have hz0 := wordsOf_nil n
            rw [hlu] at h50
            clear hu hlu vR5 vX5 hb5 hbw5
            by_cases hl0 : lu = 0
            · subst hl0
              have hn0 : n = 0 := hz0.1 (List.eq_nil_of_length_eq_zero HLU.out)
              have HR := Lib.hid (show RD = .inr (false, 0) by
                rw [← HRD.out, HSM.out, HNV.out, hn0, if_pos (by decide)]
                simp)
              have v7 := var_set0 v6 false
              have vR7 := var_keep vR6 (show w.heap.size ≠ w.heap.size + 1 by omega) (B' := w.heap.size + 1) (o := 0) (.bool false)
              have hb7 : Below w.heap.size w (W6.setCell ⟨w.heap.size + 1, 0, none⟩ (.bool false)) := hb6.setCell (p := ⟨w.heap.size + 1, 0, none⟩) (Nat.le_succ _) _
              obtain ⟨W7, hW7⟩ : ∃ W7, W6.setCell ⟨w.heap.size + 1, 0, none⟩ (.bool false) = W7 := ⟨_, rfl⟩
              rw [hW7] at v7 vR7 hb7
              obtain ⟨W8, hW8, v8, st8⟩ := vR7.set false pu 0 cu
              have hb8 := st8.below hb7 (Nat.le_refl _)
              obtain ⟨z0, z1, z2, z3, _⟩ := id v6
              obtain ⟨q0, q1, q2, q3, _⟩ := id v7
              obtain ⟨t0, t1, t2, t3, _⟩ := id vR7
              obtain ⟨r0, r1, _, _, _⟩ := id v8
              clear hD6 st8 v8 v7 vR7 v6 vR6 h50 hz0 hn0
              go_wp2_with fail
              exact bodyPost_ret (v := .tuple #[.agg #[.bool false, .slice pu 0 cu], .int .i64 0]) (by simp [results, Tryz.results70, go_sem, r0, r1]) rfl ⟨by rw [HR.out]; exact ⟨pu, cu, rfl, Digs.nil _ _ _⟩, hb8⟩
            · have hn0 : n ≠ 0 := fun h => hl0 (by rw [← HLU.out, h]; rfl)
              have hl0b : ((lu : Int) == 0) = false := beq_eq_false_iff_ne.2 (by omega)
              obtain ⟨z0, z1, z2, z3, _⟩ := id v6
              obtain ⟨t0, t1, t2, t3, _⟩ := id vR6
              by_cases hl50 : lu ≤ 50
              · have hl50z : ¬ (50 : Int) < (lu : Int) := by omega
                have HR := Lib.hid (show RD = .inr (neg, n) by
                  rw [← HRD.out, HSM.out, HNV.out, if_pos (h50.1 hl50)]
                  simp [hn0])
                obtain ⟨W8, hW8, v8, st8⟩ := vR6.set neg pu lu cu
                have hb8 := st8.below hb6 (Nat.le_refl _)
                have HD8 := Lib.hid (show Digs W8 (.slice pu lu cu) (wordsOf n) by
                  have := (hD6.setCell (.bool neg) vR6.c0 (fun k i h => by cases h)).setCell (.slice pu lu cu) ((World.cell?_setCell_other _ _ _ _ (by simp)).trans vR6.c1) (fun k i h => by cases h)
                  rw [hW8] at this
                  exact this)
                obtain ⟨r0, r1, _, _, _⟩ := id v8
                clear hD6 st8 v8 v6 vR6 h50 hz0 hn0
                go_wp2_with fail
                exact bodyPost_ret (v := .tuple #[.agg #[.bool neg, .slice pu lu cu], .int .i64 0]) (by simp [results, Tryz.results70, go_sem, r0, r1]) rfl ⟨by rw [HR.out]; exact ⟨pu, cu, by rw [HLU.out], by rw [HLU.out]; exact HD8.out⟩, hb8⟩
              · have hl50z : (50 : Int) < (lu : Int) := by omega
                have HR := Lib.hid (show RD = .inl 40 by
                  rw [← HRD.out, HSM.out, HNV.out, if_neg (fun h => hl50 (h50.2 h))])
                obtain ⟨W8, hW8, v8, st8⟩ := vR6.set false none 0 0
                have hb8 := st8.below hb6 (Nat.le_refl _)
                obtain ⟨r0, r1, _, _, _⟩ := id v8
                clear hD6 st8 v8 v6 vR6 h50 hz0 hn0
                go_wp2_with fail
                exact bodyPost_ret (v := .tuple #[.agg #[.bool false, .slice none 0 0], .int .i64 40]) (by simp [results, Tryz.results70, go_sem, r0, r1]) rfl ⟨by rw [HR.out]; rfl, hb8⟩
          · have hA20z : ¬ (A.length : Int) ≤ 20 := by omega
            obtain ⟨m, hm⟩ : ∃ m, A.length - 20 = m := ⟨_, rfl⟩
            have hmz : (A.length : Int) - 20 = (m : Int) := by omega
            obtain ⟨n, hn⟩ : ∃ n, readV B A neg = n := ⟨_, rfl⟩
            have HNV := Lib.hid hn
            have cZ := cut_any neg ⟨#[101, 118, 101, 110]⟩ evenW rfl _ LL hsml m (by omega) (by omega) (by omega) wr HO.out.digs
            rw [show divW evenW neg (val LL) (10 ^ m) = n by rw [hval, ← hn, readV, if_pos (by omega), hm]] at cZ
            obtain ⟨xx0, xx1, xx2, xx3, _⟩ := id vX
            clear hn hm hsml hval
            go_wp2_with fail
            refine cZ.mono ?_
            rintro e w5 ⟨u, rfl, hu, hb5⟩
            clear cZ hdl HO xx0 xx1 xx2 xx3
            have vR5 := vR.below hb5
            have vX5 := vX.below hb5
            have hbw5 := hbw.trans (hb5.mono hbw.size)
            obtain ⟨pu, cu, hue⟩ := hu.shape
            subst hue
            obtain ⟨lu, hlu⟩ : ∃ l, (wordsOf n).length = l := ⟨_, rfl⟩
            rw [hlu] at hu ⊢
            have v6 := var_set1 vX5 pu lu cu
            have vR6 := var_keep vR5 (show w.heap.size ≠ w.heap.size + 1 by omega) (B' := w.heap.size + 1) (o := 1) (.slice pu lu cu)
            have hD6 := hu.setCell (.slice pu lu cu) vX5.c1 (fun k i h => by cases h)
            have hb6 : Below w.heap.size w (w5.setCell ⟨w.heap.size + 1, 1, none⟩ (.slice pu lu cu)) := hbw5.setCell (p := ⟨w.heap.size + 1, 1, none⟩) (Nat.le_succ _) _
            obtain ⟨W6, hW6⟩ : ∃ W6, w5.setCell ⟨w.heap.size + 1, 1, none⟩ (.slice pu lu cu) = W6 := ⟨_, rfl⟩
            rw [hW6] at v6 vR6 hD6 hb6
            obtain ⟨x0, x1, x2, x3, _⟩ := id vX5
            have HLU := Lib.hid hlu
            have h50 := len_50 n
            have hz0 := wordsOf_nil n
            rw [hlu] at h50
            clear hu hlu vR5 vX5 hb5 hbw5
            by_cases hl0 : lu = 0
            · subst hl0
              have hn0 : n = 0 := hz0.1 (List.eq_nil_of_length_eq_zero HLU.out)
              have HR := Lib.hid (show RD = .inr (false, 0) by
                rw [← HRD.out, HSM.out, HNV.out, hn0, if_pos (by decide)]
                simp)
              have v7 := var_set0 v6 false
              have vR7 := var_keep vR6 (show w.heap.size ≠ w.heap.size + 1 by omega) (B' := w.heap.size + 1) (o := 0) (.bool false)
              have hb7 : Below w.heap.size w (W6.setCell ⟨w.heap.size + 1, 0, none⟩ (.bool false)) := hb6.setCell (p := ⟨w.heap.size + 1, 0, none⟩) (Nat.le_succ _) _
              obtain ⟨W7, hW7⟩ : ∃ W7, W6.setCell ⟨w.heap.size + 1, 0, none⟩ (.bool false) = W7 := ⟨_, rfl⟩
              rw [hW7] at v7 vR7 hb7
              obtain ⟨W8, hW8, v8, st8⟩ := vR7.set false pu 0 cu
              have hb8 := st8.below hb7 (Nat.le_refl _)
              obtain ⟨z0, z1, z2, z3, _⟩ := id v6
              obtain ⟨q0, q1, q2, q3, _⟩ := id v7
              obtain ⟨t0, t1, t2, t3, _⟩ := id vR7
              obtain ⟨r0, r1, _, _, _⟩ := id v8
              clear hD6 st8 v8 v7 vR7 v6 vR6 h50 hz0 hn0
              go_wp2_with fail
              exact bodyPost_ret (v := .tuple #[.agg #[.bool false, .slice pu 0 cu], .int .i64 0]) (by simp [results, Tryz.results70, go_sem, r0, r1]) rfl ⟨by rw [HR.out]; exact ⟨pu, cu, rfl, Digs.nil _ _ _⟩, hb8⟩
            · have hn0 : n ≠ 0 := fun h => hl0 (by rw [← HLU.out, h]; rfl)
              have hl0b : ((lu : Int) == 0) = false := beq_eq_false_iff_ne.2 (by omega)
              obtain ⟨z0, z1, z2, z3, _⟩ := id v6
              obtain ⟨t0, t1, t2, t3, _⟩ := id vR6
              by_cases hl50 : lu ≤ 50
              · have hl50z : ¬ (50 : Int) < (lu : Int) := by omega
                have HR := Lib.hid (show RD = .inr (neg, n) by
                  rw [← HRD.out, HSM.out, HNV.out, if_pos (h50.1 hl50)]
                  simp [hn0])
                obtain ⟨W8, hW8, v8, st8⟩ := vR6.set neg pu lu cu
                have hb8 := st8.below hb6 (Nat.le_refl _)
                have HD8 := Lib.hid (show Digs W8 (.slice pu lu cu) (wordsOf n) by
                  have := (hD6.setCell (.bool neg) vR6.c0 (fun k i h => by cases h)).setCell (.slice pu lu cu) ((World.cell?_setCell_other _ _ _ _ (by simp)).trans vR6.c1) (fun k i h => by cases h)
                  rw [hW8] at this
                  exact this)
                obtain ⟨r0, r1, _, _, _⟩ := id v8
                clear hD6 st8 v8 v6 vR6 h50 hz0 hn0
                go_wp2_with fail
                exact bodyPost_ret (v := .tuple #[.agg #[.bool neg, .slice pu lu cu], .int .i64 0]) (by simp [results, Tryz.results70, go_sem, r0, r1]) rfl ⟨by rw [HR.out]; exact ⟨pu, cu, by rw [HLU.out], by rw [HLU.out]; exact HD8.out⟩, hb8⟩
              · have hl50z : (50 : Int) < (lu : Int) := by omega
                have HR := Lib.hid (show RD = .inl 40 by
                  rw [← HRD.out, HSM.out, HNV.out, if_neg (fun h => hl50 (h50.2 h))])
                obtain ⟨W8, hW8, v8, st8⟩ := vR6.set false none 0 0
                have hb8 := st8.below hb6 (Nat.le_refl _)
                obtain ⟨r0, r1, _, _, _⟩ := id v8
                clear hD6 st8 v8 v6 vR6 h50 hz0 hn0
                go_wp2_with fail
                exact bodyPost_ret (v := .tuple #[.agg #[.bool false, .slice none 0 0], .int .i64 40]) (by simp [results, Tryz.results70, go_sem, r0, r1]) rfl ⟨by rw [HR.out]; rfl, hb8⟩
end Go.Proofs.YtdfgifnccghlmabGreatDoor.R
