/- The contract of chisellaw03.CollLong. -/
import Derived.Test.YtgjjmapfdijphaaDoorCoTwo
import Derived.Test.YtgjjmapfdijphaaDoorCoLongP
import Derived.Test.YtgjjmapfdijphaaDoorShelfLg
namespace Go.Proofs.YtgjjmapfdijphaaDoor
open Go.RowKit Go.Lib Go.Shelf

theorem ba_data (l : List UInt8) : (⟨l.toArray⟩ : ByteArray).data.toList = l := rfl
theorem repeat_x : ∀ k, Lib.repeatL [120] k = List.replicate k 120
  | 0 => rfl
  | k + 1 => by rw [Lib.repeatL, repeat_x k]; rfl
set_option maxHeartbeats 8000000 in
set_option maxRecDepth 100000 in
theorem long_law (a b c : Nat) (w : World) (hg : GrC w) (ha : a ≤ 65535) (hb : b ≤ 65535) (hc : c ≤ 255) :
    Calls Tryd.prog 7 #[.int .u16 (a : Int), .int .u16 (b : Int), .int .u8 (c : Int)] w fun e w' => e = .returned (.bool true) ∧ Below w.heap.size w w' := by
  have G : ∀ W, Below w.heap.size w W → GrC W := fun W hW => hg.later hW
  obtain ⟨n, hn⟩ : ∃ n, a % 4100 = n := ⟨_, rfl⟩
  obtain ⟨m, hm⟩ : ∃ m, b % 4100 = m := ⟨_, rfl⟩
  obtain ⟨q, hq⟩ : ∃ q, c % 2 = q := ⟨_, rfl⟩
  have hnz : (a : Int) % 4100 = (n : Int) := by omega
  have hmz : (b : Int) % 4100 = (m : Int) := by omega
  have hqz : (c : Int) % 2 = (q : Int) := by omega
  have hn2 : n < 4100 := by omega
  have hm2 : m < 4100 := by omega
  have hq2 : q < 2 := by omega
  clear hn hm hq
  obtain ⟨B, hB⟩ : ∃ B, w.heap.size = B := ⟨_, rfl⟩
  have cS : ∀ (l : List UInt8) (s : ByteArray) W, IsBuilderF 49 5 B B (Lib.byteCells l) W → l.length ≤ 1000000 → s.size ≤ 100 → Below B w W → Calls Tryd.prog 22 #[.pointer (some ⟨B, 0, none⟩), .string s] W fun e w' => (∃ v, e = .returned (.tuple #[v, .nilIface])) ∧ IsBuilderF 49 5 B B (Lib.byteCells (l ++ s.data.toList)) w' ∧ Below B w w' := fun l s W hI hl hs hW => by
    refine (Tryd.Builder_WriteString_k B B _ s W hI (by rw [Lib.byteCells_length]; omega) (by have := hW.size; omega)).mono ?_
    rintro e w' ⟨rfl, h1, h2, _⟩
    refine ⟨⟨_, rfl⟩, ?_, hW.trans h2⟩
    rw [Lib.byteCells_append]
    exact Or.inr h1
  have cR : ∀ (l : List UInt8) (r : Nat) W, IsBuilderF 49 5 B B (Lib.byteCells l) W → l.length ≤ 1000000 → r ≤ 40000 → Below B w W → Calls Tryd.prog 23 #[.pointer (some ⟨B, 0, none⟩), .int .i32 (r : Int)] W fun e w' => (∃ v, e = .returned (.tuple #[v, .nilIface])) ∧ IsBuilderF 49 5 B B (Lib.byteCells (l ++ encodeRune (r : Int))) w' ∧ Below B w w' := fun l r W hI hl hr hW => by
    refine (Tryd.Builder_WriteRune_k B B _ (r : Int) (by omega) (by omega) W hI (by rw [Lib.byteCells_length]; omega) (by have := hW.size; omega)).mono ?_
    rintro e w' ⟨rfl, h1, h2, _⟩
    refine ⟨⟨_, rfl⟩, ?_, hW.trans h2⟩
    rw [Lib.byteCells_append, Lib.byteCells_encodeRune]
    exact Or.inr h1
  have cG : ∀ (l : List UInt8) W, IsBuilderF 49 5 B B (Lib.byteCells l) W → Below B w W → Calls Tryd.prog 24 #[.pointer (some ⟨B, 0, none⟩)] W fun e w' => e = .returned (.string ⟨l.toArray⟩) ∧ Below B w w' := fun l W hI hW => by
    refine (Tryd.Builder_String_any_k B B l W hI (by have := hW.size; omega)).mono ?_
    rintro e w' ⟨rfl, _, h2, _⟩
    exact ⟨rfl, hW.trans h2⟩
  have hI0 : IsBuilderF 49 5 B B (Lib.byteCells []) (w.alloc (.cells #[.pointer none, .slice none 0 0] 49)) := by
    rw [← hB]
    exact IsBuilderF.of (fresh_isBuilder 49 5 w)
  have hb0 : Below B w (w.alloc (.cells #[.pointer none, .slice none 0 0] 49)) := by rw [← hB]; exact (Below.refl _ w).alloc (Nat.le_refl _) _
  have hL1 := fun i (hi : i ≤ 5000) => (text_list i hi).2
  have hL2 := fun i (hi : i ≤ 5000) => (text_ign i hi).2
  have HP := Lib.hid (parse_long n m (by omega) (by omega))
  go_enter Tryd.func7, Tryd.ntmps7
  go_wp2_with fail
  refine (cS [] ⟨#[35, 32, 99, 104, 97, 114, 97, 99, 116, 101, 114, 115, 10]⟩ _ hI0 (by simp) (by decide) hb0).mono ?_
  rintro e w1 ⟨⟨_, rfl⟩, hI1, hb1⟩
  rw [show ([] ++ (⟨#[35, 32, 99, 104, 97, 114, 97, 99, 116, 101, 114, 115, 10]⟩ : ByteArray).data.toList) = headB ++ [10] ++ listB 0 from rfl] at hI1
  clear hI0 hb0
  go_wp2_with fail
  go_loopg [24] n (fun g s24 wx => ∃ i : Nat, s24 = .int .i64 i ∧ i + g = n ∧ IsBuilderF 49 5 B B (Lib.byteCells (headB ++ [10] ++ listB i)) wx ∧ Below B w wx)
  case atStart => exact ⟨0, rfl, by omega, hI1, hb1⟩
  case round =>
    clear hI1 hb1
    obtain ⟨i, rfl, hig, hI, hbx⟩ := hrel
    by_cases hlt : i < n
    · obtain ⟨g, rfl⟩ : ∃ g, gk = g + 1 := ⟨gk - 1, by omega⟩
      have hil : (i : Int) < (n : Int) := by omega
      have hl := hL1 i (by omega)
      have hhl : (headB ++ [10] ++ listB i).length ≤ 900000 := by
        rw [List.length_append, List.length_append]
        have : headB.length = 12 := rfl
        simp only [List.length_cons, List.length_nil]
        omega
      clear HP hL1 hL2 hnz hmz hqz cG
      by_cases h0 : i = 0
      · subst h0
        have hr := cR (headB ++ [10] ++ listB 0) 19968 wr hI (by omega) (by omega) hbx
        rw [show headB ++ [10] ++ listB 0 ++ encodeRune ((19968 : Nat) : Int) = headB ++ [10] ++ listB 1 from rfl] at hr
        have hp0 : ¬ (0 : Int) < 0 := by omega
        go_wp2_with fail
        refine hr.mono ?_
        rintro e w2 ⟨⟨_, rfl⟩, hI2, hb2⟩
        clear cR cS hr
        go_wp2_with fail
        go_roundg g
        case rel => exact ⟨1, rfl, by omega, hI2, hb2⟩
        all_goals omega
      · have hp0 : (0 : Int) < (i : Int) := by omega
        have hs := cS (headB ++ [10] ++ listB i) ⟨#[32, 60, 32]⟩ wr hI (by omega) (by decide) hbx
        have hlast : headB ++ [10] ++ listB i ++ [32, 60, 32] ++ encodeRune ((19968 + i : Nat) : Int) = headB ++ [10] ++ listB (i + 1) := by
          rw [listB, if_neg h0]
          simp only [List.append_assoc]
          rfl
        have Hlast := Lib.hid hlast
        have hr := fun W hW hb => cR (headB ++ [10] ++ listB i ++ [32, 60, 32]) (19968 + i) W hW (by rw [List.length_append]; simp only [List.length_cons, List.length_nil]; omega) (by omega) hb
        rw [show (((19968 + i : Nat) : Int)) = 19968 + (i : Int) by omega] at hr
        clear cR cS hlast
        go_wp2_with fail
        refine hs.mono ?_
        rintro e w2 ⟨⟨_, rfl⟩, hI2, hb2⟩
        clear hs
        go_wp2_with fail
        refine (hr w2 hI2 hb2).mono ?_
        rintro e w3 ⟨⟨_, rfl⟩, hI3, hb3⟩
        rw [show (19968 + (i : Int)) = ((19968 + i : Nat) : Int) by omega, Hlast.out] at hI3
        clear hr
        go_wp2_with fail
        go_roundg g
        case rel => exact ⟨i + 1, by congr 1, by omega, hI3, hb3⟩
        all_goals omega
    · obtain rfl : i = n := by omega
      have hil : ¬ (i : Int) < (i : Int) := by omega
      have hl := hL1 i (by omega)
      have hs := cS (headB ++ [10] ++ listB i) ⟨#[10]⟩ wr hI (by
        rw [List.length_append, List.length_append]
        have : headB.length = 12 := rfl
        simp only [List.length_cons, List.length_nil]
        omega) (by decide) hbx
      rw [show headB ++ [10] ++ listB i ++ (⟨#[10]⟩ : ByteArray).data.toList = longB i 0 by unfold longB; simp only [List.append_assoc]; rfl] at hs
      go_wp2_with fail
      refine hs.mono ?_
      rintro e w2 ⟨⟨_, rfl⟩, hI2, hb2⟩
      clear hs hI hbx
      go_wp2_with fail
      have hLL := fun j (hj : j ≤ 5000) => long_len i j (by omega) hj
      go_loopg [37] m (fun g s37 wx => ∃ j : Nat, s37 = .int .i64 j ∧ j + g = m ∧ IsBuilderF 49 5 B B (Lib.byteCells (longB i j)) wx ∧ Below B w wx)
      case atStart => exact ⟨0, rfl, by omega, hI2, hb2⟩
      case round =>
        clear hI2 hb2
        obtain ⟨j, rfl, hjg, hI, hbx⟩ := hrel
        by_cases hjt : j < m
        · obtain ⟨g', rfl⟩ : ∃ g', gk = g' + 1 := ⟨gk - 1, by omega⟩
          have hjl : (j : Int) < (m : Int) := by omega
          have hl := hLL j (by omega)
          clear HP hL1 hL2 hLL hnz hmz hqz cG
          by_cases h0 : j = 0
          · subst h0
            have hs1 := cS (longB i 0) ⟨#[105, 103, 110, 111, 114, 101]⟩ wr hI (by omega) (by decide) hbx
            have hs2 := fun W hW hb => cS (longB i 0 ++ ignoreW) ⟨#[32]⟩ W hW (by rw [List.length_append]; have : ignoreW.length = 6 := rfl; omega) (by decide) hb
            have hr := fun W hW hb => cR (longB i 0 ++ ignoreW ++ [32]) 28160 W hW (by rw [List.length_append, List.length_append]; have : ignoreW.length = 6 := rfl; simp only [List.length_cons, List.length_nil]; omega) (by omega) hb
            have Hlast := Lib.hid (show longB i 0 ++ ignoreW ++ [32] ++ encodeRune ((28160 : Nat) : Int) = longB i 1 by unfold longB ignB; simp only [List.append_assoc]; rfl)
            clear cR cS
            go_wp2_with fail
            refine hs1.mono ?_
            rintro e w3 ⟨⟨_, rfl⟩, hI3, hb3⟩
            clear hs1
            go_wp2_with fail
            refine (hs2 w3 hI3 hb3).mono ?_
            rintro e w4 ⟨⟨_, rfl⟩, hI4, hb4⟩
            clear hs2
            go_wp2_with fail
            refine (hr w4 hI4 hb4).mono ?_
            rintro e w5 ⟨⟨_, rfl⟩, hI5, hb5⟩
            rw [Hlast.out] at hI5
            clear hr
            go_wp2_with fail
            go_roundg g'
            case rel => exact ⟨1, rfl, by omega, hI5, hb5⟩
            all_goals omega
          · have hj0 : ¬ (j : Int) = 0 := by omega
            have hs2 := cS (longB i j) ⟨#[32]⟩ wr hI (by omega) (by decide) hbx
            have hr := fun W hW hb => cR (longB i j ++ [32]) (28160 + j) W hW (by rw [List.length_append]; simp only [List.length_cons, List.length_nil]; omega) (by omega) hb
            have Hlast := Lib.hid (show longB i j ++ [32] ++ encodeRune ((28160 + j : Nat) : Int) = longB i (j + 1) by
              unfold longB
              rw [ignB, if_neg h0]
              simp only [List.append_assoc, List.cons_append]
              rfl)
            rw [show (((28160 + j : Nat) : Int)) = 28160 + (j : Int) by omega] at hr
            clear cR cS
            go_wp2_with fail
            refine hs2.mono ?_
            rintro e w4 ⟨⟨_, rfl⟩, hI4, hb4⟩
            clear hs2
            go_wp2_with fail
            refine (hr w4 hI4 hb4).mono ?_
            rintro e w5 ⟨⟨_, rfl⟩, hI5, hb5⟩
            rw [show (28160 + (j : Int)) = ((28160 + j : Nat) : Int) by omega, Hlast.out] at hI5
            clear hr
            go_wp2_with fail
            go_roundg g'
            case rel => exact ⟨j + 1, by congr 1, by omega, hI5, hb5⟩
            all_goals omega
        · obtain rfl : j = m := by omega
          have hjl : ¬ (j : Int) < (j : Int) := by omega
          have cG1 := cG (longB i j) wr hI hbx
          obtain ⟨p1, p2, p3⟩ := HP.out
          clear cS cR cG HP hL1 hL2 hLL hI
          have cW : ∀ W, Below w.heap.size w W → Calls Tryd.prog 10 #[] W fun e w' => e = .returned (.bool true) ∧ Below w.heap.size w w' := fun W hW =>
            (works_any W (G W hW)).mono fun e w' ⟨h1, h2⟩ => ⟨h1, hW.trans (h2.mono hW.size)⟩
          by_cases q1 : 4096 < i
          · have q1' : (4096 : Int) < (i : Int) := by omega
            have cP := fun W hW => parse_bad ⟨(longB i j).toArray⟩ 2 2 W hW (p1 q1)
            clear p1 p2 p3
            go_wp2_with fail
            refine cG1.mono ?_
            rintro e w3 ⟨rfl, hb3⟩
            rw [← hB] at hb3
            go_wp2_with fail
            refine (cP w3 (G _ hb3)).mono ?_
            rintro e w4 ⟨rfl, hb4⟩
            have hbw4 := hb3.trans (hb4.mono hb3.size)
            go_wp2_with fail
            refine (cW w4 hbw4).mono ?_
            rintro e w5 ⟨rfl, hb5⟩
            go_wp2_with fail
            go_ret
            exact ⟨rfl, hb5⟩
          · have q1' : ¬ (4096 : Int) < (i : Int) := by omega
            by_cases q2 : 4096 < i + j
            · have q2' : (4096 : Int) < (i : Int) + (j : Int) := by omega
              have cP := fun W hW => parse_bad ⟨(longB i j).toArray⟩ 3 2 W hW (p2 (by omega) q2)
              clear p1 p2 p3
              go_wp2_with fail
              refine cG1.mono ?_
              rintro e w3 ⟨rfl, hb3⟩
              rw [← hB] at hb3
              go_wp2_with fail
              refine (cP w3 (G _ hb3)).mono ?_
              rintro e w4 ⟨rfl, hb4⟩
              have hbw4 := hb3.trans (hb4.mono hb3.size)
              go_wp2_with fail
              refine (cW w4 hbw4).mono ?_
              rintro e w5 ⟨rfl, hb5⟩
              go_wp2_with fail
              go_ret
              exact ⟨rfl, hb5⟩
            · have q2' : ¬ (4096 : Int) < (i : Int) + (j : Int) := by omega
              obtain ⟨T, hT⟩ := p3 (by omega)
              have cP := fun W hW => parse_ok ⟨(longB i j).toArray⟩ T W hW hT
              clear p1 p2 p3 hT
              go_wp2_with fail
              refine cG1.mono ?_
              rintro e w3 ⟨rfl, hb3⟩
              rw [← hB] at hb3
              go_wp2_with fail
              refine (cP w3 (G _ hb3)).mono ?_
              rintro e w4 ⟨p, rfl, _, _, hb4⟩
              have hbw4 := hb3.trans (hb4.mono hb3.size)
              clear cP cG1
              have cRp := Tryd.strings_Repeat ⟨#[120]⟩ (1048575 + q) w4 (by omega) (by show 1 * (1048575 + q) ≤ _; omega)
              rw [show (((1048575 + q : Nat) : Int)) = 1048575 + (q : Int) by omega] at cRp
              obtain ⟨R, hR⟩ : ∃ R : ByteArray, (⟨(Lib.repeatL (⟨#[120]⟩ : ByteArray).data.toList (1048575 + q)).toArray⟩ : ByteArray) = R := ⟨_, rfl⟩
              have hRl : R.data.toList = List.replicate (1048575 + q) 120 := by rw [← hR]; exact repeat_x _
              have hRs : R.size = 1048575 + q := by rw [size_eq, hRl, List.length_replicate]
              rw [hR] at cRp
              obtain ⟨J, hJ⟩ : ∃ J : ByteArray, (⟨#[35]⟩ ++ R : ByteArray) = J := ⟨_, rfl⟩
              have hJl : J.data.toList = commB (1048575 + q) := by rw [← hJ, ByteArray.data_append, Array.toList_append, hRl]; rfl
              have hpc := parse_comm (1048575 + q)
              rw [← hJl] at hpc
              clear hR hRl hJl
              rcases (show q = 0 ∨ q = 1 by omega) with rfl | rfl
              · rw [if_neg (by omega)] at hpc
                have cP := fun W hW => parse_ok J _ W hW hpc
                clear hpc
                go_wp2_with fail
                refine cRp.mono ?_
                rintro e w5 ⟨rfl, hb5⟩
                have hbw5 := hbw4.trans (hb5.mono hbw4.size)
                go_wp2_with fail
                refine (cP w5 (G _ hbw5)).mono ?_
                rintro e w6 ⟨p6, rfl, _, _, hb6⟩
                have hbw6 := hbw5.trans (hb6.mono hbw5.size)
                go_wp2_with fail
                refine (cW w6 hbw6).mono ?_
                rintro e w7 ⟨rfl, hb7⟩
                go_wp2_with fail
                go_ret
                exact ⟨rfl, hb7⟩
              · rw [if_pos (by omega)] at hpc
                have cP := fun W hW => parse_bad J 0 2 W hW hpc
                clear hpc
                go_wp2_with fail
                refine cRp.mono ?_
                rintro e w5 ⟨rfl, hb5⟩
                have hbw5 := hbw4.trans (hb5.mono hbw4.size)
                go_wp2_with fail
                refine (cP w5 (G _ hbw5)).mono ?_
                rintro e w6 ⟨rfl, hb6⟩
                have hbw6 := hbw5.trans (hb6.mono hbw5.size)
                go_wp2_with fail
                refine (cW w6 hbw6).mono ?_
                rintro e w7 ⟨rfl, hb7⟩
                go_wp2_with fail
                go_ret
                exact ⟨rfl, hb7⟩
end Go.Proofs.YtgjjmapfdijphaaDoor
