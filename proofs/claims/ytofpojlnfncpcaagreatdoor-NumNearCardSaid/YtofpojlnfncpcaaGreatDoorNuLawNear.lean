/- The contract of chisellaw04.NumNear. -/
import Derived.Test.YtofpojlnfncpcaaGreatDoorNuUnit
namespace Go.Proofs.YtofpojlnfncpcaaGreatDoor
open Go.RowKit Go.Lib

/-- What rounding gives, and what is said of it. -/
theorem near_data {a how : List UInt8} {bx : Bool} {x U : Nat} {d : Int} {way : Ct → Bool} (hc : Calm way) (ha : canonL a = some (bx, x)) (h1 : -29 ≤ d) (h2 : d ≤ 20) (hw : wayL how = some way) (hU : 10 ^ (20 - d).toNat = U) :
    roundR a d how = ([], 40) ∨ ∃ (r s : ByteArray) (c e : Bool) (n : Int) (D : Nat), roundR a d how = (r.data.toList, 0) ∧ roundR r.data.toList d how = (r.data.toList, 0) ∧ cmpR r.data.toList a = (n, 0) ∧ subR a r.data.toList = (s.data.toList, 0) ∧ canonL s.data.toList = some (e, D) ∧ D < U ∧ (Nearest way → 2 * D ≤ U) ∧
      canonL r.data.toList = some (c, divW way bx x U * U) ∧ toZ c (divW way bx x U * U) = toZ bx (divW way bx x U * U) := by
  have hU0 : 0 < U := by rw [← hU]; exact Nat.pow_pos (by omega)
  have hU9 : U ≤ 10 ^ 49 := by rw [← hU]; exact Nat.pow_le_pow_right (by omega) (by omega)
  have h50 : (10 : Nat) ^ 49 < 10 ^ 50 := by decide
  rw [round_is ha (by omega) h2 hw hU]
  rcases res_two bx (divW way bx x U * U) with h | ⟨t, c, ht, hct, hz⟩
  · exact .inl h
  · obtain ⟨n, hn⟩ := cmp_any2 ha hct
    have hN := divW_near hc bx x U hU0
    obtain ⟨sl, e, hs, hsc⟩ := near_sub (D := (x - divW way bx x U * U) + (divW way bx x U * U - x)) ha hct hz rfl (by omega)
    refine .inr ⟨⟨t.toArray⟩, ⟨sl.toArray⟩, c, e, n, _, ht, round_again hct (by omega) h2 hw hU hU0 hc, hn, hs, hsc, by omega, fun hq => ?_, hct, hz⟩
    have := divW_half hq bx x U hU0
    omega
def waysL : List (List UInt8) := [[104, 97, 108, 102], [101, 118, 101, 110], [102, 108, 111, 111, 114], [99, 101, 105, 108, 105, 110, 103], [99, 117, 116]]
def wayCells : Array Value := #[.string ⟨#[104, 97, 108, 102]⟩, .string ⟨#[101, 118, 101, 110]⟩, .string ⟨#[102, 108, 111, 111, 114]⟩, .string ⟨#[99, 101, 105, 108, 105, 110, 103]⟩, .string ⟨#[99, 117, 116]⟩]
def WaysAt (W : World) (B : Nat) : Prop := ∀ (i : Nat) nm, waysL[i]? = some nm → W.cell? ⟨B, i, none⟩ = some (.string ⟨nm.toArray⟩)
theorem way_cells : ∀ (i : Nat) nm, waysL[i]? = some nm → wayCells[i]? = some (.string ⟨nm.toArray⟩)
  | 0, _, rfl => rfl
  | 1, _, rfl => rfl
  | 2, _, rfl => rfl
  | 3, _, rfl => rfl
  | 4, _, rfl => rfl
  | n + 5, _, h => by simp [waysL] at h
theorem WaysAt.later {W W' : World} {B : Nat} (h : WaysAt W B) (hl : B < W.heap.size) (hb : Below W.heap.size W W') : WaysAt W' B := fun i nm hx => (hb.cell (p := ⟨B, i, none⟩) hl).trans (h i nm hx)
theorem waysAt_new (w : World) (t : TypeId) : WaysAt (w.alloc (.cells wayCells t)) w.heap.size := fun i nm hx => (cell_of_row _ _ _ _ _ (0, 0) (heap_alloc_new _ _)).trans (way_cells i nm hx)
set_option maxRecDepth 100000 in
set_option maxHeartbeats 8000000 in
theorem near_law (a : ByteArray) (m : Nat) (hm : m < 256) (w : World) (hg : GrN w) :
    Calls Tryz.prog 11 #[.string a, .int .u8 (m : Int)] w fun e w' => e = .returned (.bool true) ∧ Below w.heap.size w w' := by
  obtain ⟨k, hk⟩ : ∃ k, m % 50 = k := ⟨_, rfl⟩
  have hk50 : k < 50 := by omega
  have hmk : (m : Int) % 50 = (k : Int) := by omega
  have hmt : (m : Int).tmod 50 = (k : Int) := (Int.tmod_eq_emod_of_nonneg (by omega)).trans hmk
  obtain ⟨d, hd⟩ : ∃ d : Int, (k : Int) - 29 = d := ⟨_, rfl⟩
  have hdw : wrap64 d = d := by unfold wrap64; omega
  have h1 : -29 ≤ d := by omega
  have h2 : d ≤ 20 := by omega
  have cw := (works_on hg).use
  have cl := (long_on hg a ⟨#[]⟩).use
  have e0 : (⟨#[]⟩ : ByteArray).size = 0 := rfl
  by_cases hL : 300 < (a.size : Int)
  · rw [show (decide (300 < (a.size : Int)) || decide (300 < ((⟨#[]⟩ : ByteArray).size : Int))) = true by rw [decide_eq_true hL]; rfl] at cl
    clear hg hL hk hk50 hmk hmt hd hdw h1 h2 e0
    go_enter Tryz.func11, Tryz.ntmps11
    go_wp2_with fail
    refine (cl w (Below.refl _ _)).mono ?_
    rintro e w1 ⟨rfl, b1⟩
    go_wp2_with fail
    refine (cw w1 b1).mono ?_
    rintro e w2 ⟨rfl, b2⟩
    go_wp2_with fail
    go_ret
    exact ⟨rfl, b2⟩
  rw [show (decide (300 < (a.size : Int)) || decide (300 < ((⟨#[]⟩ : ByteArray).size : Int))) = false by rw [decide_eq_false hL]; rfl] at cl
  clear hk hk50 e0
  cases hc : canonL a.data.toList with
  | none =>
    have k1 := fun (W : World) (hW : GrN W) (nm : ByteArray) => (round_on hW a nm ⟨#[]⟩ d 1 (by omega) (round_none hc)).use
    have k2 := (neg_on hg a ⟨#[]⟩ 1 (by omega) (negR_none _ hc)).use
    have k3 := (round_on hg a ⟨#[102, 108, 111, 111, 114]⟩ ⟨#[]⟩ d 1 (by omega) (round_none hc)).use
    have k4 := (round_on hg ⟨#[]⟩ ⟨#[99, 101, 105, 108, 105, 110, 103]⟩ ⟨#[]⟩ d 1 (by decide) (round_none rfl)).use
    have G : ∀ W, Below w.heap.size w W → GrN W := fun W hW => hg.later hW
    clear hg hL hc h1 h2
    go_enter Tryz.func11, Tryz.ntmps11
    go_wp2_with fail
    refine (cl w (Below.refl _ _)).mono ?_
    rintro e w1 ⟨rfl, b1⟩
    obtain ⟨W1, hW1⟩ : ∃ W1, w1.alloc (.cells wayCells 9) = W1 := ⟨_, rfl⟩
    have hb1 : Below w.heap.size w W1 := by rw [← hW1]; exact b1.alloc b1.size _
    have hA : WaysAt W1 w1.heap.size := by rw [← hW1]; exact waysAt_new w1 _
    have hBl : w1.heap.size < W1.heap.size := by rw [← hW1]; simp
    unfold wayCells at hW1
    go_wp2_with fail
    try rw [hW1]
    clear hW1 cl
    obtain ⟨B, hB⟩ : ∃ B, w1.heap.size = B := ⟨_, rfl⟩
    rw [hB] at hA hBl ⊢
    clear hB
    go_loopg [7] 5 (fun g s7 wx => ∃ (i : Nat) (z : Int), s7 = .int .i64 z ∧ z = (i : Int) ∧ i + g = 5 ∧ WaysAt wx B ∧ B < wx.heap.size ∧ Below w.heap.size w wx)
    case atStart => exact ⟨0, 0, rfl, rfl, by omega, hA, hBl, hb1⟩
    case round =>
      clear hA hBl hb1
      obtain ⟨i, z, rfl, hz, hig, hA, hBl, hbx⟩ := hrel
      by_cases hlt : i < 5
      · obtain ⟨g, rfl⟩ : ∃ g, gk = g + 1 := ⟨gk - 1, by omega⟩
        have hil : z < 5 := by omega
        have hi0 : 0 ≤ z := by omega
        obtain ⟨nm, hnm⟩ : ∃ nm, waysL[i]? = some nm := ⟨_, List.getElem?_eq_getElem (by show i < 5; omega)⟩
        have c0 := hA i nm hnm
        have cx := k1 wr (G wr hbx) ⟨nm.toArray⟩ wr (Below.refl _ _)
        have HA := Lib.hid hA
        clear hA hnm k1 k2 k3 k4 cw G
        subst hz
        go_wp2_with fail
        refine cx.mono ?_
        rintro e w2 ⟨rfl, b2⟩
        clear cx
        go_wp2_with fail
        go_roundg g
        case rel => exact ⟨i + 1, _, rfl, by omega, by omega, HA.out.later hBl b2, Nat.lt_of_lt_of_le hBl b2.size, hbx.trans (b2.mono hbx.size)⟩
        all_goals omega
      · have hil : ¬ z < 5 := by omega
        clear hA k1 G
        go_wp2_with fail
        refine (k2 wr hbx).mono ?_
        rintro e w2 ⟨rfl, b2⟩
        go_wp2_with fail
        refine (k3 w2 b2).mono ?_
        rintro e w3 ⟨rfl, b3⟩
        go_wp2_with fail
        refine (k4 w3 b3).mono ?_
        rintro e w4 ⟨rfl, b4⟩
        go_wp2_with fail
        refine (cw w4 b4).mono ?_
        rintro e w5 ⟨rfl, b5⟩
        go_wp2_with fail
        go_ret
        exact ⟨rfl, b5⟩
  | some q =>
    obtain ⟨bx, x⟩ := q
    obtain ⟨U, hU⟩ : ∃ U, 10 ^ (20 - d).toNat = U := ⟨_, rfl⟩
    have hU0 : 0 < U := by rw [← hU]; exact Nat.pow_pos (by omega)
    have G : ∀ W, Below w.heap.size w W → GrN W := fun W hW => hg.later hW
    obtain ⟨ml, hml, hmir⟩ := mirror (how1 := [102, 108, 111, 111, 114]) (how2 := [99, 101, 105, 108, 105, 110, 103]) hc (by omega) h2 rfl rfl hU
    obtain ⟨mm, rfl⟩ : ∃ mm : ByteArray, mm.data.toList = ml := ⟨⟨ml.toArray⟩, rfl⟩
    have hms : mm.size ≤ 52 := canonR_size (z := 0) (by rw [← hml]; exact negR_canonR _)
    have k2 := (neg_on hg a mm 0 (by omega) hml).use
    have hEnd : (∃ (l h : ByteArray), On w 35 #[.string a, .int .i64 d, .string ⟨#[102, 108, 111, 111, 114]⟩] (.tuple #[.string l, .int .i64 0]) ∧ On w 35 #[.string mm, .int .i64 d, .string ⟨#[99, 101, 105, 108, 105, 110, 103]⟩] (.tuple #[.string h, .int .i64 0]) ∧ On w 25 #[.string l] (.tuple #[.string h, .int .i64 0])) ∨ (On w 35 #[.string a, .int .i64 d, .string ⟨#[102, 108, 111, 111, 114]⟩] (.tuple #[.string ⟨#[]⟩, .int .i64 40]) ∧ On w 35 #[.string mm, .int .i64 d, .string ⟨#[99, 101, 105, 108, 105, 110, 103]⟩] (.tuple #[.string ⟨#[]⟩, .int .i64 40])) := by
      rcases hmir with ⟨e1, e2⟩ | ⟨l, h, e1, e2, e3⟩
      · exact .inr ⟨round_on hg a _ ⟨#[]⟩ d 40 (by omega) e1, round_on hg mm _ ⟨#[]⟩ d 40 (by omega) e2⟩
      · obtain ⟨l, rfl⟩ : ∃ l' : ByteArray, l'.data.toList = l := ⟨⟨l.toArray⟩, rfl⟩
        obtain ⟨h, rfl⟩ : ∃ h' : ByteArray, h'.data.toList = h := ⟨⟨h.toArray⟩, rfl⟩
        have hls : l.size ≤ 52 := canonR_size (z := 0) (by rw [← e1]; exact roundR_canonR _ _ _)
        exact .inl ⟨l, h, round_on hg a _ l d 0 (by omega) e1, round_on hg mm _ h d 0 (by omega) e2, neg_on hg l h 0 (by omega) e3⟩
    have HE := Lib.hid hEnd
    have HC := Lib.hid hc
    have HU := Lib.hid hU
    have HU0 := Lib.hid hU0
    clear hg hmir hml hms hEnd hc hU hU0
    go_enter Tryz.func11, Tryz.ntmps11
    go_wp2_with fail
    refine (cl w (Below.refl _ _)).mono ?_
    rintro e w1 ⟨rfl, b1⟩
    obtain ⟨W1, hW1⟩ : ∃ W1, w1.alloc (.cells wayCells 9) = W1 := ⟨_, rfl⟩
    have hb1 : Below w.heap.size w W1 := by rw [← hW1]; exact b1.alloc b1.size _
    have hA : WaysAt W1 w1.heap.size := by rw [← hW1]; exact waysAt_new w1 _
    have hBl : w1.heap.size < W1.heap.size := by rw [← hW1]; simp
    unfold wayCells at hW1
    go_wp2_with fail
    try rw [hW1]
    clear hW1 cl
    obtain ⟨B, hB⟩ : ∃ B, w1.heap.size = B := ⟨_, rfl⟩
    rw [hB] at hA hBl ⊢
    clear hB
    go_loopg [7] 5 (fun g s7 wx => ∃ (i : Nat) (z : Int), s7 = .int .i64 z ∧ z = (i : Int) ∧ i + g = 5 ∧ WaysAt wx B ∧ B < wx.heap.size ∧ Below w.heap.size w wx)
    case atStart => exact ⟨0, 0, rfl, rfl, by omega, hA, hBl, hb1⟩
    case round =>
      clear hA hBl hb1
      obtain ⟨i, z, rfl, hz, hig, hA, hBl, hbx⟩ := hrel
      by_cases hlt : i < 5
      · obtain ⟨g, rfl⟩ : ∃ g, gk = g + 1 := ⟨gk - 1, by omega⟩
        have hgr := G wr hbx
        have HA := Lib.hid hA
        clear k2 cw G HE
        obtain rfl | rfl | rfl | rfl | rfl : i = 0 ∨ i = 1 ∨ i = 2 ∨ i = 3 ∨ i = 4 := by omega
        · obtain rfl : z = 0 := hz
          have c0 := hA 0 _ rfl
          have hz64 : wrap64 (0 + 1) = 1 := by unfold wrap64; rfl
          rcases near_data half_calm HC.out h1 h2 (show wayL [104, 97, 108, 102] = some halfW from rfl) HU.out with hR | ⟨r, s, c, e', n, D, hR, hR2, hn, hs, hsc, hlt2, hhf, hrc, hrz⟩
          · have c1 := (round_on hgr a ⟨#[104, 97, 108, 102]⟩ ⟨#[]⟩ d 40 (by omega) hR).use
            clear hA hgr hR h1 h2 HC HU HU0 hL
            go_wp2_with fail
            refine (c1 wr (Below.refl _ _)).mono ?_
            rintro e w2 ⟨rfl, b2⟩
            go_wp2_with fail
            go_roundg g
            case rel => exact ⟨1, 1, by congr 1, by rfl, by omega, HA.out.later hBl b2, Nat.lt_of_lt_of_le hBl b2.size, hbx.trans (b2.mono hbx.size)⟩
            all_goals omega
          · have hrs : r.size ≤ 52 := canonR_size (z := 0) (by rw [← hR]; exact roundR_canonR _ _ _)
            have c1 := (round_on hgr a ⟨#[104, 97, 108, 102]⟩ r d 0 (by omega) hR).use
            have c2 := (round_on hgr r ⟨#[104, 97, 108, 102]⟩ r d 0 (by omega) hR2).use
            have c3 := (cmp_on hgr r a n 0 (by omega) (by omega) hn).use
            have c4 := (near_on hgr a r s d true e' D _ h1 h2 (by omega) (by omega) HU.out hs hsc hlt2 (fun _ => hhf half_nearest)).use
            clear hgr hR hR2 hn hs hsc hlt2 hhf hrc hrz h1 h2 HC HU HU0 hrs hL
            go_wp2_with fail
            refine (c1 wr (Below.refl _ _)).mono ?_
            rintro e w2 ⟨rfl, b2⟩
            have c0' := HA.out.later hBl b2 0 _ rfl
            go_wp2_with fail
            refine (c2 w2 b2).mono ?_
            rintro e w3 ⟨rfl, b3⟩
            go_wp2_with fail
            refine (c3 w3 b3).mono ?_
            rintro e w4 ⟨rfl, b4⟩
            go_wp2_with fail
            refine (c4 w4 b4).mono ?_
            rintro e w5 ⟨rfl, b5⟩
            go_wp2_with fail
            go_roundg g
            case rel => exact ⟨1, 1, by congr 1, by rfl, by omega, HA.out.later hBl b5, Nat.lt_of_lt_of_le hBl b5.size, hbx.trans (b5.mono hbx.size)⟩
            all_goals omega
        · obtain rfl : z = 1 := hz
          have c0 := hA 1 _ rfl
          have hz64 : wrap64 (1 + 1) = 2 := by unfold wrap64; rfl
          rcases near_data even_calm HC.out h1 h2 (show wayL [101, 118, 101, 110] = some evenW from rfl) HU.out with hR | ⟨r, s, c, e', n, D, hR, hR2, hn, hs, hsc, hlt2, hhf, hrc, hrz⟩
          · have c1 := (round_on hgr a ⟨#[101, 118, 101, 110]⟩ ⟨#[]⟩ d 40 (by omega) hR).use
            clear hA hgr hR h1 h2 HC HU HU0 hL
            go_wp2_with fail
            refine (c1 wr (Below.refl _ _)).mono ?_
            rintro e w2 ⟨rfl, b2⟩
            go_wp2_with fail
            go_roundg g
            case rel => exact ⟨2, 2, by congr 1, by rfl, by omega, HA.out.later hBl b2, Nat.lt_of_lt_of_le hBl b2.size, hbx.trans (b2.mono hbx.size)⟩
            all_goals omega
          · have hrs : r.size ≤ 52 := canonR_size (z := 0) (by rw [← hR]; exact roundR_canonR _ _ _)
            have c1 := (round_on hgr a ⟨#[101, 118, 101, 110]⟩ r d 0 (by omega) hR).use
            have c2 := (round_on hgr r ⟨#[101, 118, 101, 110]⟩ r d 0 (by omega) hR2).use
            have c3 := (cmp_on hgr r a n 0 (by omega) (by omega) hn).use
            have c4 := (near_on hgr a r s d true e' D _ h1 h2 (by omega) (by omega) HU.out hs hsc hlt2 (fun _ => hhf even_nearest)).use
            clear hgr hR hR2 hn hs hsc hlt2 hhf hrc hrz h1 h2 HC HU HU0 hrs hL
            go_wp2_with fail
            refine (c1 wr (Below.refl _ _)).mono ?_
            rintro e w2 ⟨rfl, b2⟩
            have c0' := HA.out.later hBl b2 1 _ rfl
            go_wp2_with fail
            refine (c2 w2 b2).mono ?_
            rintro e w3 ⟨rfl, b3⟩
            go_wp2_with fail
            refine (c3 w3 b3).mono ?_
            rintro e w4 ⟨rfl, b4⟩
            go_wp2_with fail
            refine (c4 w4 b4).mono ?_
            rintro e w5 ⟨rfl, b5⟩
            go_wp2_with fail
            go_roundg g
            case rel => exact ⟨2, 2, by congr 1, by rfl, by omega, HA.out.later hBl b5, Nat.lt_of_lt_of_le hBl b5.size, hbx.trans (b5.mono hbx.size)⟩
            all_goals omega
        · obtain rfl : z = 2 := hz
          have c0 := hA 2 _ rfl
          have hz64 : wrap64 (2 + 1) = 3 := by unfold wrap64; rfl
          rcases near_data floor_calm HC.out h1 h2 (show wayL [102, 108, 111, 111, 114] = some floorW from rfl) HU.out with hR | ⟨r, s, c, e', n, D, hR, hR2, hn, hs, hsc, hlt2, hhf, hrc, hrz⟩
          · have c1 := (round_on hgr a ⟨#[102, 108, 111, 111, 114]⟩ ⟨#[]⟩ d 40 (by omega) hR).use
            clear hA hgr hR h1 h2 HC HU HU0 hL
            go_wp2_with fail
            refine (c1 wr (Below.refl _ _)).mono ?_
            rintro e w2 ⟨rfl, b2⟩
            go_wp2_with fail
            go_roundg g
            case rel => exact ⟨3, 3, by congr 1, by rfl, by omega, HA.out.later hBl b2, Nat.lt_of_lt_of_le hBl b2.size, hbx.trans (b2.mono hbx.size)⟩
            all_goals omega
          · have hrs : r.size ≤ 52 := canonR_size (z := 0) (by rw [← hR]; exact roundR_canonR _ _ _)
            have c1 := (round_on hgr a ⟨#[102, 108, 111, 111, 114]⟩ r d 0 (by omega) hR).use
            have c2 := (round_on hgr r ⟨#[102, 108, 111, 111, 114]⟩ r d 0 (by omega) hR2).use
            have c3 := (cmp_on hgr r a n 0 (by omega) (by omega) hn).use
            have c4 := (near_on hgr a r s d false e' D _ h1 h2 (by omega) (by omega) HU.out hs hsc hlt2 (fun h => by cases h)).use
            obtain ⟨z2, hz2, hz3⟩ := floor_side HC.out HU0.out hrc hrz
            have hn0 : n ≤ 0 := by rw [hn] at hz2; have := congrArg Prod.fst hz2; simp only at this; omega
            have hn1 : ¬ 0 < n := by omega
            clear hgr hR hR2 hn hs hsc hlt2 hhf hrc hrz h1 h2 HC HU HU0 hrs hL
            go_wp2_with fail
            refine (c1 wr (Below.refl _ _)).mono ?_
            rintro e w2 ⟨rfl, b2⟩
            have c0' := HA.out.later hBl b2 2 _ rfl
            go_wp2_with fail
            refine (c2 w2 b2).mono ?_
            rintro e w3 ⟨rfl, b3⟩
            go_wp2_with fail
            refine (c3 w3 b3).mono ?_
            rintro e w4 ⟨rfl, b4⟩
            go_wp2_with fail
            refine (c4 w4 b4).mono ?_
            rintro e w5 ⟨rfl, b5⟩
            go_wp2_with fail
            go_roundg g
            case rel => exact ⟨3, 3, by congr 1, by rfl, by omega, HA.out.later hBl b5, Nat.lt_of_lt_of_le hBl b5.size, hbx.trans (b5.mono hbx.size)⟩
            all_goals omega
        · obtain rfl : z = 3 := hz
          have c0 := hA 3 _ rfl
          have hz64 : wrap64 (3 + 1) = 4 := by unfold wrap64; rfl
          rcases near_data ceil_calm HC.out h1 h2 (show wayL [99, 101, 105, 108, 105, 110, 103] = some ceilW from rfl) HU.out with hR | ⟨r, s, c, e', n, D, hR, hR2, hn, hs, hsc, hlt2, hhf, hrc, hrz⟩
          · have c1 := (round_on hgr a ⟨#[99, 101, 105, 108, 105, 110, 103]⟩ ⟨#[]⟩ d 40 (by omega) hR).use
            clear hA hgr hR h1 h2 HC HU HU0 hL
            go_wp2_with fail
            refine (c1 wr (Below.refl _ _)).mono ?_
            rintro e w2 ⟨rfl, b2⟩
            go_wp2_with fail
            go_roundg g
            case rel => exact ⟨4, 4, by congr 1, by rfl, by omega, HA.out.later hBl b2, Nat.lt_of_lt_of_le hBl b2.size, hbx.trans (b2.mono hbx.size)⟩
            all_goals omega
          · have hrs : r.size ≤ 52 := canonR_size (z := 0) (by rw [← hR]; exact roundR_canonR _ _ _)
            have c1 := (round_on hgr a ⟨#[99, 101, 105, 108, 105, 110, 103]⟩ r d 0 (by omega) hR).use
            have c2 := (round_on hgr r ⟨#[99, 101, 105, 108, 105, 110, 103]⟩ r d 0 (by omega) hR2).use
            have c3 := (cmp_on hgr r a n 0 (by omega) (by omega) hn).use
            have c4 := (near_on hgr a r s d false e' D _ h1 h2 (by omega) (by omega) HU.out hs hsc hlt2 (fun h => by cases h)).use
            obtain ⟨z2, hz2, hz3⟩ := ceil_side HC.out HU0.out hrc hrz
            have hn0 : 0 ≤ n := by rw [hn] at hz2; have := congrArg Prod.fst hz2; simp only at this; omega
            have hn1 : ¬ n < 0 := by omega
            clear hgr hR hR2 hn hs hsc hlt2 hhf hrc hrz h1 h2 HC HU HU0 hrs hL
            go_wp2_with fail
            refine (c1 wr (Below.refl _ _)).mono ?_
            rintro e w2 ⟨rfl, b2⟩
            have c0' := HA.out.later hBl b2 3 _ rfl
            go_wp2_with fail
            refine (c2 w2 b2).mono ?_
            rintro e w3 ⟨rfl, b3⟩
            go_wp2_with fail
            refine (c3 w3 b3).mono ?_
            rintro e w4 ⟨rfl, b4⟩
            go_wp2_with fail
            refine (c4 w4 b4).mono ?_
            rintro e w5 ⟨rfl, b5⟩
            go_wp2_with fail
            go_roundg g
            case rel => exact ⟨4, 4, by congr 1, by rfl, by omega, HA.out.later hBl b5, Nat.lt_of_lt_of_le hBl b5.size, hbx.trans (b5.mono hbx.size)⟩
            all_goals omega
        · obtain rfl : z = 4 := hz
          have c0 := hA 4 _ rfl
          have hz64 : wrap64 (4 + 1) = 5 := by unfold wrap64; rfl
          rcases near_data cut_calm HC.out h1 h2 (show wayL [99, 117, 116] = some cutW from rfl) HU.out with hR | ⟨r, s, c, e', n, D, hR, hR2, hn, hs, hsc, hlt2, hhf, hrc, hrz⟩
          · have c1 := (round_on hgr a ⟨#[99, 117, 116]⟩ ⟨#[]⟩ d 40 (by omega) hR).use
            clear hA hgr hR h1 h2 HC HU HU0 hL
            go_wp2_with fail
            refine (c1 wr (Below.refl _ _)).mono ?_
            rintro e w2 ⟨rfl, b2⟩
            go_wp2_with fail
            go_roundg g
            case rel => exact ⟨5, 5, by congr 1, by rfl, by omega, HA.out.later hBl b2, Nat.lt_of_lt_of_le hBl b2.size, hbx.trans (b2.mono hbx.size)⟩
            all_goals omega
          · have hrs : r.size ≤ 52 := canonR_size (z := 0) (by rw [← hR]; exact roundR_canonR _ _ _)
            have c1 := (round_on hgr a ⟨#[99, 117, 116]⟩ r d 0 (by omega) hR).use
            have c2 := (round_on hgr r ⟨#[99, 117, 116]⟩ r d 0 (by omega) hR2).use
            have c3 := (cmp_on hgr r a n 0 (by omega) (by omega) hn).use
            have c4 := (near_on hgr a r s d false e' D _ h1 h2 (by omega) (by omega) HU.out hs hsc hlt2 (fun h => by cases h)).use
            clear hgr hR hR2 hn hs hsc hlt2 hhf hrc hrz h1 h2 HC HU HU0 hrs hL
            go_wp2_with fail
            refine (c1 wr (Below.refl _ _)).mono ?_
            rintro e w2 ⟨rfl, b2⟩
            have c0' := HA.out.later hBl b2 4 _ rfl
            go_wp2_with fail
            refine (c2 w2 b2).mono ?_
            rintro e w3 ⟨rfl, b3⟩
            go_wp2_with fail
            refine (c3 w3 b3).mono ?_
            rintro e w4 ⟨rfl, b4⟩
            go_wp2_with fail
            refine (c4 w4 b4).mono ?_
            rintro e w5 ⟨rfl, b5⟩
            go_wp2_with fail
            go_roundg g
            case rel => exact ⟨5, 5, by congr 1, by rfl, by omega, HA.out.later hBl b5, Nat.lt_of_lt_of_le hBl b5.size, hbx.trans (b5.mono hbx.size)⟩
            all_goals omega
      · have hil : ¬ z < 5 := by omega
        clear hA G h1 h2 HC HU HU0 hL
        rcases HE.out with ⟨l, h, e1, e2, e3⟩ | ⟨e1, e2⟩
        · have k3 := e1.use
          have k4 := e2.use
          have k5 := e3.use
          clear e1 e2 e3 HE
          go_wp2_with fail
          refine (k2 wr hbx).mono ?_
          rintro e w2 ⟨rfl, b2⟩
          go_wp2_with fail
          refine (k3 w2 b2).mono ?_
          rintro e w3 ⟨rfl, b3⟩
          go_wp2_with fail
          refine (k4 w3 b3).mono ?_
          rintro e w4 ⟨rfl, b4⟩
          go_wp2_with fail
          refine (k5 w4 b4).mono ?_
          rintro e w5 ⟨rfl, b5⟩
          go_wp2_with fail
          refine (cw w5 b5).mono ?_
          rintro e w6 ⟨rfl, b6⟩
          go_wp2_with fail
          go_ret
          exact ⟨rfl, b6⟩
        · have k3 := e1.use
          have k4 := e2.use
          clear e1 e2 HE
          go_wp2_with fail
          refine (k2 wr hbx).mono ?_
          rintro e w2 ⟨rfl, b2⟩
          go_wp2_with fail
          refine (k3 w2 b2).mono ?_
          rintro e w3 ⟨rfl, b3⟩
          go_wp2_with fail
          refine (k4 w3 b3).mono ?_
          rintro e w4 ⟨rfl, b4⟩
          go_wp2_with fail
          refine (cw w4 b4).mono ?_
          rintro e w5 ⟨rfl, b5⟩
          go_wp2_with fail
          go_ret
          exact ⟨rfl, b5⟩
end Go.Proofs.YtofpojlnfncpcaaGreatDoor
