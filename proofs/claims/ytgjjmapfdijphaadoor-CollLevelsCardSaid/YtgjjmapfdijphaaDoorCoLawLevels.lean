/- The contract of chisellaw03.CollLevels. -/
import Derived.Test.YtgjjmapfdijphaaDoorCoLevs
import Derived.Deep.RegionWith
namespace Go.Proofs.YtgjjmapfdijphaaDoor
open Go.RowKit Go.Lib Go.Shelf

set_option maxHeartbeats 8000000 in
set_option maxRecDepth 100000 in
theorem levels_law (t a b : ByteArray) (w : World) (hg : GrC w) :
    Calls Tryd.prog 3 #[.string t, .string a, .string b] w fun e w' => e = .returned (.bool true) ∧ Below w.heap.size w w' := by
  obtain ⟨W1, hW1⟩ : ∃ W1, w.alloc (.cells #[.string a, .string b] 9) = W1 := ⟨_, rfl⟩
  have hb1 : Below w.heap.size w W1 := by rw [← hW1]; exact (Below.refl _ _).alloc (Nat.le_refl _) _
  have cL := light_any t w.heap.size 2 [a, b] rfl (by omega) W1 (by rw [← hW1]; exact two_cells w a b _)
  have G : ∀ W, Below w.heap.size w W → GrC W := fun W hW => hg.later hW
  have cW : ∀ W, Below w.heap.size w W → Calls Tryd.prog 10 #[] W fun e w' => e = .returned (.bool true) ∧ Below w.heap.size w w' := fun W hW =>
    (works_any W (G W hW)).mono fun e w' ⟨h1, h2⟩ => ⟨h1, hW.trans (h2.mono hW.size)⟩
  cases hl : lightL t [a, b] with
  | false =>
    rw [hl] at cL
    go_enter Tryd.func3, Tryd.ntmps3
    go_wp2_with fail
    refine cL.mono ?_
    rintro e w2 ⟨rfl, rfl⟩
    go_wp2_with fail
    refine (cW w2 hb1).mono ?_
    rintro e w3 ⟨rfl, hb3⟩
    go_wp2_with fail
    go_ret
    exact ⟨rfl, hb3⟩
  | true =>
    rw [hl] at cL
    have hsz : a.size ≤ 200 ∧ b.size ≤ 200 ∧ t.size ≤ 2000 := by
      unfold lightL at hl
      simp at hl
      omega
    obtain ⟨ha, hb, ht⟩ := hsz
    clear hl
    rcases three_levels t.data.toList (by rw [← size_eq]; exact ht) with ⟨T, p0, p1, p2, p3⟩ | ⟨x, hx⟩
    · have s3 := parse_small _ _ p0
      have s1 := small_str T 1 (by omega) s3
      have s2 := small_str T 2 (by omega) s3
      have hF : Fits3 T := fits_str (withStr T 3) T.str (fits_of _ (parse_pos _ _ p0) s3.1 (fun c x hx => (s3.2.2 c x hx).1))
      have hk := levels_str T hF a.data.toList b.data.toList
      have cV := fun W hW => levels_yes t ht T W hW p1 p2 p3
      have cP := fun W hW => parse_ok t (withStr T 3) W hW p0
      obtain ⟨r1, r2, e1, e2⟩ := keys_begin T a.data.toList
      have KC : ∀ W (v : Value) (T' : Tb) (n : Int), cmpL (keyL T' a.data.toList) (keyL T' b.data.toList) = n → Below w.heap.size w W → TabAt W v T' → TabSmall T' → Calls Tryd.prog 12 #[v, .string a, .string b] W fun e w' => e = .returned (.int .i64 n) ∧ Below W.heap.size W w' := fun W v T' n hn hW hT hS => by
        have := compare_any v a b T' W (G W hW).gr (by omega) (by omega) hT hS
        rwa [hn] at this
      have KY : ∀ W (v : Value) (T' : Tb) (l : List UInt8), keyL T' a.data.toList = l → Below w.heap.size w W → TabAt W v T' → TabSmall T' → Calls Tryd.prog 15 #[v, .string a] W fun e w' => ∃ u, e = .returned u ∧ BytesV w' u l ∧ Below W.heap.size W w' := fun W v T' l hl hW hT hS => by
        have := key_any v a T' W (G W hW).gr (by omega) hT hS
        rwa [hl] at this
      have h3x := cmpL_three (keyL (withStr T 1) a.data.toList) (keyL (withStr T 1) b.data.toList)
      have h3y := cmpL_three (keyL (withStr T 2) a.data.toList) (keyL (withStr T 2) b.data.toList)
      have h3z := cmpL_three (keyL (withStr T 3) a.data.toList) (keyL (withStr T 3) b.data.toList)
      have k1 := fun W v hW hT => KC W v (withStr T 1) _ rfl hW hT s1
      have k2 := fun W v hW hT => KC W v (withStr T 2) _ rfl hW hT s2
      have k3 := fun W v hW hT => KC W v (withStr T 3) _ rfl hW hT s3
      have y1 := fun W v hW hT => KY W v (withStr T 1) _ rfl hW hT s1
      have y2 := fun W v hW hT => KY W v (withStr T 2) _ e1 hW hT s2
      have y2' := fun W v hW hT => KY W v (withStr T 2) _ rfl hW hT s2
      have y3 := fun W v hW hT => KY W v (withStr T 3) _ e2 hW hT s3
      generalize cmpL (keyL (withStr T 1) a.data.toList) (keyL (withStr T 1) b.data.toList) = X at *
      generalize cmpL (keyL (withStr T 2) a.data.toList) (keyL (withStr T 2) b.data.toList) = Y at *
      generalize cmpL (keyL (withStr T 3) a.data.toList) (keyL (withStr T 3) b.data.toList) = Z at *
      have hcase : (X = 0 ∧ Y = 0) ∨ (X = 0 ∧ Y ≠ 0 ∧ Y = Z) ∨ (X ≠ 0 ∧ X = Y ∧ Y = Z) := by
        obtain ⟨q1, q2⟩ := hk
        by_cases x0 : X = 0
        · by_cases y0 : Y = 0
          · exact .inl ⟨x0, y0⟩
          · exact .inr (.inl ⟨x0, y0, q2 y0⟩)
        · have := q1 x0
          exact .inr (.inr ⟨x0, this, q2 (by omega)⟩)
      clear KC KY hk p0 p1 p2 p3 hF e1 e2
      go_enter Tryd.func3, Tryd.ntmps3
      go_wp2_with fail
      refine cL.mono ?_
      rintro e w2 ⟨rfl, rfl⟩
      go_wp2_with fail
      refine (cV _ (G _ hb1)).mono ?_
      rintro e w3 ⟨⟨o1, o2, o3, rfl, t1, t2, t3⟩, hb3⟩
      have hbw3 := hb1.trans (hb3.mono hb1.size)
      obtain ⟨W4, hW4⟩ : ∃ W4, w3.alloc (.cells #[.pointer o1, .pointer o2, .pointer o3] 25) = W4 := ⟨_, rfl⟩
      have hb4 : Below w3.heap.size w3 W4 := by rw [← hW4]; exact (Below.refl _ _).alloc (Nat.le_refl _) _
      have hPA : PtrsAt W4 w3.heap.size o1 o2 o3 := by rw [← hW4]; exact heap_alloc_new _ _
      have hbw4 := hbw3.trans (hb4.mono hbw3.size)
      have u1 := t1.later hb4
      have u2 := t2.later hb4
      have u3 := t3.later hb4
      clear cL cV t1 t2 t3 hb3 hb4
      obtain ⟨B, hB⟩ : ∃ B, w3.heap.size = B := ⟨_, rfl⟩
      have e0 := Below.refl W4.heap.size W4
      have HC : ∀ W, Below W4.heap.size W4 W → W.cell? ⟨B, 0, none⟩ = some (.pointer o1) ∧ W.cell? ⟨B, 1, none⟩ = some (.pointer o2) ∧ W.cell? ⟨B, 2, none⟩ = some (.pointer o3) := fun W hW => by rw [← hB]; exact (hPA.later hW).cells
      have GB : ∀ W, Below W4.heap.size W4 W → Below w.heap.size w W := fun W hW => hbw4.trans (hW.mono hbw4.size)
      have K1 : ∀ W, Below W4.heap.size W4 W → Calls Tryd.prog 12 #[.pointer o1, .string a, .string b] W fun e w' => e = .returned (.int .i64 X) ∧ Below W4.heap.size W4 w' := fun W hW =>
        (k1 W _ (GB W hW) (u1.later hW)).mono fun e w' ⟨h1, h2⟩ => ⟨h1, hW.trans (h2.mono hW.size)⟩
      have K2 : ∀ W, Below W4.heap.size W4 W → Calls Tryd.prog 12 #[.pointer o2, .string a, .string b] W fun e w' => e = .returned (.int .i64 Y) ∧ Below W4.heap.size W4 w' := fun W hW =>
        (k2 W _ (GB W hW) (u2.later hW)).mono fun e w' ⟨h1, h2⟩ => ⟨h1, hW.trans (h2.mono hW.size)⟩
      have K3 : ∀ W, Below W4.heap.size W4 W → Calls Tryd.prog 12 #[.pointer o3, .string a, .string b] W fun e w' => e = .returned (.int .i64 Z) ∧ Below W4.heap.size W4 w' := fun W hW =>
        (k3 W _ (GB W hW) (u3.later hW)).mono fun e w' ⟨h1, h2⟩ => ⟨h1, hW.trans (h2.mono hW.size)⟩
      obtain ⟨cz0, cz1, cz2⟩ := HC W4 e0
      go_wp2_with fail
      clear hW4
      have HC' := Lib.hid HC
      have HK := Lib.hid (And.intro k1 (And.intro k2 (And.intro k3 (And.intro y1 (And.intro y2 (And.intro y2' y3))))))
      have HG := Lib.hid (And.intro GB (And.intro cW cP))
      have HH := Lib.hid hcase
      have HX := Lib.hid (And.intro h3x (And.intro h3y h3z))
      clear k1 k2 k3 y1 y2 y2' y3 GB cW cP hcase h3x h3y h3z HC
      go_region_held3 (fun w' => w'.cell? ⟨B, 0, none⟩ = some (.pointer o1) ∧ w'.cell? ⟨B, 1, none⟩ = some (.pointer o2) ∧ w'.cell? ⟨B, 2, none⟩ = some (.pointer o3)) (first | exact HC'.out _ hA3 | exact HC'.out _ hA2 | exact HC'.out _ hA | exact HC'.out _ e0 | exact HC'.out _ e0.drew | exact HC'.out _ hA.drew | exact HC'.out _ hA2.drew) (first | (go_at_call 12; first | (refine (K3 _ hA2).mono ?_; rintro e w7 ⟨rfl, hA3⟩) | (refine (K2 _ hA).mono ?_; rintro e w6 ⟨rfl, hA2⟩) | (refine (K1 _ (by first | exact e0 | exact e0.drew)).mono ?_; rintro e w5 ⟨rfl, hA⟩)))
      obtain ⟨GB, cW, cP⟩ := HG.out
      obtain ⟨k1, k2, k3, y1', y2a, y2b, y3'⟩ := HK.out
      have cP1 := cP w7 (G _ (GB _ hA3))
      have cW' : ∀ W, Below W4.heap.size W4 W → Calls Tryd.prog 10 #[] W fun e w' => e = .returned (.bool true) ∧ Below W4.heap.size W4 w' := fun W hW =>
        (works_any W (G W (GB W hW))).mono fun e w' ⟨h1, h2⟩ => ⟨h1, hW.trans (h2.mono hW.size)⟩
      have Y1 : ∀ W, Below W4.heap.size W4 W → Calls Tryd.prog 15 #[.pointer o1, .string a] W fun e w' => ∃ u, e = .returned u ∧ BytesV w' u (keyL (withStr T 1) a.data.toList) ∧ Below W.heap.size W w' := fun W hW => y1' W _ (GB W hW) (u1.later hW)
      have Y2 : ∀ W, Below W4.heap.size W4 W → Calls Tryd.prog 15 #[.pointer o2, .string a] W fun e w' => ∃ u, e = .returned u ∧ BytesV w' u (keyL (withStr T 1) a.data.toList ++ r1) ∧ Below W.heap.size W w' := fun W hW => y2a W _ (GB W hW) (u2.later hW)
      have Y2b : ∀ W, Below W4.heap.size W4 W → Calls Tryd.prog 15 #[.pointer o2, .string a] W fun e w' => ∃ u, e = .returned u ∧ BytesV w' u (keyL (withStr T 2) a.data.toList) ∧ Below W.heap.size W w' := fun W hW => y2b W _ (GB W hW) (u2.later hW)
      have Y3 : ∀ W, Below W4.heap.size W4 W → Calls Tryd.prog 15 #[.pointer o3, .string a] W fun e w' => ∃ u, e = .returned u ∧ BytesV w' u (keyL (withStr T 2) a.data.toList ++ r2) ∧ Below W.heap.size W w' := fun W hW => y3' W _ (GB W hW) (u3.later hW)
      have HY := Lib.hid (And.intro Y1 (And.intro Y2 (And.intro Y2b Y3)))
      clear K1 K2 K3 cz0 cz1 cz2 hA hA2 y1' y2a y2b y3' cP k1 k2 Y1 Y2 Y2b Y3 cW
      have hPA7 := hPA.later hA3
      go_wp2_with fail
      refine cP1.mono ?_
      rintro e w8 ⟨p, rfl, hTp, _, hb8⟩
      have hA8 : Below W4.heap.size W4 w8 := hA3.trans (hb8.mono hA3.size)
      have k4 := k3 w8 _ (GB _ hA8) hTp
      clear k3 cP1
      go_wp2_with fail
      refine k4.mono ?_
      rintro e w9 ⟨rfl, hb9⟩
      have hA9 : Below W4.heap.size W4 w9 := hA8.trans (hb9.mono hA8.size)
      clear k4
      have hcase := HH.out
      rcases hcase with ⟨rfl, rfl⟩ | ⟨rfl, hy0, rfl⟩ | ⟨hx0, rfl, rfl⟩
      · go_wp2_with fail
        obtain ⟨Y1, Y2, Y2b, Y3⟩ := HY.out
        obtain ⟨cz0, cz1, cz2⟩ := HC'.out _ hA9
        go_region_held3 (fun w' => w'.cell? ⟨B, 0, none⟩ = some (.pointer o1) ∧ w'.cell? ⟨B, 1, none⟩ = some (.pointer o2) ∧ w'.cell? ⟨B, 2, none⟩ = some (.pointer o3)) (first | exact HC'.out _ p5 | exact HC'.out _ p4 | exact HC'.out _ p3 | exact HC'.out _ p2 | exact HC'.out _ p1 | exact HC'.out _ hA9 | exact HC'.out _ hA9.drew) (first | (go_at_call 15; first | (refine (Y2b _ p3).mono ?_; rintro e w14 ⟨v4, rfl, V4, q4⟩; have p4 : Below W4.heap.size W4 w14 := p3.trans (q4.mono p3.size)) | (refine (Y3 _ p2).mono ?_; rintro e w13 ⟨v3, rfl, V3, q3⟩; have p3 : Below W4.heap.size W4 w13 := p2.trans (q3.mono p2.size)) | (refine (Y1 _ p1).mono ?_; rintro e w11 ⟨v2, rfl, V2, q2⟩; have p2 : Below W4.heap.size W4 w11 := p1.trans (q2.mono p1.size)) | (refine (Y2 _ hA9).mono ?_; rintro e w10 ⟨v1, rfl, V1, q1⟩; have p1 : Below W4.heap.size W4 w10 := hA9.trans (q1.mono hA9.size)) | (refine (Y2 _ hA9.drew).mono ?_; rintro e w10 ⟨v1, rfl, V1, q1⟩; have p1 : Below W4.heap.size W4 w10 := hA9.drew.trans (q1.mono hA9.size))) | (go_at_call 14; first | (refine (prefix_bytes v3 v4 _ _ w14 (V3.later q4) V4).mono ?_; rintro e w15 ⟨rfl, rfl⟩) | (refine (prefix_bytes v1 v2 _ _ w11 (V1.later q2) V2).mono ?_; rintro e w12 ⟨rfl, rfl⟩)) | (go_at_call 10; refine (cW' _ p4).mono ?_; rintro e w16 ⟨rfl, p5⟩))
        go_wp2_with fail
        go_ret
        exact ⟨rfl, GB _ p5⟩
      · have hy1 : (Y == 0) = false := by rw [beq_eq_false_iff_ne]; exact hy0
        go_wp2_with fail
        obtain ⟨Y1, Y2, Y2b, Y3⟩ := HY.out
        obtain ⟨cz0, cz1, cz2⟩ := HC'.out _ hA9
        go_region_held3 (fun w' => w'.cell? ⟨B, 0, none⟩ = some (.pointer o1) ∧ w'.cell? ⟨B, 1, none⟩ = some (.pointer o2) ∧ w'.cell? ⟨B, 2, none⟩ = some (.pointer o3)) (first | exact HC'.out _ p5 | exact HC'.out _ p4 | exact HC'.out _ p3 | exact HC'.out _ p2 | exact HC'.out _ p1 | exact HC'.out _ hA9 | exact HC'.out _ hA9.drew) (first | (go_at_call 15; first | (refine (Y2b _ p3).mono ?_; rintro e w14 ⟨v4, rfl, V4, q4⟩; have p4 : Below W4.heap.size W4 w14 := p3.trans (q4.mono p3.size)) | (refine (Y3 _ p2).mono ?_; rintro e w13 ⟨v3, rfl, V3, q3⟩; have p3 : Below W4.heap.size W4 w13 := p2.trans (q3.mono p2.size)) | (refine (Y1 _ p1).mono ?_; rintro e w11 ⟨v2, rfl, V2, q2⟩; have p2 : Below W4.heap.size W4 w11 := p1.trans (q2.mono p1.size)) | (refine (Y2 _ hA9).mono ?_; rintro e w10 ⟨v1, rfl, V1, q1⟩; have p1 : Below W4.heap.size W4 w10 := hA9.trans (q1.mono hA9.size)) | (refine (Y2 _ hA9.drew).mono ?_; rintro e w10 ⟨v1, rfl, V1, q1⟩; have p1 : Below W4.heap.size W4 w10 := hA9.drew.trans (q1.mono hA9.size))) | (go_at_call 14; first | (refine (prefix_bytes v3 v4 _ _ w14 (V3.later q4) V4).mono ?_; rintro e w15 ⟨rfl, rfl⟩) | (refine (prefix_bytes v1 v2 _ _ w11 (V1.later q2) V2).mono ?_; rintro e w12 ⟨rfl, rfl⟩)) | (go_at_call 10; refine (cW' _ p4).mono ?_; rintro e w16 ⟨rfl, p5⟩))
        go_wp2_with fail
        go_ret
        exact ⟨rfl, GB _ p5⟩
      · have hx1 : (X == 0) = false := by rw [beq_eq_false_iff_ne]; exact hx0
        go_wp2_with fail
        obtain ⟨Y1, Y2, Y2b, Y3⟩ := HY.out
        obtain ⟨cz0, cz1, cz2⟩ := HC'.out _ hA9
        go_region_held3 (fun w' => w'.cell? ⟨B, 0, none⟩ = some (.pointer o1) ∧ w'.cell? ⟨B, 1, none⟩ = some (.pointer o2) ∧ w'.cell? ⟨B, 2, none⟩ = some (.pointer o3)) (first | exact HC'.out _ p5 | exact HC'.out _ p4 | exact HC'.out _ p3 | exact HC'.out _ p2 | exact HC'.out _ p1 | exact HC'.out _ hA9 | exact HC'.out _ hA9.drew) (first | (go_at_call 15; first | (refine (Y2b _ p3).mono ?_; rintro e w14 ⟨v4, rfl, V4, q4⟩; have p4 : Below W4.heap.size W4 w14 := p3.trans (q4.mono p3.size)) | (refine (Y3 _ p2).mono ?_; rintro e w13 ⟨v3, rfl, V3, q3⟩; have p3 : Below W4.heap.size W4 w13 := p2.trans (q3.mono p2.size)) | (refine (Y1 _ p1).mono ?_; rintro e w11 ⟨v2, rfl, V2, q2⟩; have p2 : Below W4.heap.size W4 w11 := p1.trans (q2.mono p1.size)) | (refine (Y2 _ hA9).mono ?_; rintro e w10 ⟨v1, rfl, V1, q1⟩; have p1 : Below W4.heap.size W4 w10 := hA9.trans (q1.mono hA9.size)) | (refine (Y2 _ hA9.drew).mono ?_; rintro e w10 ⟨v1, rfl, V1, q1⟩; have p1 : Below W4.heap.size W4 w10 := hA9.drew.trans (q1.mono hA9.size))) | (go_at_call 14; first | (refine (prefix_bytes v3 v4 _ _ w14 (V3.later q4) V4).mono ?_; rintro e w15 ⟨rfl, rfl⟩) | (refine (prefix_bytes v1 v2 _ _ w11 (V1.later q2) V2).mono ?_; rintro e w12 ⟨rfl, rfl⟩)) | (go_at_call 10; refine (cW' _ p4).mono ?_; rintro e w16 ⟨rfl, p5⟩))
        go_wp2_with fail
        go_ret
        exact ⟨rfl, GB _ p5⟩
    · have cV := fun W hW => levels_no t ht x W hW hx
      go_enter Tryd.func3, Tryd.ntmps3
      go_wp2_with fail
      refine cL.mono ?_
      rintro e w2 ⟨rfl, rfl⟩
      go_wp2_with fail
      refine (cV _ (G _ hb1)).mono ?_
      rintro e w3 ⟨⟨o1, o2, o3, rfl⟩, hb3⟩
      obtain ⟨W4, hW4⟩ : ∃ W4, w3.alloc (.cells #[.pointer o1, .pointer o2, .pointer o3] 25) = W4 := ⟨_, rfl⟩
      have hb4 : Below w3.heap.size w3 W4 := by rw [← hW4]; exact (Below.refl _ _).alloc (Nat.le_refl _) _
      have hbw3 := hb1.trans (hb3.mono hb1.size)
      have hbw4 := hbw3.trans (hb4.mono hbw3.size)
      go_wp2_with fail
      refine (cW W4 hbw4).mono ?_
      rintro e w4 ⟨rfl, hb5⟩
      go_wp2_with fail
      go_ret
      exact ⟨rfl, hb5⟩
end Go.Proofs.YtgjjmapfdijphaaDoor
