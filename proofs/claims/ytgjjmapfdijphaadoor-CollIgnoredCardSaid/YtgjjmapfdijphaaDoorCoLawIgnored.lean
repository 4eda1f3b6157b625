/- The contract of chisellaw03.CollIgnored. -/
import Derived.Test.YtgjjmapfdijphaaDoorCoTwo
import Derived.Test.YtgjjmapfdijphaaDoorCoSync
import Derived.Test.YtgjjmapfdijphaaDoorShelfIg
import Derived.Test.YtgjjmapfdijphaaDoorConvRunes
import Derived.Deep.RegionHeld3
namespace Go.Proofs.YtgjjmapfdijphaaDoor
open Go.RowKit Go.Lib Go.Shelf

theorem linesGo_bad : ∀ (l : List (List UInt8)) (n : Nat) (d : Ds) (x : Nat × Nat), linesGo n d l = .error x → x.2 ≠ 0
  | [], n, d, x, h => by rw [linesGo_nil] at h; cases h
  | a :: t, n, d, x, h => by
    rw [linesGo_cons] at h
    cases ha : addL a d with
    | error e =>
      rw [ha] at h
      cases h
      have := addL_err a d e ha
      simp only
      omega
    | ok d' =>
      rw [ha] at h
      exact linesGo_bad t (n + 1) d' x h
theorem parse_wrong (l : List UInt8) (x : Nat × Nat) (h : parseL l = .error x) : x.2 ≠ 0 := by
  unfold parseL at h
  split at h
  · cases h; decide
  · split at h
    · cases h; decide
    · split at h
      · rename_i y hy
        cases h
        exact linesGo_bad _ _ _ _ hy
      · cases h
theorem ign_line (t : ByteArray) (w : ByteArray) : (t ++ ⟨#[10, 105, 103, 110, 111, 114, 101, 32]⟩ ++ w : ByteArray).data.toList = t.data.toList ++ 10 :: ignLine w.data.toList := by
  rw [ByteArray.data_append, Array.toList_append, ByteArray.data_append, Array.toList_append, List.append_assoc]
  rfl
theorem runes_back (B : Nat) (p : List Nat) (w : World) (off len cap : Nat) (hl : len ≤ p.length) (hc : ∀ i, i < p.length → w.cell? ⟨B, off + i, none⟩ = some (.int .i32 ((p.getD i 0 : Nat) : Int))) :
    (convert 38 9 (.slice (some ⟨B, off, none⟩) len cap)).run Tryd.prog w = .ok (.string (runesBytes ((p.take len).map fun (c : Nat) => (c : Int)))) w := by
  have := run_convert_runes (P := Tryd.prog) w 38 9 21 ⟨B, off, none⟩ len cap (p.map fun (c : Nat) => (c : Int)) (by rw [List.length_map]; exact hl) Tryd.underlying38 Tryd.underlying21 Tryd.underlying9 (fun j hj => by
    rw [List.length_map] at hj
    have e : (⟨B, off, none⟩ : Addr).add j = ⟨B, off + j, none⟩ := by unfold Addr.add; split <;> simp_all
    rw [e, hc j hj]
    congr 2
    rw [List.getD_eq_getElem?_getD, List.getD_eq_getElem?_getD, List.getElem?_map]
    cases p[j]? <;> rfl)
  rw [List.map_take]
  exact this
theorem conv_runes_cap (s : ByteArray) (w : World) (hs : s.size ≤ 4000) : ∃ (cap : Nat) (w' : World), (runesZ s).length ≤ cap ∧ (convert 9 38 (.string s)).run Tryd.prog w = .ok (.slice (some ⟨w.heap.size, 0, none⟩) (runesZ s).length cap) w' ∧ Below w.heap.size w w' ∧ w'.heap.size = w.heap.size + 1 ∧
    ∀ i c, (runesZ s)[i]? = some c → w'.cell? ⟨w.heap.size, i, none⟩ = some (.int .i32 c) := by
  obtain ⟨cap, w', h1, h2⟩ := conv_runes s w hs
  refine ⟨cap, w', ?_, h1, h2⟩
  have hl := runesZ_len s
  have hsz : (Conv.runesFrom s s.size 0 #[]).size = (runesZ s).length := by rw [runesFrom_eq]; simp
  have hrun := run_runes_of_string (P := Tryd.prog) w 9 38 21 s Tryd.underlying9 Tryd.underlying38 Tryd.underlying21 (by rw [hsz]; omega)
  rw [hsz, h1] at hrun
  injection hrun with h3 _
  injection h3 with _ _ h4
  rw [h4]
  exact grownCap_ge _ _ _ _
theorem one_cell (w : World) (a : ByteArray) (t : TypeId) : ∀ (j : Nat) s, [a][j]? = some s → (w.alloc (.cells #[.string a] t)).cell? ⟨w.heap.size, j, none⟩ = some (.string s) := by
  intro j s hj
  match j, hj with
  | 0, hj => cases hj; rw [cell_of_row _ _ 0 _ _ (0, 0) (heap_alloc_new _ _)]; rfl
  | n + 1, hj => simp at hj
set_option maxHeartbeats 8000000 in
set_option maxRecDepth 100000 in
theorem ignored_law (t s : ByteArray) (c : Int) (k : Nat) (w : World) (hg : GrC w) (hs9 : s.size ≤ 9223372036854775807) (hk : k < 256) :
    Calls Tryd.prog 4 #[.string t, .string s, .int .i32 c, .int .u8 (k : Int)] w fun e w' => e = .returned (.bool true) ∧ Below w.heap.size w w' := by
  obtain ⟨W1, hW1⟩ : ∃ W1, w.alloc (.cells #[.string s] 9) = W1 := ⟨_, rfl⟩
  have hb1 : Below w.heap.size w W1 := by rw [← hW1]; exact (Below.refl _ _).alloc (Nat.le_refl _) _
  have cL := light_any t w.heap.size 1 [s] rfl (by omega) W1 (by rw [← hW1]; exact one_cell w s _)
  have G : ∀ W, Below w.heap.size w W → GrC W := fun W hW => hg.later hW
  have cW : ∀ W, Below w.heap.size w W → Calls Tryd.prog 10 #[] W fun e w' => e = .returned (.bool true) ∧ Below w.heap.size w w' := fun W hW =>
    (works_any W (G W hW)).mono fun e w' ⟨h1, h2⟩ => ⟨h1, hW.trans (h2.mono hW.size)⟩
  cases hl : lightL t [s] with
  | false =>
    rw [hl] at cL
    go_enter Tryd.func4, Tryd.ntmps4
    go_wp2_with fail
    refine cL.mono ?_
    rintro e w2 ⟨rfl, rfl⟩
    go_wp2_with fail
    refine (cW w2 hb1).mono ?_
    rintro e w3 ⟨rfl, hb3⟩
    go_wp2_with fail
    go_ret
    exact ⟨rfl, hb3⟩
  | true =>
    rw [hl] at cL
    have hsz : s.size ≤ 200 ∧ t.size ≤ 2000 := by
      unfold lightL at hl
      simp at hl
      omega
    obtain ⟨hs2, ht2⟩ := hsz
    clear hl
    have cTs : ∀ W, Below w.heap.size w W → Calls Tryd.prog 16 #[.string s] W fun e w' => e = .returned (.bool (text s.data.toList)) ∧ Below w.heap.size w w' := fun W hW =>
      (isText_any s W hs9 (G W hW).gr).mono fun e w' ⟨h1, h2⟩ => ⟨h1, hW.trans (h2.mono hW.size)⟩
    cases ht : text s.data.toList with
    | false =>
      rw [ht] at cTs
      go_enter Tryd.func4, Tryd.ntmps4
      go_wp2_with fail
      refine cL.mono ?_
      rintro e w2 ⟨rfl, rfl⟩
      go_wp2_with fail
      refine (cTs w2 hb1).mono ?_
      rintro e w3 ⟨rfl, hb3⟩
      go_wp2_with fail
      refine (cW w3 hb3).mono ?_
      rintro e w4 ⟨rfl, hb4⟩
      go_wp2_with fail
      go_ret
      exact ⟨rfl, hb4⟩
    | true =>
      rw [ht] at cTs
      obtain ⟨n, hn1, hn2, hn3, _⟩ := enc_utf8 c
      have hesz := encode_size_le c
      obtain ⟨U, hU⟩ : ∃ U, Utf8.encode c = U := ⟨_, rfl⟩
      rw [hU] at hn3 hesz
      obtain ⟨J, hJ⟩ : ∃ J, (t ++ ⟨#[10, 105, 103, 110, 111, 114, 101, 32]⟩ ++ U : ByteArray) = J := ⟨_, rfl⟩
      have hJl : J.data.toList = t.data.toList ++ 10 :: ignLine U.data.toList := by rw [← hJ]; exact ign_line t U
      cases hp : parseL J.data.toList with
      | error x =>
        have hx0 := parse_wrong _ _ hp
        have hx1 : ((x.2 : Int) != 0) = true := by rw [bne_iff_ne]; omega
        have hx2 : ¬ (x.2 : Int) = 0 := by omega
        have cP := fun W hW => parse_bad J x.1 x.2 W hW hp
        clear hp hx0
        go_enter Tryd.func4, Tryd.ntmps4
        go_wp2_with fail
        refine cL.mono ?_
        rintro e w2 ⟨rfl, rfl⟩
        go_wp2_with fail
        refine (cTs w2 hb1).mono ?_
        rintro e w3 ⟨rfl, hb3⟩
        go_wp2_with fail
        refine (cP w3 (G _ hb3)).mono ?_
        rintro e w4 ⟨rfl, hb4⟩
        have hbw4 := hb3.trans (hb4.mono hb3.size)
        go_wp2_with fail
        refine (cW w4 hbw4).mono ?_
        rintro e w5 ⟨rfl, hb5⟩
        go_wp2_with fail
        go_ret
        exact ⟨rfl, hb5⟩
      | ok T =>
        have cP := fun W hW => parse_ok J T W hW hp
        have cN : ∀ W, Below w.heap.size w W → Calls Tryd.prog 17 #[.string U] W fun e w' => e = .returned (.int .i64 (if text U.data.toList then ((codes U.data.toList).length : Int) else 0)) ∧ Below w.heap.size w w' ∧ Below W.heap.size W w' := fun W hW =>
          (len_any U W (by omega) (G W hW).gr).mono fun e w' ⟨h1, h2⟩ => ⟨h1, hW.trans (h2.mono hW.size), h2⟩
        obtain ⟨LU, hLU⟩ : ∃ LU : Int, (if text U.data.toList then ((codes U.data.toList).length : Int) else 0) = LU := ⟨_, rfl⟩
        rw [hLU] at cN
        by_cases h1 : LU = 1
        · subst h1
          have hU2 : ∃ d : Nat, chr d = true ∧ U.data.toList = encodeRune (d : Int) := by
            split at hLU
            · rename_i hx
              have hone : (codes U.data.toList).length = 1 := by omega
              obtain ⟨d, hd⟩ := List.length_eq_one_iff.1 hone
              have hcd := text_chr _ hx d (by rw [hd]; simp)
              have hf := form_codes _ hx
              rw [hd, ← chr_form] at hf
              exact ⟨d, hcd, hf.symm⟩
            · cases hLU
          obtain ⟨d, hd, hUd⟩ := hU2
          rw [hJl, hUd, chr_form] at hp
          have hw0 := ign_parse t.data.toList d hd T (by rw [← size_eq]; exact ht2) hp
          obtain ⟨PP, hPP⟩ : ∃ P, codes s.data.toList = P := ⟨_, rfl⟩
          have hrz : runesZ s = PP.map fun (c : Nat) => (c : Int) := by rw [← hPP]; unfold runesZ codes; rw [List.map_map]; rfl
          have hPl : PP.length ≤ 200 := by rw [← hPP]; have := codes_len s.data.toList; rw [← size_eq] at this; omega
          have hPc : ∀ c ∈ PP, chr c = true := by rw [← hPP]; exact text_chr _ ht
          clear hn1 hn2 hn3 hLU hp hJl
          go_enter Tryd.func4, Tryd.ntmps4
          go_wp2_with fail
          refine cL.mono ?_
          rintro e w2 ⟨rfl, rfl⟩
          go_wp2_with fail
          refine (cTs w2 hb1).mono ?_
          rintro e w3 ⟨rfl, hb3⟩
          go_wp2_with fail
          refine (cP w3 (G _ hb3)).mono ?_
          rintro e w4 ⟨p, rfl, hT, hS, hb4⟩
          have hbw4 := hb3.trans (hb4.mono hb3.size)
          go_wp2_with fail
          refine (cN w4 hbw4).mono ?_
          rintro e w5 ⟨rfl, hbw5, hb45⟩
          have cR := conv_runes_cap s w5 (by omega)
          rw [hrz, List.length_map] at cR
          obtain ⟨cap, W6, hcap, hR, hb6, hz6, hcells⟩ := cR
          have hcell2 : ∀ i, i < PP.length → W6.cell? ⟨w5.heap.size, i, none⟩ = some (.int .i32 ((PP.getD i 0 : Nat) : Int)) := fun i hi => hcells i _ (by rw [List.getElem?_map, List.getD_eq_getElem?_getD]; rw [List.getElem?_eq_getElem hi]; rfl)
          have hbw6 := hbw5.trans (hb6.mono hbw5.size)
          obtain ⟨K, hK⟩ : ∃ K, k % (PP.length + 1) = K := ⟨_, rfl⟩
          have hKl : K ≤ PP.length := by rw [← hK]; have := Nat.mod_lt k (show PP.length + 1 > 0 by omega); omega
          have hKz : (k : Int) % ((PP.length : Int) + 1) = (K : Int) := by rw [← hK]; exact (Int.natCast_emod k (PP.length + 1)).symm
          have hC1 := runes_back w5.heap.size PP W6.drew 0 K cap hKl (fun i hi => by rw [Nat.zero_add]; exact hcell2 i hi)
          obtain ⟨B, hB⟩ : ∃ B, w5.heap.size = B := ⟨_, rfl⟩
          obtain ⟨S1, hS1⟩ : ∃ S, runesBytes ((PP.take K).map fun (c : Nat) => (c : Int)) = S := ⟨_, rfl⟩
          obtain ⟨S2, hS2⟩ : ∃ S, runesBytes ((PP.drop K).map fun (c : Nat) => (c : Int)) = S := ⟨_, rfl⟩
          have z1 := runesBytes_size_le ((PP.take K).map fun (c : Nat) => (c : Int))
          have z2 := runesBytes_size_le ((PP.drop K).map fun (c : Nat) => (c : Int))
          rw [hS1, List.length_map, List.length_take] at z1
          rw [hS2, List.length_map, List.length_drop] at z2
          have f1 := runesBytes_form (PP.take K) (fun c hc => hPc c (List.mem_of_mem_take hc))
          have f2 := runesBytes_form (PP.drop K) (fun c hc => hPc c (List.mem_of_mem_drop hc))
          rw [hS1] at hC1 f1
          rw [hS2] at f2
          clear cL cTs cP cN hW1 hcells
          have hWf : (S1 ++ U ++ S2 : ByteArray).data.toList = form (PP.take K ++ d :: PP.drop K) := by
            rw [ByteArray.data_append, Array.toList_append, ByteArray.data_append, Array.toList_append, f1, f2, hUd, form_append, form_cons, List.append_assoc]
          have hWc : ∀ x ∈ PP.take K ++ d :: PP.drop K, chr x = true := by
            intro x hx
            rcases List.mem_append.1 hx with hx | hx
            · exact hPc x (List.mem_of_mem_take hx)
            · rcases List.mem_cons.1 hx with rfl | hx
              · exact hd
              · exact hPc x (List.mem_of_mem_drop hx)
          have hWk : keyL T (S1 ++ U ++ S2 : ByteArray).data.toList = keyL T s.data.toList := by
            rw [hWf, key_text _ _ (text_form _ hWc), codes_form _ hWc, key_without T d hw0, List.take_append_drop, key_text _ _ ht, hPP]
          obtain ⟨hRk, hRl⟩ := key_replaced T d hd hw0 s.data.toList ht
          rw [← hUd] at hRk hRl
          have hUs : 1 ≤ U.size := by
            have := encode_len d
            rw [size_eq, hUd]; exact this.1
          have hWs : (S1 ++ U ++ S2 : ByteArray).size ≤ 1000000 := by rw [ByteArray.size_append, ByteArray.size_append]; omega
          have hT6 : TabAt W6 (.pointer (some ⟨p, 0, none⟩)) T := (hT.later hb45).later hb6
          have hbw7 := hbw6.drew
          have hT7 : TabAt W6.drew (.pointer (some ⟨p, 0, none⟩)) T := hT6.later (Below.refl _ _).drew
          have KY : ∀ W (x : ByteArray), x.size ≤ 1000000 → keyL T x.data.toList = keyL T s.data.toList → Below w.heap.size w W → TabAt W (.pointer (some ⟨p, 0, none⟩)) T → Calls Tryd.prog 15 #[.pointer (some ⟨p, 0, none⟩), .string x] W fun e w' => ∃ u, e = .returned u ∧ BytesV w' u (keyL T s.data.toList) ∧ Below W.heap.size W w' := fun W x hx hk hW hT => by
            have := key_any (.pointer (some ⟨p, 0, none⟩)) x T W (G W hW).gr hx hT hS
            rwa [hk] at this
          have k1 := fun W hW hT => KY W _ hWs hWk hW hT
          have k2 := fun W hW hT => KY W s (by omega) rfl hW hT
          have hRs : (⟨(Lib.replaceAll s.data.toList U.data.toList []).toArray⟩ : ByteArray).size ≤ 1000000 := by
            show (Lib.replaceAll s.data.toList U.data.toList []).toArray.size ≤ _
            rw [List.size_toArray]
            have := size_eq s
            omega
          have k3 := fun W hW hT => KY W ⟨(Lib.replaceAll s.data.toList U.data.toList []).toArray⟩ hRs hRk hW hT
          have cRep : ∀ W, Below w.heap.size w W → Calls Tryd.prog 19 #[.string s, .string U, .string ⟨#[]⟩] W fun e w' => e = .returned (.string ⟨(Lib.replaceAll s.data.toList U.data.toList []).toArray⟩) ∧ Below W.heap.size W w' := fun W hW => by
            obtain ⟨m, hm⟩ := (G W hW).gr.2
            exact Tryd.strings_ReplaceAll s U ⟨#[]⟩ m W (by omega) hm hUs (by show s.size + _ * 0 ≤ _; omega)
          clear KY hWf hWc hWk hRk hUd hw0 hPc hrz hPP f1 f2 hS1
          by_cases hcK : cap = K
          · subst hcK
            have hlen0 : PP.length - cap = 0 := by omega
            have hC2 := runes_back w5.heap.size PP W6.drew 0 (PP.length - cap) 0 (by omega) (fun i hi => by rw [Nat.zero_add]; exact hcell2 i hi)
            rw [show PP.take (PP.length - cap) = PP.drop cap by rw [hlen0, List.take_zero, List.drop_eq_nil_of_le (by omega)], hS2, hlen0] at hC2
            rw [hB] at hC1 hC2 hR
            clear hcell2 hB
            go_wp2_with fail
            go_region
            all_goals
              go_wp2_with fail
              refine (k1 _ hbw7 hT7).mono ?_
              rintro e w8 ⟨v1, rfl, V1, hb8⟩
              have hbw8 := hbw7.trans (hb8.mono hbw7.size)
              have hT8 := hT7.later hb8
              go_wp2_with fail
              refine (k2 w8 hbw8 hT8).mono ?_
              rintro e w9 ⟨v2, rfl, V2, hb9⟩
              have hbw9 := hbw8.trans (hb9.mono hbw8.size)
              have hT9 := hT8.later hb9
              have cE1 := bytesEqual_any v1 v2 _ _ w9 (V1.later hb9) V2
              rw [decide_eq_true rfl] at cE1
              go_wp2_with fail
              refine cE1.mono ?_
              rintro e w9' ⟨rfl, rfl⟩
              go_wp2_with fail
              refine (cRep w9 hbw9).mono ?_
              rintro e w10 ⟨rfl, hb10⟩
              have hbw10 := hbw9.trans (hb10.mono hbw9.size)
              have hT10 := hT9.later hb10
              go_wp2_with fail
              refine (k3 w10 hbw10 hT10).mono ?_
              rintro e w11 ⟨v3, rfl, V3, hb11⟩
              have hbw11 := hbw10.trans (hb11.mono hbw10.size)
              have hT11 := hT10.later hb11
              go_wp2_with fail
              refine (k2 w11 hbw11 hT11).mono ?_
              rintro e w12 ⟨v4, rfl, V4, hb12⟩
              have hbw12 := hbw11.trans (hb12.mono hbw11.size)
              have cE2 := bytesEqual_any v3 v4 _ _ w12 (V3.later hb12) V4
              rw [decide_eq_true rfl] at cE2
              go_wp2_with fail
              refine cE2.mono ?_
              rintro e w12' ⟨rfl, rfl⟩
              go_wp2_with fail
              refine (cW w12 hbw12).mono ?_
              rintro e w13 ⟨rfl, hb13⟩
              go_wp2_with fail
              go_ret
              exact ⟨rfl, hb13⟩
          · have hKc : K ≤ cap := by omega
            have hC2 := runes_back w5.heap.size (PP.drop K) W6.drew K (PP.length - K) (cap - K) (by rw [List.length_drop]; omega) (fun i hi => by
              rw [List.length_drop] at hi
              have : W6.drew.cell? ⟨w5.heap.size, K + i, none⟩ = _ := hcell2 (K + i) (by omega)
              rw [this]
              congr 2
              rw [List.getD_eq_getElem?_getD, List.getD_eq_getElem?_getD, List.getElem?_drop])
            rw [List.take_of_length_le (by rw [List.length_drop]; omega), hS2] at hC2
            rw [hB] at hC1 hC2 hR
            clear hcell2 hB
            go_wp2_with fail
            go_region
            all_goals
              go_wp2_with fail
              refine (k1 _ hbw7 hT7).mono ?_
              rintro e w8 ⟨v1, rfl, V1, hb8⟩
              have hbw8 := hbw7.trans (hb8.mono hbw7.size)
              have hT8 := hT7.later hb8
              go_wp2_with fail
              refine (k2 w8 hbw8 hT8).mono ?_
              rintro e w9 ⟨v2, rfl, V2, hb9⟩
              have hbw9 := hbw8.trans (hb9.mono hbw8.size)
              have hT9 := hT8.later hb9
              have cE1 := bytesEqual_any v1 v2 _ _ w9 (V1.later hb9) V2
              rw [decide_eq_true rfl] at cE1
              go_wp2_with fail
              refine cE1.mono ?_
              rintro e w9' ⟨rfl, rfl⟩
              go_wp2_with fail
              refine (cRep w9 hbw9).mono ?_
              rintro e w10 ⟨rfl, hb10⟩
              have hbw10 := hbw9.trans (hb10.mono hbw9.size)
              have hT10 := hT9.later hb10
              go_wp2_with fail
              refine (k3 w10 hbw10 hT10).mono ?_
              rintro e w11 ⟨v3, rfl, V3, hb11⟩
              have hbw11 := hbw10.trans (hb11.mono hbw10.size)
              have hT11 := hT10.later hb11
              go_wp2_with fail
              refine (k2 w11 hbw11 hT11).mono ?_
              rintro e w12 ⟨v4, rfl, V4, hb12⟩
              have hbw12 := hbw11.trans (hb12.mono hbw11.size)
              have cE2 := bytesEqual_any v3 v4 _ _ w12 (V3.later hb12) V4
              rw [decide_eq_true rfl] at cE2
              go_wp2_with fail
              refine cE2.mono ?_
              rintro e w12' ⟨rfl, rfl⟩
              go_wp2_with fail
              refine (cW w12 hbw12).mono ?_
              rintro e w13 ⟨rfl, hb13⟩
              go_wp2_with fail
              go_ret
              exact ⟨rfl, hb13⟩
        · have h2 : (LU == 1) = false := by rw [beq_eq_false_iff_ne]; exact h1
          clear hp
          go_enter Tryd.func4, Tryd.ntmps4
          go_wp2_with fail
          refine cL.mono ?_
          rintro e w2 ⟨rfl, rfl⟩
          go_wp2_with fail
          refine (cTs w2 hb1).mono ?_
          rintro e w3 ⟨rfl, hb3⟩
          go_wp2_with fail
          refine (cP w3 (G _ hb3)).mono ?_
          rintro e w4 ⟨p, rfl, _, _, hb4⟩
          have hbw4 := hb3.trans (hb4.mono hb3.size)
          go_wp2_with fail
          refine (cN w4 hbw4).mono ?_
          rintro e w5 ⟨rfl, hbw5, _⟩
          go_wp2_with fail
          refine (cW w5 hbw5).mono ?_
          rintro e w6 ⟨rfl, hb6⟩
          go_wp2_with fail
          go_ret
          exact ⟨rfl, hb6⟩
end Go.Proofs.YtgjjmapfdijphaaDoor
