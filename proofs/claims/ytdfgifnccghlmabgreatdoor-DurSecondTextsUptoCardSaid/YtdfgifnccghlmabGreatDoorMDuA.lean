/- Durations: the contracts of isDigits, part. Durations: the contract of cutPart. Durations: rows of texts. Durations: the contracts of split and sum. -/
import Derived.Test.YtdfgifnccghlmabGreatDoorMDuPure
import Derived.Test.YtdfgifnccghlmabGreatDoorMShelfDu
import Derived.Test.YtdfgifnccghlmabGreatDoorMNuB
import Derived.Test.YtdfgifnccghlmabGreatDoorMNuF
import Derived.Test.YtdfgifnccghlmabGreatDoorMNuUse
namespace Go.Proofs.YtdfgifnccghlmabGreatDoor
open Go.RowKit Go.Lib

theorem set_zero (w : World) : (zeroValue 139).run Tryz.prog w = .ok (.agg (Array.replicate 256 (.bool false))) w :=
  (Tryz.zeroValue139 w).trans (by rw [show Tryz.zeroCells139 = Array.replicate 256 (.bool false) by kernel_rfl])
theorem trim_set (s : ByteArray) (w : World) (hs : s.size ≤ 1000000) :
    Calls Tryz.prog 126 #[.string s, .string ⟨#[48, 49, 50, 51, 52, 53, 54, 55, 56, 57]⟩] w fun e w' => e = .returned (.string ⟨(Lib.trimS s.data.toList [48, 49, 50, 51, 52, 53, 54, 55, 56, 57]).toArray⟩) ∧ Below w.heap.size w w' :=
  Any.strings_Trim_ascii Tryz.lays160 set_zero (by kernel_rfl) s ⟨#[48, 49, 50, 51, 52, 53, 54, 55, 56, 57]⟩ w (by omega) (by decide) (fun j b h => by
    have := List.mem_of_getElem? h
    simp at this
    rcases this with rfl | rfl | rfl | rfl | rfl | rfl | rfl | rfl | rfl | rfl <;> decide)
set_option maxRecDepth 100000 in
set_option maxHeartbeats 4000000 in
theorem isDigits_du (s : ByteArray) (w : World) (hs : s.size ≤ 1000000) :
    Calls Tryz.prog 84 #[.string s] w fun e w' => e = .returned (.bool (dgs1 s.data.toList)) ∧ Below w.heap.size w w' := by
  have tl : s.toList = s.data.toList := ByteArray.toList_eq s
  have cT := trim_set s w hs
  have hv : dgs1 s.data.toList = (!s.data.toList.isEmpty && s.data.toList.all isDg) := rfl
  by_cases h0 : s.data.toList = []
  · have HV := Lib.hid (show dgs1 s.data.toList = false by rw [hv, h0]; rfl)
    have k1 : (s.toList == []) = true := by rw [tl, h0]; rfl
    have k2 : s.toList.isEmpty = true := by rw [tl, h0]; rfl
    have k3 : s.toList = [] := by rw [tl, h0]
    rw [HV.out]
    clear hv h0 tl cT HV
    go_enter Tryz.func84, Tryz.ntmps84
    go_wp2_with fail
    go_ret
    exact ⟨rfl, Below.refl _ _⟩
  · have k1 : (s.toList == []) = false := by rw [tl]; exact beq_eq_false_iff_ne.2 h0
    have k2 : s.toList.isEmpty = false := by rw [tl]; simpa using h0
    have k3 : ¬ s.toList = [] := by rw [tl]; exact h0
    obtain ⟨T, hT⟩ : ∃ T : ByteArray, (⟨(Lib.trimS s.data.toList [48, 49, 50, 51, 52, 53, 54, 55, 56, 57]).toArray⟩ : ByteArray) = T := ⟨_, rfl⟩
    have hTl : T.toList = Lib.trimS s.data.toList [48, 49, 50, 51, 52, 53, 54, 55, 56, 57] := by rw [← hT, ByteArray.toList_eq]
    rw [hT] at cT
    by_cases h1 : s.data.toList.all isDg = true
    · have HV := Lib.hid (show dgs1 s.data.toList = true by rw [hv, h1]; simpa using h0)
      rw [(trimS_digits _).2 h1] at hTl
      have j1 : (T.toList == []) = true := by rw [hTl]; rfl
      have j2 : T.toList.isEmpty = true := by rw [hTl]; rfl
      rw [HV.out]
      clear hv h0 tl hT h1 HV
      go_enter Tryz.func84, Tryz.ntmps84
      go_wp2_with fail
      refine cT.mono ?_
      rintro e w1 ⟨rfl, hb⟩
      go_wp2_with fail
      go_ret
      exact ⟨rfl, hb⟩
    · have HV := Lib.hid (show dgs1 s.data.toList = false by rw [hv]; simp [h1])
      have hne : ¬ T.toList = [] := by rw [hTl]; exact fun h => h1 ((trimS_digits _).1 h)
      have j1 : (T.toList == []) = false := beq_eq_false_iff_ne.2 hne
      have j2 : T.toList.isEmpty = false := by simpa using hne
      rw [HV.out]
      clear hv h0 tl hT h1 HV hTl
      go_enter Tryz.func84, Tryz.ntmps84
      go_wp2_with fail
      refine cT.mono ?_
      rintro e w1 ⟨rfl, hb⟩
      go_wp2_with fail
      go_ret
      exact ⟨rfl, hb⟩
set_option maxRecDepth 100000 in
set_option maxHeartbeats 4000000 in
theorem part_du (n c : ByteArray) (w : World) (hn : n.size ≤ 100000) (hc : c.size ≤ 100000) :
    Calls Tryz.prog 33 #[.string n, .string c] w fun e w' => e = .returned (.string (if n.data.toList = [48] then ⟨#[]⟩ else n ++ c)) ∧ w' = w := by
  have tl : n.toList = n.data.toList := ByteArray.toList_eq n
  by_cases h : n.data.toList = [48]
  · rw [if_pos h]
    have k1 : (n.toList == [48]) = true := by rw [tl, h]; rfl
    clear h tl
    go_enter Tryz.func33, Tryz.ntmps33
    go_wp2_with fail
    go_ret
    exact ⟨rfl, rfl⟩
  · rw [if_neg h]
    have k1 : (n.toList == [48]) = false := by rw [tl]; exact beq_eq_false_iff_ne.2 h
    obtain ⟨J, hJ⟩ : ∃ J, n ++ c = J := ⟨_, rfl⟩
    rw [hJ]
    clear h tl
    go_enter Tryz.func33, Tryz.ntmps33
    go_wp2_with fail
    go_ret
    exact ⟨rfl, rfl⟩
end Go.Proofs.YtdfgifnccghlmabGreatDoor
namespace Go.Proofs.YtdfgifnccghlmabGreatDoor
open Go.RowKit Go.Lib

/-- What cutPart gives. -/
def cutV (r : Option (List UInt8 × List UInt8)) : Value := match r with
  | some x => .tuple #[.string ⟨x.1.toArray⟩, .string ⟨x.2.toArray⟩, .bool true]
  | none => .tuple #[.string ⟨#[]⟩, .string ⟨#[]⟩, .bool false]
theorem ba_ex (l : List UInt8) : ∃ s : ByteArray, (⟨l.toArray⟩ : ByteArray) = s ∧ s.data.toList = l := ⟨_, rfl, rfl⟩
theorem ba_size (s : ByteArray) : s.size = s.data.toList.length := by rw [Array.length_toList]; rfl
set_option maxRecDepth 100000 in
set_option maxHeartbeats 8000000 in
theorem cutPart_du (s L : ByteArray) (c : UInt8) (hL : L.data.toList = [c]) (hs : s.size ≤ 1000) (w : World) (m : Int) (hm : w.cell? ⟨3, 0, none⟩ = some (.int .i64 m)) :
    Calls Tryz.prog 51 #[.string s, .string L] w fun e w' => e = .returned (cutV (partL c s.data.toList)) ∧ Below w.heap.size w w' := by
  have hlen := splitC_len c s.data.toList
  have hsz := ba_size s
  have hp : partL c s.data.toList = if ((splitC c s.data.toList).2.2 && dgs1 (dotL (splitC c s.data.toList).1).1 && (!(dotL (splitC c s.data.toList).1).2.2 || (decide (c = 83) && dgs1 (dotL (splitC c s.data.toList).1).2.1))) = true then some ((splitC c s.data.toList).1, (splitC c s.data.toList).2.1) else none := rfl
  have c1 := Tryz.strings_Cut s L m w (by omega) hm
  rw [hL, cut_byte] at c1
  obtain ⟨P, hP, hPl⟩ := ba_ex (splitC c s.data.toList).1
  obtain ⟨R, hR, hRl⟩ := ba_ex (splitC c s.data.toList).2.1
  obtain ⟨ok, hok⟩ : ∃ b, (splitC c s.data.toList).2.2 = b := ⟨_, rfl⟩
  rw [hP, hR, hok] at c1
  rw [← hPl, ← hRl, hok] at hp
  have hPs : P.size ≤ 1000 := by rw [ba_size, hPl]; omega
  have c2 := fun W (hW : Below w.heap.size w W) => Tryz.strings_Cut P ⟨#[46]⟩ m W (by omega) ((hW.cell (p := ⟨3, 0, none⟩) (lt_of_cell hm)).trans hm)
  rw [show (⟨#[46]⟩ : ByteArray).data.toList = [46] from rfl, cut_byte, splitC_dot] at c2
  have hlen2 := splitC_len 46 P.data.toList
  rw [splitC_dot] at hlen2
  obtain ⟨A, hA, hAl⟩ := ba_ex (dotL P.data.toList).1
  obtain ⟨F, hF, hFl⟩ := ba_ex (dotL P.data.toList).2.1
  obtain ⟨pt, hpt⟩ : ∃ b, (dotL P.data.toList).2.2 = b := ⟨_, rfl⟩
  rw [hA, hF, hpt] at c2
  rw [← hAl, ← hFl, hpt] at hp
  have hPz := ba_size P
  have cA := fun W => isDigits_du A W (by rw [ba_size, hAl]; omega)
  have cF := fun W => isDigits_du F W (by rw [ba_size, hFl]; omega)
  obtain ⟨dA, hdA⟩ : ∃ b, dgs1 A.data.toList = b := ⟨_, rfl⟩
  obtain ⟨dF, hdF⟩ : ∃ b, dgs1 F.data.toList = b := ⟨_, rfl⟩
  rw [hdA] at cA hp
  rw [hdF] at cF hp
  have tl : L.toList = [c] := by rw [ByteArray.toList_eq, hL]
  have kc : (L.toList == [83]) = decide (c = 83) := by rw [tl]; by_cases h : c = 83 <;> simp [h]
  have ePR : cutV (some (P.data.toList, R.data.toList)) = .tuple #[.string P, .string R, .bool true] := rfl
  have ER := Lib.hid ePR
  have HP := Lib.hid hp
  obtain ⟨V, hV⟩ : ∃ v, cutV (partL c s.data.toList) = v := ⟨_, rfl⟩
  rw [hV]
  have HV := Lib.hid hV
  clear hlen hsz hP hPl hR hRl hok hPs hlen2 hA hAl hF hFl hpt hPz hdA hdF tl ePR hp hm hL hV
  have e0 : cutV none = .tuple #[.string ⟨#[]⟩, .string ⟨#[]⟩, .bool false] := rfl
  have E0 := Lib.hid e0
  clear e0
  cases ok with
  | false =>
    have hv := Lib.hid (show V = .tuple #[.string ⟨#[]⟩, .string ⟨#[]⟩, .bool false] by rw [← HV.out, HP.out]; simp [E0.out])
    rw [hv.out]
    clear kc
    go_enter Tryz.func51, Tryz.ntmps51
    go_wp2_with fail
    refine c1.mono ?_
    rintro e w1 ⟨rfl, n1, rfl⟩
    have b1 : Below w.heap.size w (w.drewN n1) := below_drewN (Below.refl _ _) n1
    generalize w.drewN n1 = W1 at b1 ⊢
    have c3 := c2 _ b1
    clear c2 c1
    go_wp2_with fail
    refine c3.mono ?_
    rintro e w2 ⟨rfl, n2, rfl⟩
    have b2 := below_drewN b1 n2
    generalize W1.drewN n2 = W2 at b2 ⊢
    go_wp2_with fail
    exact bodyPost_ret (v := .tuple #[.string ⟨#[]⟩, .string ⟨#[]⟩, .bool false]) (by simp [results, Tryz.results51, go_sem]) rfl ⟨rfl, b2⟩
  | true =>
    cases dA with
    | false =>
      have hv := Lib.hid (show V = .tuple #[.string ⟨#[]⟩, .string ⟨#[]⟩, .bool false] by rw [← HV.out, HP.out]; simp [E0.out])
      rw [hv.out]
      clear kc
      go_enter Tryz.func51, Tryz.ntmps51
      go_wp2_with fail
      refine c1.mono ?_
      rintro e w1 ⟨rfl, n1, rfl⟩
      have b1 : Below w.heap.size w (w.drewN n1) := below_drewN (Below.refl _ _) n1
      generalize w.drewN n1 = W1 at b1 ⊢
      have c3 := c2 _ b1
      clear c2 c1
      go_wp2_with fail
      refine c3.mono ?_
      rintro e w2 ⟨rfl, n2, rfl⟩
      have b2 := below_drewN b1 n2
      generalize W1.drewN n2 = W2 at b2 ⊢
      have c4 := cA W2
      go_wp2_with fail
      refine c4.mono ?_
      rintro e w3 ⟨rfl, b3⟩
      go_wp2_with fail
      exact bodyPost_ret (v := .tuple #[.string ⟨#[]⟩, .string ⟨#[]⟩, .bool false]) (by simp [results, Tryz.results51, go_sem]) rfl ⟨rfl, b2.trans (b3.mono b2.size)⟩
    | true =>
      cases pt with
      | false =>
        have hv := Lib.hid (show V = .tuple #[.string P, .string R, .bool true] by rw [← HV.out, HP.out]; simp [ER.out])
        rw [hv.out]
        clear kc
        go_enter Tryz.func51, Tryz.ntmps51
        go_wp2_with fail
        refine c1.mono ?_
        rintro e w1 ⟨rfl, n1, rfl⟩
        have b1 : Below w.heap.size w (w.drewN n1) := below_drewN (Below.refl _ _) n1
        generalize w.drewN n1 = W1 at b1 ⊢
        have c3 := c2 _ b1
        clear c2 c1
        go_wp2_with fail
        refine c3.mono ?_
        rintro e w2 ⟨rfl, n2, rfl⟩
        have b2 := below_drewN b1 n2
        generalize W1.drewN n2 = W2 at b2 ⊢
        have c4 := cA W2
        go_wp2_with fail
        refine c4.mono ?_
        rintro e w3 ⟨rfl, b3⟩
        go_wp2_with fail
        exact bodyPost_ret (v := .tuple #[.string P, .string R, .bool true]) (by simp [results, Tryz.results51, go_sem]) rfl ⟨rfl, b2.trans (b3.mono b2.size)⟩
      | true =>
        by_cases h83 : c = 83
        · rw [decide_eq_true h83] at kc
          have H83 := Lib.hid h83
          clear h83
          cases dF with
          | false =>
            have hv := Lib.hid (show V = .tuple #[.string ⟨#[]⟩, .string ⟨#[]⟩, .bool false] by rw [← HV.out, HP.out]; simp [E0.out])
            rw [hv.out]
            go_enter Tryz.func51, Tryz.ntmps51
            go_wp2_with fail
            refine c1.mono ?_
            rintro e w1 ⟨rfl, n1, rfl⟩
            have b1 : Below w.heap.size w (w.drewN n1) := below_drewN (Below.refl _ _) n1
            generalize w.drewN n1 = W1 at b1 ⊢
            have c3 := c2 _ b1
            clear c2 c1
            go_wp2_with fail
            refine c3.mono ?_
            rintro e w2 ⟨rfl, n2, rfl⟩
            have b2 := below_drewN b1 n2
            generalize W1.drewN n2 = W2 at b2 ⊢
            have c4 := cA W2
            go_wp2_with fail
            refine c4.mono ?_
            rintro e w3 ⟨rfl, b3⟩
            have c5 := cF w3
            go_wp2_with fail
            refine c5.mono ?_
            rintro e w4 ⟨rfl, b4⟩
            go_wp2_with fail
            exact bodyPost_ret (v := .tuple #[.string ⟨#[]⟩, .string ⟨#[]⟩, .bool false]) (by simp [results, Tryz.results51, go_sem]) rfl ⟨rfl, (b2.trans (b3.mono b2.size)).trans (b4.mono (Nat.le_trans b2.size b3.size))⟩
          | true =>
            have hv := Lib.hid (show V = .tuple #[.string P, .string R, .bool true] by rw [← HV.out, HP.out]; simp [ER.out, H83.out])
            rw [hv.out]
            go_enter Tryz.func51, Tryz.ntmps51
            go_wp2_with fail
            refine c1.mono ?_
            rintro e w1 ⟨rfl, n1, rfl⟩
            have b1 : Below w.heap.size w (w.drewN n1) := below_drewN (Below.refl _ _) n1
            generalize w.drewN n1 = W1 at b1 ⊢
            have c3 := c2 _ b1
            clear c2 c1
            go_wp2_with fail
            refine c3.mono ?_
            rintro e w2 ⟨rfl, n2, rfl⟩
            have b2 := below_drewN b1 n2
            generalize W1.drewN n2 = W2 at b2 ⊢
            have c4 := cA W2
            go_wp2_with fail
            refine c4.mono ?_
            rintro e w3 ⟨rfl, b3⟩
            have c5 := cF w3
            go_wp2_with fail
            refine c5.mono ?_
            rintro e w4 ⟨rfl, b4⟩
            go_wp2_with fail
            exact bodyPost_ret (v := .tuple #[.string P, .string R, .bool true]) (by simp [results, Tryz.results51, go_sem]) rfl ⟨rfl, (b2.trans (b3.mono b2.size)).trans (b4.mono (Nat.le_trans b2.size b3.size))⟩
        · rw [decide_eq_false h83] at kc
          have hv := Lib.hid (show V = .tuple #[.string ⟨#[]⟩, .string ⟨#[]⟩, .bool false] by rw [← HV.out, HP.out]; simp [E0.out, h83])
          rw [hv.out]
          clear h83
          go_enter Tryz.func51, Tryz.ntmps51
          go_wp2_with fail
          refine c1.mono ?_
          rintro e w1 ⟨rfl, n1, rfl⟩
          have b1 : Below w.heap.size w (w.drewN n1) := below_drewN (Below.refl _ _) n1
          generalize w.drewN n1 = W1 at b1 ⊢
          have c3 := c2 _ b1
          clear c2 c1
          go_wp2_with fail
          refine c3.mono ?_
          rintro e w2 ⟨rfl, n2, rfl⟩
          have b2 := below_drewN b1 n2
          generalize W1.drewN n2 = W2 at b2 ⊢
          have c4 := cA W2
          go_wp2_with fail
          refine c4.mono ?_
          rintro e w3 ⟨rfl, b3⟩
          go_wp2_with fail
          exact bodyPost_ret (v := .tuple #[.string ⟨#[]⟩, .string ⟨#[]⟩, .bool false]) (by simp [results, Tryz.results51, go_sem]) rfl ⟨rfl, b2.trans (b3.mono b2.size)⟩
end Go.Proofs.YtdfgifnccghlmabGreatDoor
namespace Go.Proofs.YtdfgifnccghlmabGreatDoor
open Go.RowKit Go.Lib

/-- A value is a slice of these texts. -/
def Strs (w : World) (v : Value) (l : List (List UInt8)) : Prop :=
  (l = [] ∧ ∃ a cap, v = .slice a 0 cap) ∨ ∃ b off cap, v = .slice (some ⟨b, off, none⟩) l.length cap ∧ l.length ≤ cap ∧ ∀ j, j < l.length → w.cell? ⟨b, off + j, none⟩ = some (.string ⟨(l.getD j []).toArray⟩)
theorem Strs.later {w w' : World} {v : Value} {l : List (List UInt8)} (h : Strs w v l) (hb : Below w.heap.size w w') : Strs w' v l := by
  rcases h with h | ⟨b, off, cap, rfl, hc, h⟩
  · exact .inl h
  · exact .inr ⟨b, off, cap, rfl, hc, fun j hj => (hb.cell (p := ⟨b, off + j, none⟩) (lt_of_cell (h j hj))).trans (h j hj)⟩
theorem Strs.shape {w : World} {v : Value} {l : List (List UInt8)} (h : Strs w v l) : ∃ a cap, v = .slice a l.length cap := by
  rcases h with ⟨rfl, a, cap, rfl⟩ | ⟨b, off, cap, rfl, _, _⟩
  · exact ⟨a, cap, rfl⟩
  · exact ⟨_, cap, rfl⟩
theorem Strs.at {w : World} {a : Option Addr} {n cap : Nat} {l : List (List UInt8)} (h : Strs w (.slice a n cap) l) (j : Nat) (hj : j < l.length) : ∃ b off, a = some ⟨b, off, none⟩ ∧ w.cell? ⟨b, off + j, none⟩ = some (.string ⟨(l.getD j []).toArray⟩) := by
  rcases h with ⟨rfl, _⟩ | ⟨b, off, cap', heq, hc, h⟩
  · simp at hj
  · injection heq with h1 h2 h3
    exact ⟨b, off, h1, h j hj⟩
end Go.Proofs.YtdfgifnccghlmabGreatDoor
namespace Go.Proofs.YtdfgifnccghlmabGreatDoor
open Go.RowKit Go.Lib

set_option maxRecDepth 100000 in
set_option maxHeartbeats 4000000 in
theorem split_du (n u q r : ByteArray) (zq zr : Int) (hn : n.size ≤ 1000) (hu : u.size ≤ 1000) (hq : idivR n.data.toList u.data.toList = (q.data.toList, zq)) (hr : modR n.data.toList u.data.toList = (r.data.toList, zr)) (w : World) (hg : GrN w) :
    Calls Tryz.prog 38 #[.string n, .string u] w fun e w' => e = .returned (.tuple #[.string q, .string r]) ∧ Below w.heap.size w w' := by
  have c1 := (idiv_on hg n u q zq (by omega) (by omega) hq).use
  have c2 := (mod_on hg n u r zr (by omega) (by omega) hr).use
  clear hg hq hr hn hu
  go_enter Tryz.func38, Tryz.ntmps38
  go_wp2_with fail
  refine (c1 w (Below.refl _ _)).mono ?_
  rintro e w1 ⟨rfl, b1⟩
  go_wp2_with fail
  refine (c2 w1 b1).mono ?_
  rintro e w2 ⟨rfl, b2⟩
  go_wp2_with fail
  go_ret2
  exact ⟨rfl, b2⟩
theorem sumR_step (below : Bool) (t n u : List UInt8) (ns us : List (List UInt8)) : sumR below t (n :: ns) (u :: us) =
    if (readR n).2 ≠ 0 then ([], (readR n).2)
    else if (mulR (readR n).1 u).2 ≠ 0 then ([], (mulR (readR n).1 u).2)
    else if (addR t (mulR (readR n).1 u).1).2 ≠ 0 then ([], (addR t (mulR (readR n).1 u).1).2)
    else sumR below (addR t (mulR (readR n).1 u).1).1 ns us := rfl
theorem sumR_end (below : Bool) (t : List UInt8) (ns : List (List UInt8)) : sumR below t ns [] = if below = true then negR t else (t, 0) := by
  cases ns <;> rfl
theorem drop_getD (l : List (List UInt8)) (i : Nat) (hi : i < l.length) : l.drop i = l.getD i [] :: l.drop (i + 1) := by
  rw [List.drop_eq_getElem_cons hi, List.getD_eq_getElem?_getD, List.getElem?_eq_getElem hi]; rfl
set_option maxRecDepth 100000 in
set_option maxHeartbeats 8000000 in
theorem sum_du (below : Bool) (v1 v2 : Value) (ns us : List (List UInt8)) (hlen : ns.length = us.length) (hu9 : us.length ≤ 10) (hnz : ∀ l ∈ ns, l.length ≤ 1000) (huz : ∀ l ∈ us, l.length ≤ 1000) (w : World) (hg : GrN w) (h1 : Strs w v1 ns) (h2 : Strs w v2 us) :
    Calls Tryz.prog 26 #[.bool below, v1, v2] w fun e w' => e = .returned (resV (sumR below [48] ns us)) ∧ Below w.heap.size w w' := by
  obtain ⟨a1, cap1, rfl⟩ := h1.shape
  obtain ⟨a2, cap2, rfl⟩ := h2.shape
  have H1 := Lib.hid h1
  have H2 := Lib.hid h2
  have HG := Lib.hid hg
  have HN := Lib.hid hnz
  have HU := Lib.hid huz
  obtain ⟨R, hR⟩ : ∃ R, sumR below [48] ns us = R := ⟨_, rfl⟩
  rw [hR]
  have HR := Lib.hid (show sumR below (⟨#[48]⟩ : ByteArray).data.toList (ns.drop 0) (us.drop 0) = R by rw [List.drop_zero, List.drop_zero]; exact hR)
  obtain ⟨l1, hl1⟩ : ∃ l, us.length = l := ⟨_, rfl⟩
  rw [hlen, hl1]
  rw [hl1] at hu9
  have HL := Lib.hid (And.intro hlen hl1)
  clear h1 h2 hg hnz huz hR hlen hl1
  go_enter Tryz.func26, Tryz.ntmps26
  go_wp2_with fail
  go_loopg [8, 15] l1 (fun g s8 s15 wx => ∃ (i : Nat) (T : ByteArray), s15 = .int .i64 i ∧ i + g = l1 ∧ s8 = .string T ∧ T.size ≤ 100 ∧ Hid (sumR below T.data.toList (ns.drop i) (us.drop i) = R) ∧ Below w.heap.size w wx)
  case atStart => exact ⟨0, ⟨#[48]⟩, rfl, by omega, rfl, by decide, HR, Below.refl _ _⟩
  case round =>
    clear HR
    obtain ⟨i, T, rfl, hig, rfl, hTs, HK, hbx⟩ := hrel
    by_cases hlt : i < l1
    · obtain ⟨g, rfl⟩ : ∃ g, gk = g + 1 := ⟨gk - 1, by omega⟩
      have hil : (i : Int) < (l1 : Int) := by omega
      have hi1 : i < ns.length := by rw [HL.out.1, HL.out.2]; exact hlt
      have hi2 : i < us.length := by rw [HL.out.2]; exact hlt
      obtain ⟨b1, o1, rfl, d1⟩ := H1.out.at i hi1
      obtain ⟨b2, o2, rfl, d2⟩ := H2.out.at i hi2
      have x1 := (hbx.cell (p := ⟨b1, o1 + i, none⟩) (lt_of_cell d1)).trans d1
      have x2 := (hbx.cell (p := ⟨b2, o2 + i, none⟩) (lt_of_cell d2)).trans d2
      have hk := HK.out
      rw [drop_getD ns i hi1, drop_getD us i hi2, sumR_step] at hk
      have hnl : (ns.getD i []).length ≤ 1000 := HN.out _ (by rw [List.getD_eq_getElem?_getD, List.getElem?_eq_getElem hi1]; exact List.getElem_mem hi1)
      have hul : (us.getD i []).length ≤ 1000 := HU.out _ (by rw [List.getD_eq_getElem?_getD, List.getElem?_eq_getElem hi2]; exact List.getElem_mem hi2)
      obtain ⟨NB, hNB, hNl⟩ := ba_ex (ns.getD i [])
      obtain ⟨UB, hUB, hUl⟩ := ba_ex (us.getD i [])
      rw [hNB] at x1
      rw [hUB] at x2
      rw [← hNl, ← hUl] at hk
      have hNs : NB.size ≤ 1000 := by rw [ba_size, hNl]; exact hnl
      have hUs : UB.size ≤ 1000 := by rw [ba_size, hUl]; exact hul
      obtain ⟨PA, za, hpa⟩ := res_ex (readR NB.data.toList)
      have hgr := HG.out.later hbx
      have k1 := (parse_on hgr NB PA za (by omega) hpa).use wr (Below.refl _ _)
      have hPs : PA.size ≤ 100 := by
        have := canonR_size (s := PA) (z := za) (by rw [← hpa]; exact readR_canonR _)
        omega
      rw [hpa] at hk
      simp only at hk
      clear d1 d2 hnl hul hNB hUB hNl hUl
      by_cases hz1 : za = 0
      · subst hz1
        rw [if_neg (by simp)] at hk
        obtain ⟨PM, zm, hpm⟩ := res_ex (mulR PA.data.toList UB.data.toList)
        have k2 := (mul_on hgr PA UB PM zm (by omega) (by omega) hpm).use
        have hMs : PM.size ≤ 100 := by
          have := canonR_size (s := PM) (z := zm) (by rw [← hpm]; exact mulR_canonR _ _)
          omega
        rw [hpm] at hk
        simp only at hk
        by_cases hz2 : zm = 0
        · subst hz2
          rw [if_neg (by simp)] at hk
          obtain ⟨PT, zt, hpt⟩ := res_ex (addR T.data.toList PM.data.toList)
          have k3 := (add_on hgr T PM PT zt (by omega) (by omega) hpt).use
          have hTs2 : PT.size ≤ 100 := by
            have := canonR_size (s := PT) (z := zt) (by rw [← hpt]; exact addR_canonR _ _)
            omega
          rw [hpt] at hk
          simp only at hk
          by_cases hz3 : zt = 0
          · subst hz3
            rw [if_neg (by simp)] at hk
            have HK2 := Lib.hid hk
            clear hk HK hpa hpm hpt hgr
            go_wp2_with fail
            refine k1.mono ?_
            rintro e w1 ⟨rfl, f1⟩
            have k22 := k2 w1 f1
            clear k1 k2
            go_wp2_with fail
            refine k22.mono ?_
            rintro e w2 ⟨rfl, f2⟩
            have k33 := k3 w2 f2
            clear k3
            go_wp2_with fail
            refine k33.mono ?_
            rintro e w3 ⟨rfl, f3⟩
            have hb3 := hbx.trans (f3.mono hbx.size)
            go_wp2_with fail
            go_roundg g
            case rel => exact ⟨i + 1, PT, by congr 1, by omega, rfl, hTs2, HK2, hb3⟩
            all_goals omega
          · have hzb : (zt == 0) = false := beq_eq_false_iff_ne.2 hz3
            have hzc : (zt != 0) = true := by simp [hz3]
            rw [if_pos hz3] at hk
            have HV := Lib.hid hk
            clear hk HK hpa hpm hpt hgr
            go_wp2_with fail
            refine k1.mono ?_
            rintro e w1 ⟨rfl, f1⟩
            have k22 := k2 w1 f1
            clear k1 k2
            go_wp2_with fail
            refine k22.mono ?_
            rintro e w2 ⟨rfl, f2⟩
            have k33 := k3 w2 f2
            clear k3
            go_wp2_with fail
            refine k33.mono ?_
            rintro e w3 ⟨rfl, f3⟩
            have hb3 := hbx.trans (f3.mono hbx.size)
            go_wp2_with fail
            go_ret2
            exact ⟨by rw [← HV.out]; rfl, hb3⟩
        · have hzb : (zm == 0) = false := beq_eq_false_iff_ne.2 hz2
          have hzc : (zm != 0) = true := by simp [hz2]
          rw [if_pos hz2] at hk
          have HV := Lib.hid hk
          clear hk HK hpa hpm hgr
          go_wp2_with fail
          refine k1.mono ?_
          rintro e w1 ⟨rfl, f1⟩
          have k22 := k2 w1 f1
          clear k1 k2
          go_wp2_with fail
          refine k22.mono ?_
          rintro e w2 ⟨rfl, f2⟩
          have hb2 := hbx.trans (f2.mono hbx.size)
          go_wp2_with fail
          go_ret2
          exact ⟨by rw [← HV.out]; rfl, hb2⟩
      · have hzb : (za == 0) = false := beq_eq_false_iff_ne.2 hz1
        have hzc : (za != 0) = true := by simp [hz1]
        rw [if_pos hz1] at hk
        have HV := Lib.hid hk
        clear hk HK hpa hgr
        go_wp2_with fail
        refine k1.mono ?_
        rintro e w1 ⟨rfl, f1⟩
        have hb1 := hbx.trans (f1.mono hbx.size)
        go_wp2_with fail
        go_ret2
        exact ⟨by rw [← HV.out]; rfl, hb1⟩
    · have hil : ¬ (i : Int) < (l1 : Int) := by omega
      obtain rfl : i = l1 := by omega
      obtain rfl : gk = 0 := by omega
      have hk := HK.out
      rw [List.drop_eq_nil_of_le (show us.length ≤ i by rw [HL.out.2]; exact Nat.le_refl _), sumR_end] at hk
      cases below with
      | false =>
        have HV := Lib.hid (show R = (T.data.toList, 0) by rw [← hk]; rfl)
        clear hk HK
        go_wp2_with fail
        go_ret2
        exact ⟨by rw [HV.out]; rfl, hbx⟩
      | true =>
        rw [if_pos rfl] at hk
        obtain ⟨PT, zt, hpt⟩ := res_ex (negR T.data.toList)
        have k1 := (neg_on (HG.out.later hbx) T PT zt (by omega) hpt).use wr (Below.refl _ _)
        have HV := Lib.hid (show R = (PT.data.toList, zt) by rw [← hk, hpt])
        clear hk HK hpt
        go_wp2_with fail
        refine k1.mono ?_
        rintro e w1 ⟨rfl, f1⟩
        go_wp2_with fail
        go_ret2
        exact ⟨by rw [HV.out]; rfl, hbx.trans (f1.mono hbx.size)⟩
end Go.Proofs.YtdfgifnccghlmabGreatDoor
