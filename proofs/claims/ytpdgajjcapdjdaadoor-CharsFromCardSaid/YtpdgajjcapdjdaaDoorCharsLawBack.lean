/- CharsBack: a text is made again of its code points, and code points are read again from their text: the law's walks. -/
import Derived.Test.YtpdgajjcapdjdaaDoorCharsLawParts
import Derived.Deep.QuietTactic
import Derived.BigQuiet
namespace Go.Proofs.YtpdgajjcapdjdaaDoor
open Go.RowKit Go.Lib

theorem points_bad (s : ByteArray) (h : text s.data.toList = false) (W : World) (hs : s.size ≤ 17592186044416) (hg : Gr W) :
    Calls Tryd.prog 22 #[.string s] W fun e w' => e = .returned (.tuple #[.slice none 0 0, .int .i64 10]) ∧ Below W.heap.size W w' :=
  points_no s W (by omega) hg h
/-- Points of a text, with what its row holds as cells. -/
theorem points_is (s : ByteArray) (p : List Nat) (h : text s.data.toList = true) (hp : codes s.data.toList = p) (W : World) (hs : s.size ≤ 17592186044416) (hg : Gr W) :
    Calls Tryd.prog 22 #[.string s] W fun e w' => ∃ a cap, e = .returned (.tuple #[.slice a p.length cap, .int .i64 0]) ∧ Ints w' (.slice a p.length cap) (p.map fun (c : Nat) => (c : Int)) ∧ Below W.heap.size W w' := by
  refine (points_yes s W hs hg h).mono ?_
  rw [hp]
  rintro e w' ⟨v, rfl, hown, hnn, hb⟩
  have hI := Ints.own hown rfl
  rcases hown.2 with ⟨hv, _⟩ | ⟨g, cap, cur, hv, _⟩
  · exact absurd hv hnn
  · rw [hv] at hI ⊢
    exact ⟨_, cap, rfl, hI, hb⟩
theorem from_is (v : Value) (zs : List Int) (r : ByteArray) (hall : zs.all chrZ = true) (hr : formZ zs = r.data.toList) (W : World) (hv : Ints W v zs) (hn : zs.length ≤ 17592186044416) :
    Calls Tryd.prog 25 #[v] W fun e w' => e = .returned (.tuple #[.string r, .int .i64 0]) ∧ Below W.heap.size W w' := by
  refine (from_any v zs W hv hn (fun z hz => ?_)).mono ?_
  · have := chrZ_bd z (List.all_eq_true.1 hall z hz); omega
  · rintro e w' ⟨rfl, hb⟩
    rw [fromV_yes zs hall, hr, ← str_of (s := r) rfl]
    exact ⟨rfl, hb⟩
theorem from_bad (v : Value) (zs : List Int) (hall : zs.all chrZ = false) (W : World) (hv : Ints W v zs) (hn : zs.length ≤ 17592186044416) (hw : ∀ z ∈ zs, -9223372036854775808 ≤ z ∧ z ≤ 9223372036854775807) :
    Calls Tryd.prog 25 #[v] W fun e w' => e = .returned (.tuple #[.string ⟨#[]⟩, .int .i64 10]) ∧ Below W.heap.size W w' := by
  refine (from_any v zs W hv hn hw).mono ?_
  rintro e w' ⟨rfl, hb⟩
  unfold fromV
  rw [hall]
  exact ⟨rfl, hb⟩
theorem all_chr_nat (p : List Nat) (h : ∀ c ∈ p, chr c = true) : (p.map fun (c : Nat) => (c : Int)).all chrZ = true := by
  rw [List.all_map, List.all_eq_true]
  intro c hc
  show chrZ (c : Int) = true
  rw [chrZ_nat]; exact h c hc
/-- Integers that are characters are code points. -/
theorem nat_of_chr (zs : List Int) (h : zs.all chrZ = true) : ∃ p : List Nat, zs = (p.map fun (c : Nat) => (c : Int)) ∧ ∀ c ∈ p, chr c = true := by
  induction zs with
  | nil => exact ⟨[], rfl, fun c hc => by cases hc⟩
  | cons z t ih =>
    rw [List.all_cons, Bool.and_eq_true] at h
    obtain ⟨p, rfl, hp⟩ := ih h.2
    have hz := chrZ_bd z h.1
    obtain ⟨c, rfl⟩ := Int.eq_ofNat_of_zero_le hz.1
    refine ⟨c :: p, rfl, fun d hd => ?_⟩
    rcases List.mem_cons.1 hd with rfl | hd
    · rw [← chrZ_nat]; exact h.1
    · exact hp d hd
theorem Ints.len {w : World} {v : Value} {zs : List Int} (h : Ints w v zs) : ∃ a cap, v = .slice a zs.length cap := by
  rcases h with ⟨a, cap, rfl, rfl⟩ | ⟨b, off, cap, rfl, _⟩
  · exact ⟨a, cap, rfl⟩
  · exact ⟨_, cap, rfl⟩
theorem form_len (p : List Nat) : (form p).length ≤ 4 * p.length := by
  rw [← formZ_nat]
  have := formZ_len (p.map fun (c : Nat) => (c : Int))
  rw [List.length_map] at this; exact this
theorem Ints.cell {w : World} {a : Option Addr} {n cap : Nat} {zs : List Int} (h : Ints w (.slice a n cap) zs) (i : Nat) (z : Int) (hz : zs[i]? = some z) : ∃ b off, a = some ⟨b, off, none⟩ ∧ w.cell? ⟨b, off + i, none⟩ = some (.int .i64 z) := by
  rcases h with ⟨_, _, _, rfl⟩ | ⟨b, off, cap', hv, hc⟩
  · simp at hz
  · cases hv
    exact ⟨b, off, rfl, hc i z hz⟩
theorem back_big (s : ByteArray) (a : Option Addr) (n cap : Nat) (w : World) (hg : Gr w) (h : 2000 < s.size) :
    Calls Tryd.prog 9 #[.string s, .slice a n cap] w fun e w' => e = .returned (.bool true) ∧ Below w.heap.size w w' := by
  have hz : (2000 : Int) < (s.size : Int) := by omega
  go_enter Tryd.func9, Tryd.ntmps9
  have hb0 : Below w.heap.size w w := Below.refl _ _
  have hg0 := hg
  go_wp2_with fail
  refine (works_any _ hg0).mono ?_
  rintro e w1 ⟨rfl, hx⟩
  have hb1 := hb0.trans (hx.mono hb0.size)
  have hg1 := hg.later hb1
  clear hx hb0 hg0
  go_wp2
  go_ret
  exact ⟨rfl, hb1⟩
theorem back_big2 (s : ByteArray) (a : Option Addr) (n cap : Nat) (w : World) (hg : Gr w) (h : ¬ 2000 < s.size) (h2 : 2000 < n) :
    Calls Tryd.prog 9 #[.string s, .slice a n cap] w fun e w' => e = .returned (.bool true) ∧ Below w.heap.size w w' := by
  have hz : ¬ (2000 : Int) < (s.size : Int) := by omega
  have hz2 : (2000 : Int) < (n : Int) := by omega
  go_enter Tryd.func9, Tryd.ntmps9
  have hb0 : Below w.heap.size w w := Below.refl _ _
  have hg0 := hg
  go_wp2_with fail
  refine (works_any _ hg0).mono ?_
  rintro e w1 ⟨rfl, hx⟩
  have hb1 := hb0.trans (hx.mono hb0.size)
  have hg1 := hg.later hb1
  clear hx hb0 hg0
  go_wp2
  go_ret
  exact ⟨rfl, hb1⟩
set_option maxHeartbeats 4000000 in
set_option maxRecDepth 1000000 in
theorem back_yn (s : ByteArray) (a : Option Addr) (n cap : Nat) (w : World) (hg : Gr w) (h : ¬ 2000 < s.size) (h2 : ¬ 2000 < n) (p : List Nat) (HT : Hid (text s.data.toList = true)) (HP : Hid (codes s.data.toList = p)) (hp : p.length ≤ 2000) (HA : Hid ((p.map fun (c : Nat) => (c : Int)).all chrZ = true)) (HF : Hid (formZ (p.map fun (c : Nat) => (c : Int)) = s.data.toList)) (HL : Hid (((codes s.data.toList).length : Int) = p.length)) (zs : List Int) (hzl : zs.length = n) (hv : Ints w (.slice a n cap) zs) (HB : Hid (zs.all chrZ = false)) (HW : Hid (∀ z ∈ zs, -9223372036854775808 ≤ z ∧ z ≤ 9223372036854775807)) :
    Calls Tryd.prog 9 #[.string s, .slice a n cap] w fun e w' => e = .returned (.bool true) ∧ Below w.heap.size w w' := by
  have hz : ¬ (2000 : Int) < (s.size : Int) := by omega
  have hz2 : ¬ (2000 : Int) < (n : Int) := by omega
  go_enter Tryd.func9, Tryd.ntmps9
  have hb0 : Below w.heap.size w w := Below.refl _ _
  have hg0 := hg
  go_wp2_with fail
  refine (points_is s p HT.out HP.out _ (by omega) hg0).mono ?_
  rintro e w1 ⟨a1, cap1, rfl, hi1, hx⟩
  have hb1 := hb0.trans (hx.mono hb0.size)
  have hg1 := hg.later hb1
  clear hx hb0 hg0
  go_wp2_with fail
  refine (from_is _ _ s HA.out HF.out _ hi1 (by rw [List.length_map]; omega)).mono ?_
  rintro e w2 ⟨rfl, hx⟩
  have hb2 := hb1.trans (hx.mono hb1.size)
  have hg2 := hg.later hb2
  clear hx hb1 hg1
  have hlen : ((p.length : Int) != (p.length : Int)) = false := by simp
  go_wp2_with fail
  refine (len_is s p.length HT.out HL.out _ (by omega) hg2).mono ?_
  rintro e w3 ⟨rfl, hx⟩
  have hb3 := hb2.trans (hx.mono hb2.size)
  have hg3 := hg.later hb3
  clear hx hb2 hg2
  go_wp2_with fail
  refine (isText_is s true HT.out _ (by omega) hg3).mono ?_
  rintro e w4 ⟨rfl, hx⟩
  have hb4 := hb3.trans (hx.mono hb3.size)
  have hg4 := hg.later hb4
  clear hx hb3 hg3
  go_wp2_with fail
  refine (from_bad _ zs HB.out _ (hv.later hb4) (by omega) HW.out).mono ?_
  rintro e w5 ⟨rfl, hx⟩
  have hb5 := hb4.trans (hx.mono hb4.size)
  have hg5 := hg.later hb5
  clear hx hb4 hg4
  go_wp2_with fail
  refine (works_any _ hg5).mono ?_
  rintro e w6 ⟨rfl, hx⟩
  have hb6 := hb5.trans (hx.mono hb5.size)
  have hg6 := hg.later hb6
  clear hx hb5 hg5
  go_wp2
  go_ret
  exact ⟨rfl, hb6⟩
set_option maxHeartbeats 4000000 in
set_option maxRecDepth 1000000 in
theorem back_yy (s : ByteArray) (a : Option Addr) (n cap : Nat) (w : World) (hg : Gr w) (h : ¬ 2000 < s.size) (h2 : ¬ 2000 < n) (p : List Nat) (HT : Hid (text s.data.toList = true)) (HP : Hid (codes s.data.toList = p)) (hp : p.length ≤ 2000) (HA : Hid ((p.map fun (c : Nat) => (c : Int)).all chrZ = true)) (HF : Hid (formZ (p.map fun (c : Nat) => (c : Int)) = s.data.toList)) (HL : Hid (((codes s.data.toList).length : Int) = p.length)) (t : ByteArray) (q : List Nat) (zs : List Int) (hzl : zs.length = n) (hql : q.length = n) (hv : Ints w (.slice a n cap) zs) (Hz : Hid (zs = q.map fun (c : Nat) => (c : Int))) (HB : Hid (zs.all chrZ = true)) (HR : Hid (formZ zs = t.data.toList)) (ht : t.size ≤ 8000) (HTT : Hid (text t.data.toList = true)) (HQ : Hid (codes t.data.toList = q)) :
    Calls Tryd.prog 9 #[.string s, .slice a n cap] w fun e w' => e = .returned (.bool true) ∧ Below w.heap.size w w' := by
  have hz : ¬ (2000 : Int) < (s.size : Int) := by omega
  have hz2 : ¬ (2000 : Int) < (n : Int) := by omega
  go_enter Tryd.func9, Tryd.ntmps9
  have hb0 : Below w.heap.size w w := Below.refl _ _
  have hg0 := hg
  go_wp2_with fail
  refine (points_is s p HT.out HP.out _ (by omega) hg0).mono ?_
  rintro e w1 ⟨a1, cap1, rfl, hi1, hx⟩
  have hb1 := hb0.trans (hx.mono hb0.size)
  have hg1 := hg.later hb1
  clear hx hb0 hg0
  go_wp2_with fail
  refine (from_is _ _ s HA.out HF.out _ hi1 (by rw [List.length_map]; omega)).mono ?_
  rintro e w2 ⟨rfl, hx⟩
  have hb2 := hb1.trans (hx.mono hb1.size)
  have hg2 := hg.later hb2
  clear hx hb1 hg1
  have hlen : ((p.length : Int) != (p.length : Int)) = false := by simp
  go_wp2_with fail
  refine (len_is s p.length HT.out HL.out _ (by omega) hg2).mono ?_
  rintro e w3 ⟨rfl, hx⟩
  have hb3 := hb2.trans (hx.mono hb2.size)
  have hg3 := hg.later hb3
  clear hx hb2 hg2
  go_wp2_with fail
  refine (isText_is s true HT.out _ (by omega) hg3).mono ?_
  rintro e w4 ⟨rfl, hx⟩
  have hb4 := hb3.trans (hx.mono hb3.size)
  have hg4 := hg.later hb4
  clear hx hb3 hg3
  go_wp2_with fail
  refine (from_is _ zs t HB.out HR.out _ (hv.later hb4) (by omega)).mono ?_
  rintro e w5 ⟨rfl, hx⟩
  have hb5 := hb4.trans (hx.mono hb4.size)
  have hg5 := hg.later hb5
  clear hx hb4 hg4
  go_wp2_with fail
  refine (points_is t q HTT.out HQ.out _ (by omega) hg5).mono ?_
  rintro e w6 ⟨a2, cap2, rfl, hi2, hx⟩
  have hb6 := hb5.trans (hx.mono hb5.size)
  have hg6 := hg.later hb6
  clear hx hb5 hg5
  have hvk := hv.later hb6
  clear hv
  subst hql
  have hneq : (((q.length : Nat) : Int) != ((q.length : Nat) : Int)) = false := by simp
  go_wp2
  go_loopg [96] q.length (fun g s96 wx => ∃ (i dr : Nat), s96 = .int .i64 i ∧ i + g = q.length ∧ wx = w6.drewN dr)
  case atStart => exact ⟨0, 0, rfl, by omega, rfl⟩
  case round =>
    obtain ⟨i, dr, rfl, hig, rfl⟩ := hrel
    have hbd := below_drewN hb6 dr
    by_cases hlt : i < q.length
    · obtain ⟨g, rfl⟩ : ∃ g, gk = g + 1 := ⟨gk - 1, by omega⟩
      have hqi : (q.map fun (c : Nat) => (c : Int))[i]? = some ((q[i] : Nat) : Int) := by rw [List.getElem?_map, List.getElem?_eq_getElem hlt]; rfl
      obtain ⟨b1, o1, rfl, hc1⟩ := hi2.cell i _ hqi
      obtain ⟨b2, o2, rfl, hc2⟩ := hvk.cell i _ (by rw [Hz.out]; exact hqi)
      generalize ((q[i] : Nat) : Int) = z at hc1 hc2
      clear hi2 hvk hqi hneq
      go_wp2
      go_quiet (fail)
      go_wp2
      go_roundg g
      case measure => omega
      case rel => exact ⟨i + 1, _, by go_num, by omega, rfl⟩
    · obtain rfl : gk = 0 := by omega
      obtain rfl : i = q.length := by omega
      have hgd := hg.later hbd
      go_wp2_with fail
      refine (works_any _ hgd).mono ?_
      rintro e wl ⟨rfl, hx⟩
      go_wp2
      go_ret
      exact ⟨rfl, hbd.trans (hx.mono hbd.size)⟩
set_option maxHeartbeats 4000000 in
set_option maxRecDepth 1000000 in
theorem back_nn (s : ByteArray) (a : Option Addr) (n cap : Nat) (w : World) (hg : Gr w) (h : ¬ 2000 < s.size) (h2 : ¬ 2000 < n) (HT : Hid (text s.data.toList = false)) (zs : List Int) (hzl : zs.length = n) (hv : Ints w (.slice a n cap) zs) (HB : Hid (zs.all chrZ = false)) (HW : Hid (∀ z ∈ zs, -9223372036854775808 ≤ z ∧ z ≤ 9223372036854775807)) :
    Calls Tryd.prog 9 #[.string s, .slice a n cap] w fun e w' => e = .returned (.bool true) ∧ Below w.heap.size w w' := by
  have hz : ¬ (2000 : Int) < (s.size : Int) := by omega
  have hz2 : ¬ (2000 : Int) < (n : Int) := by omega
  go_enter Tryd.func9, Tryd.ntmps9
  have hb0 : Below w.heap.size w w := Below.refl _ _
  have hg0 := hg
  go_wp2_with fail
  refine (points_bad s HT.out _ (by omega) hg0).mono ?_
  rintro e w1 ⟨rfl, hx⟩
  have hb1 := hb0.trans (hx.mono hb0.size)
  have hg1 := hg.later hb1
  clear hx hb0 hg0
  go_wp2_with fail
  refine (isText_is s false HT.out _ (by omega) hg1).mono ?_
  rintro e w2 ⟨rfl, hx⟩
  have hb2 := hb1.trans (hx.mono hb1.size)
  have hg2 := hg.later hb2
  clear hx hb1 hg1
  go_wp2_with fail
  refine (len_bad s HT.out _ (by omega) hg2).mono ?_
  rintro e w3 ⟨rfl, hx⟩
  have hb3 := hb2.trans (hx.mono hb2.size)
  have hg3 := hg.later hb3
  clear hx hb2 hg2
  go_wp2_with fail
  refine (from_bad _ zs HB.out _ (hv.later hb3) (by omega) HW.out).mono ?_
  rintro e w4 ⟨rfl, hx⟩
  have hb4 := hb3.trans (hx.mono hb3.size)
  have hg4 := hg.later hb4
  clear hx hb3 hg3
  go_wp2_with fail
  refine (works_any _ hg4).mono ?_
  rintro e w5 ⟨rfl, hx⟩
  have hb5 := hb4.trans (hx.mono hb4.size)
  have hg5 := hg.later hb5
  clear hx hb4 hg4
  go_wp2
  go_ret
  exact ⟨rfl, hb5⟩
set_option maxHeartbeats 4000000 in
set_option maxRecDepth 1000000 in
theorem back_ny (s : ByteArray) (a : Option Addr) (n cap : Nat) (w : World) (hg : Gr w) (h : ¬ 2000 < s.size) (h2 : ¬ 2000 < n) (HT : Hid (text s.data.toList = false)) (t : ByteArray) (q : List Nat) (zs : List Int) (hzl : zs.length = n) (hql : q.length = n) (hv : Ints w (.slice a n cap) zs) (Hz : Hid (zs = q.map fun (c : Nat) => (c : Int))) (HB : Hid (zs.all chrZ = true)) (HR : Hid (formZ zs = t.data.toList)) (ht : t.size ≤ 8000) (HTT : Hid (text t.data.toList = true)) (HQ : Hid (codes t.data.toList = q)) :
    Calls Tryd.prog 9 #[.string s, .slice a n cap] w fun e w' => e = .returned (.bool true) ∧ Below w.heap.size w w' := by
  have hz : ¬ (2000 : Int) < (s.size : Int) := by omega
  have hz2 : ¬ (2000 : Int) < (n : Int) := by omega
  go_enter Tryd.func9, Tryd.ntmps9
  have hb0 : Below w.heap.size w w := Below.refl _ _
  have hg0 := hg
  go_wp2_with fail
  refine (points_bad s HT.out _ (by omega) hg0).mono ?_
  rintro e w1 ⟨rfl, hx⟩
  have hb1 := hb0.trans (hx.mono hb0.size)
  have hg1 := hg.later hb1
  clear hx hb0 hg0
  go_wp2_with fail
  refine (isText_is s false HT.out _ (by omega) hg1).mono ?_
  rintro e w2 ⟨rfl, hx⟩
  have hb2 := hb1.trans (hx.mono hb1.size)
  have hg2 := hg.later hb2
  clear hx hb1 hg1
  go_wp2_with fail
  refine (len_bad s HT.out _ (by omega) hg2).mono ?_
  rintro e w3 ⟨rfl, hx⟩
  have hb3 := hb2.trans (hx.mono hb2.size)
  have hg3 := hg.later hb3
  clear hx hb2 hg2
  go_wp2_with fail
  refine (from_is _ zs t HB.out HR.out _ (hv.later hb3) (by omega)).mono ?_
  rintro e w4 ⟨rfl, hx⟩
  have hb4 := hb3.trans (hx.mono hb3.size)
  have hg4 := hg.later hb4
  clear hx hb3 hg3
  go_wp2_with fail
  refine (points_is t q HTT.out HQ.out _ (by omega) hg4).mono ?_
  rintro e w5 ⟨a2, cap2, rfl, hi2, hx⟩
  have hb5 := hb4.trans (hx.mono hb4.size)
  have hg5 := hg.later hb5
  clear hx hb4 hg4
  have hvk := hv.later hb5
  clear hv
  subst hql
  have hneq : (((q.length : Nat) : Int) != ((q.length : Nat) : Int)) = false := by simp
  go_wp2
  go_loopg [96] q.length (fun g s96 wx => ∃ (i dr : Nat), s96 = .int .i64 i ∧ i + g = q.length ∧ wx = w5.drewN dr)
  case atStart => exact ⟨0, 0, rfl, by omega, rfl⟩
  case round =>
    obtain ⟨i, dr, rfl, hig, rfl⟩ := hrel
    have hbd := below_drewN hb5 dr
    by_cases hlt : i < q.length
    · obtain ⟨g, rfl⟩ : ∃ g, gk = g + 1 := ⟨gk - 1, by omega⟩
      have hqi : (q.map fun (c : Nat) => (c : Int))[i]? = some ((q[i] : Nat) : Int) := by rw [List.getElem?_map, List.getElem?_eq_getElem hlt]; rfl
      obtain ⟨b1, o1, rfl, hc1⟩ := hi2.cell i _ hqi
      obtain ⟨b2, o2, rfl, hc2⟩ := hvk.cell i _ (by rw [Hz.out]; exact hqi)
      generalize ((q[i] : Nat) : Int) = z at hc1 hc2
      clear hi2 hvk hqi hneq
      go_wp2
      go_quiet (fail)
      go_wp2
      go_roundg g
      case measure => omega
      case rel => exact ⟨i + 1, _, by go_num, by omega, rfl⟩
    · obtain rfl : gk = 0 := by omega
      obtain rfl : i = q.length := by omega
      have hgd := hg.later hbd
      go_wp2_with fail
      refine (works_any _ hgd).mono ?_
      rintro e wl ⟨rfl, hx⟩
      go_wp2
      go_ret
      exact ⟨rfl, hbd.trans (hx.mono hbd.size)⟩
theorem back_law (s : ByteArray) (v : Value) (zs : List Int) (w : World) (hg : Gr w) (hv : Ints w v zs) (hw : ∀ z ∈ zs, -9223372036854775808 ≤ z ∧ z ≤ 9223372036854775807) :
    Calls Tryd.prog 9 #[.string s, v] w fun e w' => e = .returned (.bool true) ∧ Below w.heap.size w w' := by
  obtain ⟨a, cap, rfl⟩ := hv.len
  by_cases h : 2000 < s.size
  · exact back_big s a _ cap w hg h
  · by_cases h2 : 2000 < zs.length
    · exact back_big2 s a _ cap w hg h h2
    · have hcs := codes_len s.data.toList
      rw [← size_eq] at hcs
      cases hb : zs.all chrZ
      · cases hT : text s.data.toList
        · exact back_nn s a _ cap w hg h h2 (Lib.hid hT) zs rfl hv (Lib.hid hb) (Lib.hid hw)
        · exact back_yn s a _ cap w hg h h2 (codes s.data.toList) (Lib.hid hT) (Lib.hid rfl) (by omega) (Lib.hid (all_chr_nat _ (text_chr _ hT))) (Lib.hid (by rw [formZ_nat, form_codes _ hT])) (Lib.hid rfl) zs rfl hv (Lib.hid hb) (Lib.hid hw)
      · obtain ⟨q, rfl, hq⟩ := nat_of_chr zs hb
        have hl := form_len q
        rw [List.length_map] at h2
        have hsz : (⟨(form q).toArray⟩ : ByteArray).size = (form q).length := by rw [size_eq]
        have ht := text_form q hq
        have hc := codes_form q hq
        cases hT : text s.data.toList
        · exact back_ny s a _ cap w hg h (by rw [List.length_map]; exact h2) (Lib.hid hT) ⟨(form q).toArray⟩ q _ rfl (by rw [List.length_map]) hv (Lib.hid rfl) (Lib.hid hb) (Lib.hid (formZ_nat q)) (by omega) (Lib.hid ht) (Lib.hid hc)
        · exact back_yy s a _ cap w hg h (by rw [List.length_map]; exact h2) (codes s.data.toList) (Lib.hid hT) (Lib.hid rfl) (by omega) (Lib.hid (all_chr_nat _ (text_chr _ hT))) (Lib.hid (by rw [formZ_nat, form_codes _ hT])) (Lib.hid rfl) ⟨(form q).toArray⟩ q _ rfl (by rw [List.length_map]) hv (Lib.hid rfl) (Lib.hid hb) (Lib.hid (formZ_nat q)) (by omega) (Lib.hid ht) (Lib.hid hc)
end Go.Proofs.YtpdgajjcapdjdaaDoor
