/- Natural numbers: the contract of subtract. -/
import Derived.Test.YtofpojlnfncpcaaGreatDoorNuAdd
import Derived.Deep.QuietTactic
import Derived.BigQuiet
namespace Go.Proofs.YtofpojlnfncpcaaGreatDoor
open Go.RowKit Go.Lib

set_option maxHeartbeats 4000000 in
set_option maxRecDepth 100000 in
theorem subtract_at (u v : Value) (a b : List Nat) (ha : Small a) (hb : Small b) (ha9 : a.length < 100000000) (hb9 : b.length < 100000000) (hab : val b ≤ val a) (w : World) (hu : Nats w u a) (hv : Nats w v b) :
    Calls Tryz.prog 83 #[u, v] w fun e w' => e = .returned (.slice (some ⟨w.heap.size, 0, none⟩) (wordsOf (val a - val b)).length a.length) ∧ Nats w' (.slice (some ⟨w.heap.size, 0, none⟩) (wordsOf (val a - val b)).length a.length) (wordsOf (val a - val b)) ∧ Below w.heap.size w w' := by
  obtain ⟨p1, c1, rfl⟩ := hu.shape
  obtain ⟨p2, c2, rfl⟩ := hv.shape
  obtain ⟨n, hn⟩ : ∃ n, a.length = n := ⟨_, rfl⟩
  rw [hn]
  have hn9 : n ≤ 100000000 := by omega
  have hmk := make_nats n (by omega) 45 Tryz.underlying45 w
  obtain ⟨W1, hW1⟩ : ∃ W1, w.alloc (.cells (u32Cells (List.replicate n 0)) 96) = W1 := ⟨_, rfl⟩
  have hR1 : RowIs W1 w.heap.size (List.replicate n 0) := by rw [← hW1]; exact made_row w n
  have hb1 : Below w.heap.size w W1 := by rw [← hW1]; exact (Below.refl _ _).alloc (Nat.le_refl _) _
  rw [hW1] at hmk
  have hsum := subW_val n a b 0 ha hb (by omega) (by omega) (by rw [← hn]; exact val_lt a ha)
  have hsm := subW_small n a b 0
  have htr := trimW_words _ hsm
  rw [show val (subW n a b 0) = val a - val b by omega] at htr
  obtain ⟨TOT, hTOT⟩ : ∃ T, subW n a b 0 = T := ⟨_, rfl⟩
  have htl : TOT.length = n := by rw [← hTOT]; exact subW_len n a b 0
  rw [hTOT] at htr
  have HT := Lib.hid (show [] ++ subW (n - 0) (a.drop 0) (b.drop 0) 0 = TOT from hTOT)
  clear hW1 hsum hsm hTOT
  have cB := fun (i : Nat) (hi : i < 1000000000) W (hW : Below w.heap.size w W) => word_any _ b i hi (by omega) W (hv.later hW)
  have hRT := fun W (hW : RowIs W w.heap.size TOT) => trimmed_at _ n TOT (by omega) W (hW.nats n (by omega))
  rw [htl] at hRT
  clear hv
  go_enter Tryz.func83, Tryz.ntmps83
  go_wp2_with fail
  have HU := Lib.hid hu
  clear hu
  go_loopg [6, 14] n (fun g s6 s14 wx => ∃ (i c : Nat) (done : List Nat), s14 = .int .i64 i ∧ i + g = n ∧ s6 = .int .u32 c ∧ c ≤ 1 ∧ done.length = i ∧ RowIs wx w.heap.size (done ++ List.replicate g 0) ∧ Below w.heap.size w wx ∧ Hid (done ++ subW (n - i) (a.drop i) (b.drop i) c = TOT))
  case atStart => exact ⟨0, 0, [], rfl, by omega, rfl, by omega, rfl, hR1, hb1, HT⟩
  case round =>
    clear hR1 hb1 HT
    obtain ⟨i, c, done, rfl, hig, rfl, hc1, hdl, hR, hbx, HK⟩ := hrel
    by_cases hlt : i < n
    · obtain ⟨g, rfl⟩ : ∃ g, gk = g + 1 := ⟨gk - 1, by omega⟩
      have hil : (i : Int) < (n : Int) := by omega
      have hk := HK.out
      rw [show n - i = (n - (i + 1)) + 1 by omega, subW, tail_drop, tail_drop, ← getD_drop0, ← getD_drop0] at hk
      have xs := ha.getD i
      have ys := hb.getD i
      have hca : ∃ b0 off cap0, p1 = some ⟨b0, off, none⟩ ∧ wr.cell? ⟨b0, off + i, none⟩ = some (.int .u32 ((a.getD i 0 : Nat) : Int)) ∧ cap0 = c1 := by
        rcases HU.out with ⟨h0, _⟩ | ⟨b0, off, cap0, heq, hc0, hcells⟩
        · rw [h0] at hn; simp at hn; omega
        · injection heq with h1 _ h3
          have hci := hcells i (by omega)
          exact ⟨b0, off, cap0, h1, (hbx.cell (p := ⟨b0, off + i, none⟩) (lt_of_cell hci)).trans hci, h3.symm⟩
      obtain ⟨b0, off, cap0, rfl, hca, rfl⟩ := hca
      have kB := fun W hW => (cB i (by omega) W hW).mono fun e w' ⟨h1, h2⟩ => And.intro h1 h2.symm
      generalize a.getD i 0 = x at *
      generalize b.getD i 0 = y at *
      have hcast : (((1000000000 + x - y - c) % 1000000000 : Nat) : Int) = (1000000000 + (x : Int) - (y : Int) - (c : Int)) % 1000000000 := by omega
      have hcast2 : ((1 - (1000000000 + x - y - c) / 1000000000 : Nat) : Int) = 1 - (1000000000 + (x : Int) - (y : Int) - (c : Int)) / 1000000000 := by omega
      have hc2 : 1 - (1000000000 + x - y - c) / 1000000000 ≤ 1 := by omega
      have HK2 := Lib.hid (show (done ++ [(1000000000 + x - y - c) % 1000000000]) ++ subW (n - (i + 1)) (a.drop (i + 1)) (b.drop (i + 1)) (1 - (1000000000 + x - y - c) / 1000000000) = TOT by rw [List.append_assoc]; exact hk)
      have HR2 := Lib.hid hR
      clear hk HK cB hRT HU hR
      go_wp2_with fail
      go_quiet ((go_at_call 112; exact Calls.quiet_of_same (kB _ (below_drewN hbx _))))
      have hbq := below_drewN hbx nq
      have hRq := HR2.out.drewN nq
      generalize wr.drewN nq = W1 at hbq hRq ⊢
      have hcell : W1.cell? ⟨w.heap.size, i, none⟩ = some (.int .u32 0) := by
        have := hRq.cell i (by rw [List.length_append, List.length_replicate]; omega)
        rw [this]
        congr 2
        rw [List.getD_eq_getElem?_getD, List.getElem?_append_right (by omega), hdl, Nat.sub_self, List.replicate_succ]
        rfl
      have hfr := hRq.frozen i
      obtain ⟨W2, hW2⟩ : ∃ W2, W1.setCell ⟨w.heap.size, i, none⟩ (.int .u32 ((1000000000 + (x : Int) - (y : Int) - (c : Int)) % 1000000000)) = W2 := ⟨_, rfl⟩
      have hR2 : RowIs W2 w.heap.size ((done ++ [(1000000000 + x - y - c) % 1000000000]) ++ List.replicate g 0) := by
        rw [← hW2, ← set_front, hdl, ← hcast]
        exact hRq.set i _
      have hb2 : Below w.heap.size w W2 := by rw [← hW2]; exact hbq.setCell (p := ⟨w.heap.size, i, none⟩) (Nat.le_refl _) _
      clear hRq hbq kB
      go_wp2_with fail
      go_roundg g
      case rel => exact ⟨i + 1, 1 - (1000000000 + x - y - c) / 1000000000, done ++ [(1000000000 + x - y - c) % 1000000000], by congr 1, by omega, by rw [hcast2], hc2, by rw [List.length_append, hdl]; rfl, hR2, hb2, HK2⟩
      all_goals omega
    · have hil : ¬ (i : Int) < (n : Int) := by omega
      obtain rfl : i = n := by omega
      obtain rfl : gk = 0 := by omega
      have hk := HK.out
      rw [Nat.sub_self] at hk
      have e : done = TOT := by rw [← hk]; simp [subW]
      rw [e] at hR
      have k := hRT wr (by simpa using hR)
      rw [htr] at k
      clear cB hRT HK hk e hR HU
      go_wp2_with fail
      refine k.mono ?_
      rintro e w3 ⟨rfl, hx, rfl⟩
      go_wp2_with fail
      go_ret
      exact ⟨rfl, hx, hbx⟩
theorem subtract_any (u v : Value) (a b : List Nat) (ha : Small a) (hb : Small b) (ha9 : a.length < 100000000) (hb9 : b.length < 100000000) (hab : val b ≤ val a) (w : World) (hu : Nats w u a) (hv : Nats w v b) :
    Calls Tryz.prog 83 #[u, v] w fun e w' => ∃ x, e = .returned x ∧ Nats w' x (wordsOf (val a - val b)) ∧ Below w.heap.size w w' := by
  refine (subtract_at u v a b ha hb ha9 hb9 hab w hu hv).mono ?_
  rintro e w' ⟨rfl, h1, h2⟩
  exact ⟨_, rfl, h1, h2⟩
end Go.Proofs.YtofpojlnfncpcaaGreatDoor
