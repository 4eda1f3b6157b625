/- Natural numbers: the contract of multiply: its walk. -/
import Derived.Test.YtofpojlnfncpcaaGreatDoorNuMul
namespace Go.Proofs.YtofpojlnfncpcaaGreatDoor
open Go.RowKit Go.Lib

/-- Words of an argument are read in later worlds. -/
theorem Nats.at {w wr : World} {p : Option Addr} {c1 : Nat} {a : List Nat} (h : Nats w (.slice p a.length c1) a) (hb : Below w.heap.size w wr) (i : Nat) (hi : i < a.length) :
    ∃ b0 off, p = some ⟨b0, off, none⟩ ∧ wr.cell? ⟨b0, off + i, none⟩ = some (.int .u32 ((a.getD i 0 : Nat) : Int)) := by
  rcases h with ⟨h0, _⟩ | ⟨b0, off, cap0, heq, hc0, hcells⟩
  · rw [h0] at hi; simp at hi
  · injection heq with h1 _ h3
    have hci := hcells i hi
    exact ⟨b0, off, h1, (hb.cell (p := ⟨b0, off + i, none⟩) (lt_of_cell hci)).trans hci⟩
set_option maxHeartbeats 8000000 in
set_option maxRecDepth 100000 in
theorem multiply_any (u v : Value) (a b : List Nat) (ha : Small a) (hb : Small b) (ha9 : a.length < 100000000) (hb9 : b.length < 100000000) (w : World) (hu : Nats w u a) (hv : Nats w v b) :
    Calls Tryz.prog 55 #[u, v] w fun e w' => ∃ x, e = .returned x ∧ Nats w' x (wordsOf (val a * val b)) ∧ Below w.heap.size w w' := by
  obtain ⟨p1, c1, rfl⟩ := hu.shape
  obtain ⟨p2, c2, rfl⟩ := hv.shape
  obtain ⟨n, hn⟩ : ∃ n, a.length + b.length = n := ⟨_, rfl⟩
  have hn9 : n ≤ 200000000 := by omega
  have hmk := make_nats n (by omega) 45 Tryz.underlying45 w
  have hnz : (n : Int) = (a.length : Int) + (b.length : Int) := by omega
  rw [hnz] at hmk
  obtain ⟨W1, hW1⟩ : ∃ W1, w.alloc (.cells (u32Cells (List.replicate n 0)) 96) = W1 := ⟨_, rfl⟩
  have hR1 : RowIs W1 w.heap.size (List.replicate n 0) := by rw [← hW1]; exact made_row w n
  have hb1 : Below w.heap.size w W1 := by rw [← hW1]; exact (Below.refl _ _).alloc (Nat.le_refl _) _
  rw [hW1] at hmk
  have hM0 := MulI.start a b
  rw [hn] at hM0
  clear hW1
  have HU := Lib.hid hu
  have HV := Lib.hid hv
  clear hu hv
  go_enter Tryz.func55, Tryz.ntmps55
  go_wp2_with fail
  go_loopg [18] a.length (fun g s18 wx => ∃ (i : Nat) (P : List Nat), s18 = .int .i64 i ∧ i + g = a.length ∧ MulI a b i P ∧ RowIs wx w.heap.size P ∧ Below w.heap.size w wx)
  case atStart => exact ⟨0, _, rfl, by omega, hM0, hR1, hb1⟩
  case round =>
    clear hR1 hb1 hM0
    obtain ⟨i, P, rfl, hig, hM, hR, hbx⟩ := hrel
    by_cases hlt : i < a.length
    · obtain ⟨g, rfl⟩ : ∃ g, gk = g + 1 := ⟨gk - 1, by omega⟩
      have hil : (i : Int) < (a.length : Int) := by omega
      have hMn := hM.next ha hb hlt
      have hPl := hM.len
      have hPs := hM.small
      have xs := ha.getD i
      obtain ⟨NX, hNX⟩ : ∃ Q, mulNext (a.getD i 0) b P i = Q := ⟨_, rfl⟩
      rw [hNX] at hMn
      have HN := Lib.hid (show P.take (i + 0) ++ mulRow (a.getD i 0) (b.drop 0) (P.drop (i + 0)) 0 = NX from hNX)
      clear hNX hM
      go_wp2_with fail
      go_loopg [7, 23] b.length (fun g2 s7 s23 wx => ∃ (k c : Nat) (Q : List Nat), s23 = .int .i64 k ∧ k + g2 = b.length ∧ s7 = .int .u64 c ∧ c < 1000000000 ∧ Q.length = n ∧ Small Q ∧ RowIs wx w.heap.size Q ∧ Below w.heap.size w wx ∧ Hid (Q.take (i + k) ++ mulRow (a.getD i 0) (b.drop k) (Q.drop (i + k)) c = NX))
      case atStart => exact ⟨0, 0, P, rfl, by omega, rfl, by omega, by omega, hPs, hR, hbx, HN⟩
      case round =>
        clear HN hR hbx
        obtain ⟨k, c, Q, rfl, hkg, rfl, hc, hQl, hQs, hR, hbx, HK⟩ := hrel
        by_cases hkt : k < b.length
        · obtain ⟨g2, rfl⟩ : ∃ g2, gk = g2 + 1 := ⟨gk - 1, by omega⟩
          have hkl : (k : Int) < (b.length : Int) := by omega
          have hstep := row_step (a.getD i 0) c b Q i k hkt (by omega) NX HK.out
          have ys := hb.getD k
          have qs := hQs.getD (i + k)
          obtain ⟨b0, off, hp1, hca⟩ := HU.out.at hbx i hlt
          obtain ⟨b1, off1, hp2, hcb⟩ := HV.out.at hbx k hkt
          have hcq := hR.cell (i + k) (by omega)
          have hfr := hR.frozen (i + k)
          have hset := hR.set (i + k) ((a.getD i 0 * b.getD k 0 + Q.getD (i + k) 0 + c) % 1000000000)
          have hsm : Small (Q.set (i + k) ((a.getD i 0 * b.getD k 0 + Q.getD (i + k) 0 + c) % 1000000000)) := by
            intro z hz
            rcases List.mem_or_eq_of_mem_set hz with hz | rfl
            · exact hQs z hz
            · exact Nat.mod_lt _ (by omega)
          have HSP := Lib.hid hstep
          clear HK hstep hMn hPs hPl
          subst hp1
          subst hp2
          generalize a.getD i 0 = x at *
          generalize b.getD k 0 = y at *
          generalize Q.getD (i + k) 0 = z at *
          obtain ⟨X, hX⟩ : ∃ X, x * y = X := ⟨_, rfl⟩
          have hXz : (x : Int) * (y : Int) = (X : Int) := by rw [← hX]; exact (Int.natCast_mul x y).symm
          have hXl : X ≤ 999999999 * 999999999 := by rw [← hX]; exact Nat.mul_le_mul (by omega) (by omega)
          rw [hX] at hset hsm HSP
          clear hX HU HV
          have hcast : (((X + z + c) % 1000000000 : Nat) : Int) = ((X : Int) + (z : Int) + (c : Int)) % 1000000000 := by omega
          have hcast2 : (((X + z + c) / 1000000000 : Nat) : Int) = ((X : Int) + (z : Int) + (c : Int)) / 1000000000 := by omega
          have hc2 : (X + z + c) / 1000000000 < 1000000000 := by omega
          have hikn : (i : Int) + (k : Int) < (n : Int) := by omega
          have HR2 := Lib.hid hR
          clear hset hR
          go_wp2_with fail
          go_quiet (fail)
          have hbq := below_drewN hbx nq
          have hRq := HR2.out.drewN nq
          generalize wr.drewN nq = W2 at hbq hRq ⊢
          have hcq2 := hRq.cell (i + k) (by omega)
          have hfr2 := hRq.frozen (i + k)
          have hset := hRq.set (i + k) ((X + z + c) % 1000000000)
          rw [hcast] at hset
          obtain ⟨W3, hW3⟩ : ∃ W3, W2.setCell ⟨w.heap.size, i + k, none⟩ (.int .u32 (((X : Int) + (z : Int) + (c : Int)) % 1000000000)) = W3 := ⟨_, rfl⟩
          rw [hW3] at hset
          have hb3 : Below w.heap.size w W3 := by rw [← hW3]; exact hbq.setCell (p := ⟨w.heap.size, i + k, none⟩) (Nat.le_refl _) _
          clear hca hcb hcq hfr hbx hRq hbq
          go_wp2_with fail
          go_roundg g2
          case rel => exact ⟨k + 1, (X + z + c) / 1000000000, Q.set (i + k) ((X + z + c) % 1000000000), by congr 1, by omega, by rw [hcast2], hc2, by rw [List.length_set]; exact hQl, hsm, hset, hb3, HSP⟩
          all_goals omega
        · obtain rfl : k = b.length := by omega
          obtain rfl : gk = 0 := by omega
          have hkl : ¬ (b.length : Int) < (b.length : Int) := by omega
          have he := HK.out
          rw [row_end _ _ _ _ _ (by omega)] at he
          have hcq := hR.cell (i + b.length) (by omega)
          have hfr := hR.frozen (i + b.length)
          have hset := hR.set (i + b.length) c
          rw [he] at hset
          obtain ⟨W3, hW3⟩ : ∃ W3, wr.setCell ⟨w.heap.size, i + b.length, none⟩ (.int .u32 (c : Int)) = W3 := ⟨_, rfl⟩
          rw [hW3] at hset
          have hb3 : Below w.heap.size w W3 := by rw [← hW3]; exact hbx.setCell (p := ⟨w.heap.size, i + b.length, none⟩) (Nat.le_refl _) _
          have hikn : (i : Int) + (b.length : Int) < (n : Int) := by omega
          generalize Q.getD (i + b.length) 0 = z at *
          clear HK he hR hbx HU HV hQs
          go_wp2_with fail
          go_roundg g
          case rel => exact ⟨i + 1, NX, by congr 1, by omega, hMn, hset, hb3⟩
          all_goals omega
    · obtain rfl : i = a.length := by omega
      obtain rfl : gk = 0 := by omega
      have hil : ¬ (a.length : Int) < (a.length : Int) := by omega
      have hv := hM.value
      rw [List.take_length] at hv
      have hl := hM.len
      have htr := trimW_words P hM.small
      rw [hv] at htr
      have k := trimmed_any _ P (by omega) wr (hR.nats n (by omega))
      rw [htr, show P.length = n by omega] at k
      clear HU HV hM hR
      go_wp2_with fail
      refine k.mono ?_
      rintro e w3 ⟨x, rfl, hx, rfl⟩
      go_wp2_with fail
      go_ret
      exact ⟨x, rfl, hx, hbx⟩
end Go.Proofs.YtofpojlnfncpcaaGreatDoor
