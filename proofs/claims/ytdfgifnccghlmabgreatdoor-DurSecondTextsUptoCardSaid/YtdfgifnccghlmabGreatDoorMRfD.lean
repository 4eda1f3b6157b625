/- The specification of num: plain facts about the rows of a product. The specification of num: the contract of mul. -/
import Derived.Test.YtdfgifnccghlmabGreatDoorMRfA
namespace Go.Proofs.YtdfgifnccghlmabGreatDoor.R
open Go.RowKit Go.Lib
open Go.Proofs.YtdfgifnccghlmabGreatDoor (trimW take_snoc')

/-- The row of a product, behind i words of the first factor. -/
structure MulI (a b : List Nat) (i : Nat) (P : List Nat) : Prop where
  len : P.length = a.length + b.length
  small : Small P
  value : val P = val (a.take i) * val b
  zeros : ∀ j, i + b.length ≤ j → P.getD j 0 = 0
def mulNext (x : Nat) (b P : List Nat) (i : Nat) : List Nat := P.take i ++ mulRow x b (P.drop i) 0
theorem getD_drop' (l : List Nat) (i j : Nat) : (l.drop i).getD j 0 = l.getD (i + j) 0 := by rw [List.getD_eq_getElem?_getD, List.getD_eq_getElem?_getD, List.getElem?_drop]
theorem MulI.next {a b : List Nat} {i : Nat} {P : List Nat} (h : MulI a b i P) (ha : Small a) (hb : Small b) (hi : i < a.length) : MulI a b (i + 1) (mulNext (a.getD i 0) b P i) := by
  have hx := ha.getD i
  have hlen := h.len
  have hd : b.length < (P.drop i).length := by rw [List.length_drop]; omega
  have hz : (P.drop i).getD b.length 0 = 0 := by rw [getD_drop']; exact h.zeros _ (Nat.le_refl _)
  have hl := mulRow_len (a.getD i 0) b (P.drop i) 0 hd
  refine ⟨?_, ?_, ?_, fun j hj => ?_⟩
  · unfold mulNext
    rw [List.length_append, List.length_take, hl, List.length_drop]
    omega
  · exact Small.app (h.small.take i) (mulRow_small _ hx b _ 0 hb (h.small.drop i) (by omega))
  · have hP : val P = val (P.take i) + 10 ^ i * val (P.drop i) := by
      conv => lhs; rw [← List.take_append_drop i P, val_app, List.length_take, Nat.min_eq_left (by omega)]
    unfold mulNext
    rw [val_app, mulRow_val _ b _ 0 hz, List.length_take, Nat.min_eq_left (by omega), take_snoc' a i hi, val_app, List.length_take, Nat.min_eq_left (by omega), Nat.add_zero, Nat.mul_add, ← Nat.add_assoc, ← hP, h.value, Nat.add_mul]
    show _ = _ + 10 ^ i * (a.getD i 0 + 10 * 0) * val b
    rw [Nat.mul_zero, Nat.add_zero, Nat.mul_assoc]
  · unfold mulNext
    rw [List.getD_eq_getElem?_getD, List.getElem?_append_right (by rw [List.length_take]; omega), ← List.getD_eq_getElem?_getD, List.length_take, Nat.min_eq_left (by omega), mulRow_behind _ _ _ _ _ (by omega), getD_drop', show i + (j - i) = j by omega]
    exact h.zeros j (by omega)
theorem MulI.start (a b : List Nat) : MulI a b 0 (List.replicate (a.length + b.length) 0) := by
  refine ⟨by simp, Small.zeros _, by rw [val_zeros]; simp [val], fun j _ => ?_⟩
  rw [List.getD_eq_getElem?_getD]
  cases h : (List.replicate (a.length + b.length) 0)[j]? with
  | none => rfl
  | some x => exact List.eq_of_mem_replicate (List.mem_of_getElem? h)
/-- Inside a row: k words of the second factor are done. -/
theorem row_step (x c : Nat) (b Q : List Nat) (i k : Nat) (hk : k < b.length) (hQ : i + k < Q.length) (R : List Nat) (h : Q.take (i + k) ++ mulRow x (b.drop k) (Q.drop (i + k)) c = R) :
    (Q.set (i + k) ((x * b.getD k 0 + Q.getD (i + k) 0 + c) % 10)).take (i + (k + 1)) ++ mulRow x (b.drop (k + 1)) ((Q.set (i + k) ((x * b.getD k 0 + Q.getD (i + k) 0 + c) % 10)).drop (i + (k + 1))) ((x * b.getD k 0 + Q.getD (i + k) 0 + c) / 10) = R := by
  rw [← h]
  have e1 : b.drop k = b.getD k 0 :: b.drop (k + 1) := by
    rw [List.drop_eq_getElem_cons hk, List.getD_eq_getElem?_getD, List.getElem?_eq_getElem hk]; rfl
  have e2 : Q.drop (i + k) = Q.getD (i + k) 0 :: Q.drop (i + k + 1) := by
    rw [List.drop_eq_getElem_cons hQ, List.getD_eq_getElem?_getD, List.getElem?_eq_getElem hQ]; rfl
  conv => rhs; rw [e1, e2, mulRow]
  rw [List.headD_cons, List.tail_cons, ← Nat.add_assoc, List.drop_set_of_lt (by omega)]
  rw [List.take_add_one, List.getElem?_set_self hQ, List.take_set_of_le (by omega), List.append_assoc]
  rfl
theorem row_end (x c : Nat) (b Q : List Nat) (i : Nat) (hQ : i + b.length < Q.length) : Q.take (i + b.length) ++ mulRow x (b.drop b.length) (Q.drop (i + b.length)) c = Q.set (i + b.length) c := by
  rw [List.drop_length, mulRow, List.tail_drop, List.set_eq_take_append_cons_drop, if_pos hQ]
theorem getD_set_ne (l : List Nat) (i j x : Nat) (h : i ≠ j) : (l.set i x).getD j 0 = l.getD j 0 := by
  rw [List.getD_eq_getElem?_getD, List.getD_eq_getElem?_getD, List.getElem?_set_ne h]
theorem set_same (l : List Nat) (j : Nat) (hj : j < l.length) : l.set j (l.getD j 0) = l := by
  rw [List.getD_eq_getElem?_getD, List.getElem?_eq_getElem hj]
  exact List.set_getElem_self hj
theorem reverse_set (l : List Nat) (j x : Nat) (hj : j < l.length) : (l.set j x).reverse = l.reverse.set (l.length - 1 - j) x := by
  apply List.ext_getElem
  · simp
  · intro i h1 h2
    rw [List.length_reverse, List.length_set] at h1
    rw [List.getElem_reverse, List.getElem_set, List.getElem_set, List.getElem_reverse]
    simp only [List.length_set]
    by_cases h : j = l.length - 1 - i
    · rw [if_pos h, if_pos (by omega)]
    · rw [if_neg h, if_neg (by omega)]
theorem getD_reverse (l : List Nat) (j : Nat) (hj : j < l.length) : l.reverse.getD (l.length - 1 - j) 0 = l.getD j 0 := by
  rw [List.getD_eq_getElem?_getD, List.getD_eq_getElem?_getD, List.getElem?_reverse (by omega), show l.length - 1 - (l.length - 1 - j) = j by omega]
end Go.Proofs.YtdfgifnccghlmabGreatDoor.R
namespace Go.Proofs.YtdfgifnccghlmabGreatDoor.R
open Go.RowKit Go.Lib
open Go.Proofs.YtdfgifnccghlmabGreatDoor (trimW trimW_snoc trimW_le take_snoc' lt_of_cell cmpD cmpD_app sgnN below_drewN heap_drewN getD_drop0 tail_drop)

theorem RowI.drewN {w : World} {B : Nat} {l : List Nat} (h : RowI w B l) (n : Nat) : RowI (w.drewN n) B l := by unfold RowI at h ⊢; rw [heap_drewN]; exact h
set_option maxHeartbeats 8000000 in
set_option maxRecDepth 100000 in
theorem mul_any (u v : Value) (a b : List Nat) (ha : Small a) (hb : Small b) (ha9 : a.length < 100000000) (hb9 : b.length < 100000000) (w : World) (hu : Digs w u a) (hv : Digs w v b) :
    Calls Tryz.prog 93 #[u, v] w fun e w' => ∃ x, e = .returned x ∧ Digs w' x (wordsOf (val a * val b)) ∧ Below w.heap.size w w' := by
  obtain ⟨p1, c1, rfl⟩ := hu.shape
  obtain ⟨p2, c2, rfl⟩ := hv.shape
  obtain ⟨n, hn⟩ : ∃ n, a.length + b.length = n := ⟨_, rfl⟩
  have hn9 : n ≤ 200000000 := by omega
  have hmk := make_ints n (by omega) w
  have hnz : (n : Int) = (a.length : Int) + (b.length : Int) := by omega
  rw [hnz] at hmk
  obtain ⟨W1, hW1⟩ : ∃ W1, w.alloc (.cells (i64Cells (List.replicate n 0)) 3) = W1 := ⟨_, rfl⟩
  have hR1 : RowI W1 w.heap.size (List.replicate n 0).reverse := by rw [← hW1, List.reverse_replicate]; exact made_rowI w n
  have hb1 : Below w.heap.size w W1 := by rw [← hW1]; exact (Below.refl _ _).alloc (Nat.le_refl _) _
  rw [hW1] at hmk
  have hM0 := MulI.start a b
  rw [hn] at hM0
  clear hW1
  have cA := fun (i : Nat) (hi : i < 1000000000) W (hW : Below w.heap.size w W) => at_any _ a i hi (by omega) W (hu.later hW)
  have cB := fun (i : Nat) (hi : i < 1000000000) W (hW : Below w.heap.size w W) => at_any _ b i hi (by omega) W (hv.later hW)
  clear hu hv
  go_enter Tryz.func93, Tryz.ntmps93
  go_wp2_with fail
  clear hnz hmk
  go_loopg [6] a.length (fun g s6 wx => ∃ (i : Nat) (P : List Nat), s6 = .int .i64 i ∧ i + g = a.length ∧ MulI a b i P ∧ RowI wx w.heap.size P.reverse ∧ Below w.heap.size w wx)
  case atStart => exact ⟨0, _, rfl, by omega, hM0, hR1, hb1⟩
  case round =>
    clear hR1 hb1 hM0
    obtain ⟨i, P, rfl, hig, hM, hR, hbx⟩ := hrel
    by_cases hlt : i < a.length
    · obtain ⟨g, rfl⟩ : ∃ g, gk = g + 1 := ⟨gk - 1, by omega⟩
      have hil : (i : Int) < (a.length : Int) := by omega
      have hMn := hM.next ha hb hlt
      have hPl := hM.len
      have hPs := hM.small
      have hPz := hM.zeros (i + b.length) (Nat.le_refl _)
      have xs := ha.getD i
      have kA := fun W (hW : Below w.heap.size w W) => (cA i (by omega) W hW).mono (fun e w' h => (And.intro h.1 h.2.symm : e = _ ∧ w' = W))
      obtain ⟨NX, hNX⟩ : ∃ Q, mulNext (a.getD i 0) b P i = Q := ⟨_, rfl⟩
      rw [hNX] at hMn
      have HN := Lib.hid (show P.take (i + 0) ++ mulRow (a.getD i 0) (b.drop 0) (P.drop (i + 0)) 0 = NX from hNX)
      clear hNX hM cA
      generalize a.getD i 0 = x at *
      go_wp2_with fail
      go_loopg [7, 8] b.length (fun g2 s7 s8 wx => ∃ (k c : Nat) (Q : List Nat), s8 = .int .i64 k ∧ k + g2 = b.length ∧ s7 = .int .i64 c ∧ c < 10 ∧ Hid (Q.length = n) ∧ Small Q ∧ Hid (Q.getD (i + b.length) 0 = 0) ∧ RowI wx w.heap.size Q.reverse ∧ Below w.heap.size w wx ∧ Hid (Q.take (i + k) ++ mulRow x (b.drop k) (Q.drop (i + k)) c = NX))
      case atStart => exact ⟨0, 0, P, rfl, by omega, rfl, by omega, Lib.hid (by omega), hPs, Lib.hid hPz, hR, hbx, HN⟩
      case round =>
        clear HN hR hbx hPl hPs hPz
        obtain ⟨k, c, Q, rfl, hkg, rfl, hc, hQl, hQs, hQz, hR, hbx, HK⟩ := hrel
        by_cases hkt : k < b.length
        · obtain ⟨g2, rfl⟩ : ∃ g2, gk = g2 + 1 := ⟨gk - 1, by omega⟩
          have hkl : (k : Int) < (b.length : Int) := by omega
          have hQn := hQl.out
          have hstep := row_step x c b Q i k hkt (by omega) NX HK.out
          have ys := hb.getD k
          have qs := hQs.getD (i + k)
          have kB := fun W (hW : Below w.heap.size w W) => (cB k (by omega) W hW).mono (fun e w' h => (And.intro h.1 h.2.symm : e = _ ∧ w' = W))
          obtain ⟨p, hp⟩ : ∃ p, n - 1 - (i + k) = p := ⟨_, rfl⟩
          have hcq := hR.cell p (by rw [List.length_reverse]; omega)
          have hpe : Q.reverse.getD p 0 = Q.getD (i + k) 0 := by rw [← hp, ← hQn]; exact getD_reverse Q (i + k) (by omega)
          rw [hpe] at hcq
          have hfr := hR.frozen p
          obtain ⟨Q2, hQ2⟩ : ∃ Q2, Q.set (i + k) ((x * b.getD k 0 + Q.getD (i + k) 0 + c) % 10) = Q2 := ⟨_, rfl⟩
          have hset : RowI (wr.setCell ⟨w.heap.size, p, none⟩ (.int .i64 (((x * b.getD k 0 + Q.getD (i + k) 0 + c) % 10 : Nat) : Int))) w.heap.size Q2.reverse := by
            rw [← hQ2, reverse_set Q _ _ (by omega), hQn, hp]
            exact hR.set p _
          have hQ2l := Lib.hid (show Q2.length = n by rw [← hQ2, List.length_set]; exact hQn)
          have hQ2z := Lib.hid (show Q2.getD (i + b.length) 0 = 0 by rw [← hQ2, getD_set_ne _ _ _ _ (by omega)]; exact hQz.out)
          have hsm : Small Q2 := by
            intro z hz
            rw [← hQ2] at hz
            rcases List.mem_or_eq_of_mem_set hz with hz | rfl
            · exact hQs z hz
            · exact Nat.mod_lt _ (by omega)
          rw [hQ2] at hstep
          have HSP := Lib.hid hstep
          have hqi : (n : Int) - 1 - (i : Int) - (k : Int) = (p : Int) := by omega
          have hpn : (p : Int) < (n : Int) := by omega
          have hp9 : p < 200000000 := by omega
          clear HK hstep hMn hQ2 hpe hp hQn hQz hQs cB
          generalize b.getD k 0 = y at *
          generalize Q.getD (i + k) 0 = z at *
          obtain ⟨X, hX⟩ : ∃ X, x * y = X := ⟨_, rfl⟩
          have hXz : (x : Int) * (y : Int) = (X : Int) := by rw [← hX]; exact (Int.natCast_mul x y).symm
          have hXl : X ≤ 9 * 9 := by rw [← hX]; exact Nat.mul_le_mul (by omega) (by omega)
          rw [hX] at hset HSP
          clear hX
          have hcast : (((X + z + c) % 10 : Nat) : Int) = ((z : Int) + (X : Int) + (c : Int)) % 10 := by omega
          have hcast2 : (((X + z + c) / 10 : Nat) : Int) = ((z : Int) + (X : Int) + (c : Int)) / 10 := by omega
          have hc2 : (X + z + c) / 10 < 10 := by omega
          have HR2 := Lib.hid hR
          have HS := Lib.hid hset
          have HQn := hQl
          have i1 : IntKind.i64.wrap ((x : Int) * (y : Int)) = (X : Int) := by rw [hXz, IntKind.wrap_i64]; omega
          have i2 : IntKind.i64.wrap ((z : Int) + (X : Int)) = (z : Int) + (X : Int) := by rw [IntKind.wrap_i64]; omega
          have i3 : IntKind.i64.wrap ((z : Int) + (X : Int) + (c : Int)) = (z : Int) + (X : Int) + (c : Int) := by rw [IntKind.wrap_i64]; omega
          clear hset hR
          go_wp2_with fail
          go_quiet ((go_at_call 137; first | with_reducible exact Calls.quiet_of_same (kA _ (below_drewN hbx _)) | with_reducible exact Calls.quiet_of_same (kB _ (below_drewN hbx _))))
          have hbq := below_drewN hbx nq
          have hRq := HR2.out.drewN nq
          have hset2 : RowI ((wr.drewN nq).setCell ⟨w.heap.size, p, none⟩ (.int .i64 (((z : Int) + (X : Int) + (c : Int)) % 10))) w.heap.size Q2.reverse := by
            have := HS.out.drewN nq
            rw [hcast] at this
            exact this
          generalize wr.drewN nq = W2 at hbq hRq hset2 ⊢
          have hcq2 := hRq.cell p (by rw [List.length_reverse]; have := HQn.out; omega)
          have hfr2 := hRq.frozen p
          obtain ⟨W3, hW3⟩ : ∃ W3, W2.setCell ⟨w.heap.size, p, none⟩ (.int .i64 (((z : Int) + (X : Int) + (c : Int)) % 10)) = W3 := ⟨_, rfl⟩
          rw [hW3] at hset2
          have hb3 : Below w.heap.size w W3 := by rw [← hW3]; exact hbq.setCell (p := ⟨w.heap.size, p, none⟩) (Nat.le_refl _) _
          generalize Q.reverse.getD p 0 = zz at *
          clear hcq hfr hbx hRq hbq
          go_wp2_with fail
          go_roundg g2
          case rel => exact ⟨k + 1, (X + z + c) / 10, Q2, by congr 1, by omega, by rw [hcast2], hc2, hQ2l, hsm, hQ2z, hset2, hb3, HSP⟩
          all_goals omega
        · obtain rfl : k = b.length := by omega
          obtain rfl : gk = 0 := by omega
          have hkl : ¬ (b.length : Int) < (b.length : Int) := by omega
          have hQn := hQl.out
          have he := HK.out
          rw [row_end _ _ _ _ _ (by omega)] at he
          by_cases hc0 : c = 0
          · subst hc0
            have hz : Q.set (i + b.length) 0 = Q := by
              have := set_same Q (i + b.length) (by omega)
              rwa [hQz.out] at this
            rw [hz] at he
            subst he
            clear HK hz hQn hQl hQz hQs cB
            go_wp2_with fail
            go_roundg g
            case rel => exact ⟨i + 1, Q, by congr 1, by omega, hMn, hR, hbx⟩
            all_goals omega
          · have hc1 : (0 : Int) < (c : Int) := by omega
            obtain ⟨p, hp⟩ : ∃ p, n - 1 - (i + b.length) = p := ⟨_, rfl⟩
            have hcq := hR.cell p (by rw [List.length_reverse]; omega)
            have hfr := hR.frozen p
            have hset : RowI (wr.setCell ⟨w.heap.size, p, none⟩ (.int .i64 ((c : Nat) : Int))) w.heap.size NX.reverse := by
              rw [← he, reverse_set Q _ _ (by omega), hQn, hp]
              exact hR.set p _
            obtain ⟨W3, hW3⟩ : ∃ W3, wr.setCell ⟨w.heap.size, p, none⟩ (.int .i64 (c : Int)) = W3 := ⟨_, rfl⟩
            rw [hW3] at hset
            have hb3 : Below w.heap.size w W3 := by rw [← hW3]; exact hbx.setCell (p := ⟨w.heap.size, p, none⟩) (Nat.le_refl _) _
            have hqi : (n : Int) - 1 - (i : Int) - (b.length : Int) = (p : Int) := by omega
            have hpn : (p : Int) < (n : Int) := by omega
            have hp9 : p < 200000000 := by omega
            generalize Q.reverse.getD p 0 = z at *
            clear HK he hR hbx hQn hQl hQz hQs cB hp
            go_wp2_with fail
            go_roundg g
            case rel => exact ⟨i + 1, NX, by congr 1, by omega, hMn, hset, hb3⟩
            all_goals omega
    · obtain rfl : i = a.length := by omega
      obtain rfl : gk = 0 := by omega
      have hil : ¬ (a.length : Int) < (a.length : Int) := by omega
      have hv := hM.value
      rw [List.take_length] at hv
      have hl := hM.len
      have htr := trimW_words P hM.small
      rw [hv] at htr
      have k := trim_any _ P (by omega) wr (hR.digs n (by omega))
      rw [htr, show P.length = n by omega] at k
      clear cA cB hM hR hl
      go_wp2_with fail
      refine k.mono ?_
      rintro e w3 ⟨x, rfl, hx, rfl⟩
      go_wp2_with fail
      go_ret
      exact ⟨x, rfl, hx, hbx⟩
end Go.Proofs.YtdfgifnccghlmabGreatDoor.R
