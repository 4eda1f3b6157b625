/- The building of a byteStringReplacer's table at the law's own pairs: the walk of (*strings.Replacer).build. -/
import Derived.Test.YtaieapldokkdnabGreatDoorCharsTable
namespace Go.Proofs.YtaieapldokkdnabGreatDoor
open Go.RowKit Go.Lib

set_option maxRecDepth 100000 in
set_option maxHeartbeats 4000000 in
theorem build_is (g b cap : Nat) (w : World) (h4 : w.cell? ⟨g, 4, none⟩ = some (.slice (some ⟨b, 0, none⟩) 8 cap)) (hP : Pairs w b) (hb : b < w.heap.size) :
    Calls Tryz.prog 63 #[.pointer (some ⟨g, 0, none⟩)] w fun e w' => ∃ q t, e = .returned (.iface 173 (.pointer (some ⟨q, 0, none⟩))) ∧ w.heap.size ≤ q ∧ w.heap.size ≤ t ∧ TabAt w' q t [13, 10, 9, 32] ∧ Below w.heap.size w w' := by
  have HP := Lib.hid hP
  clear hP
  have hbe : ∀ (a : Option Addr) (l c : Nat) (W : World), (binOp .eql 97 (.slice a l c) (.slice none 0 0)).run Tryz.prog W = .ok (.bool a.isNone) W := fun a l c W => run_eql_slice_nil W 97 5 a l c Tryz.underlying97
  go_enter Tryz.func63, Tryz.ntmps63
  go_wp2_with fail
  go_loopg [4, 5] 4 (fun g v4 v5 wx => ∃ i : Nat, v5 = .int .i64 (2 * i : Nat) ∧ v4 = .bool (decide (i = 0)) ∧ i + g = 4 ∧ Below w.heap.size w wx ∧ Hid (Pairs wx b))
  case atStart => exact ⟨0, rfl, rfl, rfl, Below.refl _ _, HP⟩
  case round =>
    obtain ⟨i, rfl, rfl, hig, hbw, HQ⟩ := hrel
    clear HP h4
    by_cases hlt : i < 4
    · obtain ⟨g, rfl⟩ : ∃ g, gk = g + 1 := ⟨gk - 1, by omega⟩
      obtain ⟨p0, p1⟩ := HQ.out.at i hlt
      obtain ⟨cb, hcb⟩ : ∃ cb : UInt8, ([32, 9, 10, 13] : List UInt8).getD i 0 = cb := ⟨_, rfl⟩
      rw [hcb] at p0
      go_wp2_with fail
      go_roundg g
      case measure => omega
      case rel => exact ⟨i + 1, by go_num, by simp, by omega, hbw, HQ⟩
    · obtain rfl : gk = 0 := by omega
      obtain rfl : i = 4 := by omega
      have hmk : (Instr.makeSlice 45 (.int .i64 0) (.int .i64 4)).run Tryz.prog wr = .ok (.slice (some ⟨wr.heap.size, 0, none⟩) 0 4) (wr.alloc (.cells (madeCells #[.string ⟨#[]⟩] 4) 9)) :=
        run_make_room 45 9 (.string ⟨#[]⟩) 16 Tryz.underlying45 (by kernel_rfl) rfl .i64 .i64 4 (by omega) (by omega) wr
      go_wp2_with fail
      rw [zero_tab, tab0_list]
      have hst := run_storeCells_new (P := Tryz.prog) (wr.alloc (.cells (madeCells #[.string ⟨#[]⟩] 4) 9)) 172 (Array.replicate 257 (.slice none 0 0)) (tab0 wr.heap.size) (by rw [tab0_size]; kernel_rfl) (by rw [tab0_size, Array.size_replicate]) (tab0_one _)
      rw [show (wr.alloc (.cells (madeCells #[.string ⟨#[]⟩] 4) 9)).heap.size = wr.heap.size + 1 by simp] at hst
      rw [hst]
      have HT := Lib.hid (TabAt.first (wr.alloc (.cells (madeCells #[.string ⟨#[]⟩] 4) 9)) wr.heap.size (madeCells #[.string ⟨#[]⟩] 4) 9 172 (by simp) (by show (wr.heap.push _)[wr.heap.size]? = _; simp) (size_madeCells _ _))
      have hbt := (hbw.alloc hbw.size (.cells (madeCells #[.string ⟨#[]⟩] 4) 9)).alloc (Nat.le_trans hbw.size (by simp)) (.cells (tab0 wr.heap.size) 172)
      have HQ2 := Lib.hid (HQ.out.later (B := wr.heap.size) (((Below.refl _ wr).alloc (Nat.le_refl _) (.cells (madeCells #[.string ⟨#[]⟩] 4) 9)).alloc (by simp) (.cells (tab0 wr.heap.size) 172)) (Nat.lt_of_lt_of_le hb hbw.size))
      clear hst hmk HQ
      go_wp2_with fail
      generalize (wr.alloc (.cells (madeCells #[.string ⟨#[]⟩] 4) 9)).alloc (.cells (tab0 wr.heap.size) 172) = w3 at HT hbt HQ2 ⊢
      have hqs := hbw.size
      generalize wr.heap.size = t at HT hqs ⊢
      go_loopg [12, 13, 14] 4 (fun g v12 v13 v14 wx => v12 = .int .i64 (2 * (g : Int) - 2) ∧ g ≤ 4 ∧ Below w.heap.size w wx ∧ Hid (TabAt wx (t + 1) t (([13, 10, 9, 32] : List UInt8).take (4 - g))) ∧ Hid (Pairs wx b))
      case atStart => exact ⟨rfl, by omega, hbt, HT, HQ2⟩
      case round =>
        obtain ⟨rfl, hg4, hbx, HX, HQX⟩ := hrel
        clear HT hbt HQ2
        by_cases hk0 : gk = 0
        · subst hk0
          go_wp2_with fail
          go_ret
          exact ⟨t + 1, t, rfl, by omega, by omega, HX.out, hbx⟩
        by_cases hk4 : gk = 4
        · subst hk4
          have HXc : TabAt wr (t + 1) t [] := HX.out
          obtain ⟨q0, q1⟩ := HQX.out.at 3 (by omega)
          have p0 : wr.cell? ⟨b, 6, none⟩ = some (.string ⟨#[13]⟩) := q0
          have p1 : wr.cell? ⟨b, 7, none⟩ = some (.string ⟨#[]⟩) := q1
          have hix : ((⟨#[13]⟩ : ByteArray)[0]'(by decide)).toNat = 13 := rfl
          have hcv : (convert 97 9 (.slice (some ⟨wr.heap.size, 0, none⟩) 1 1)).run Tryz.prog (wr.alloc (.cells #[.int .u8 13] 5)) = .ok (.string ⟨#[13]⟩) (wr.alloc (.cells #[.int .u8 13] 5)) := one_byte wr 13 5
          have hnb := no_bytes
          have hb2 : Below wr.heap.size wr ((wr.alloc (.cells #[.int .u8 13] 5)).alloc (.cells #[.string ⟨#[13]⟩] 9)) := ((Below.refl _ wr).alloc (Nat.le_refl _) _).alloc (by simp) _
          have hB0 : ((wr.alloc (.cells #[.int .u8 13] 5)).alloc (.cells #[.string ⟨#[13]⟩] 9)).cell? ⟨wr.heap.size + 1, 0, none⟩ = some (.string ⟨#[13]⟩) := by
            have e : ((wr.alloc (.cells #[.int .u8 13] 5)).alloc (.cells #[.string ⟨#[13]⟩] 9)).heap[wr.heap.size + 1]? = some (.cells #[.string ⟨#[13]⟩] 9) := by
              show ((wr.heap.push _).push _)[wr.heap.size + 1]? = _
              rw [Array.getElem?_push, if_pos (by simp)]
            exact cell_of e 0
          have hc := HXc.2.2.1 13 (by omega) (by decide)
          have r5 : wr.cell? ⟨t + 1, 256, none⟩ = some (.slice (some ⟨t, 0, none⟩) 0 4) := HXc.2.2.2.2.1
          have htl := HXc.1
          obtain ⟨W2, hW2⟩ : ∃ W2, ((wr.alloc (.cells #[.int .u8 13] 5)).alloc (.cells #[.string ⟨#[13]⟩] 9)) = W2 := ⟨_, rfl⟩
          have hb2' := hb2
          have hB0' := hB0
          rw [hW2] at hb2' hB0'
          obtain ⟨t1, _, _, _, _, _, t7, _, t9⟩ := HXc.later hb2'
          obtain ⟨v0, hv0⟩ := t7 0 (by omega)
          have hap : (Builtin.append_ #[45, 45] 45 #[.slice (some ⟨t, 0, none⟩) 0 4, .slice (some ⟨wr.heap.size + 1, 0, none⟩) 1 1]).run Tryz.prog W2 = .ok (.slice (some ⟨t, 0, none⟩) 1 4) (W2.setCell ⟨t, 0, none⟩ (.string ⟨#[13]⟩)) := add_one W2 t 0 (wr.heap.size + 1) ⟨#[13]⟩ v0 hv0 (t9 0) (by omega) hB0'
          have RR := TabAt.round (W2 := W2) 13 HXc (by decide) (by decide) hb2'
          have R1 : (W2.setCell ⟨t, 0, none⟩ (.string ⟨#[13]⟩)).cell? ⟨t + 1, 256, none⟩ = some (.slice (some ⟨t, 0, none⟩) 0 4) := RR.1.1
          have R2 : (W2.setCell ⟨t, 0, none⟩ (.string ⟨#[13]⟩)).frozen? ⟨t + 1, 256, none⟩ = false := RR.1.2
          have R3 : (Lib.bytesWorld ((W2.setCell ⟨t, 0, none⟩ (.string ⟨#[13]⟩)).setCell ⟨t + 1, 256, none⟩ (.slice (some ⟨t, 0, none⟩) 1 4)) 5 ⟨#[]⟩).cell? ⟨t + 1, 13, none⟩ = some (.slice none 0 0) := RR.2.1.1
          have R4 : (Lib.bytesWorld ((W2.setCell ⟨t, 0, none⟩ (.string ⟨#[13]⟩)).setCell ⟨t + 1, 256, none⟩ (.slice (some ⟨t, 0, none⟩) 1 4)) 5 ⟨#[]⟩).frozen? ⟨t + 1, 13, none⟩ = false := RR.2.1.2
          have R5 : ∀ a k, TabAt ((Lib.bytesWorld ((W2.setCell ⟨t, 0, none⟩ (.string ⟨#[13]⟩)).setCell ⟨t + 1, 256, none⟩ (.slice (some ⟨t, 0, none⟩) 1 4)) 5 ⟨#[]⟩).setCell ⟨t + 1, 13, none⟩ (.slice (some a) 0 k)) (t + 1) t [13] ∧
            ∀ B, B ≤ t → Below B wr ((Lib.bytesWorld ((W2.setCell ⟨t, 0, none⟩ (.string ⟨#[13]⟩)).setCell ⟨t + 1, 256, none⟩ (.slice (some ⟨t, 0, none⟩) 1 4)) 5 ⟨#[]⟩).setCell ⟨t + 1, 13, none⟩ (.slice (some a) 0 k)) := RR.2.2
          have H5 := Lib.hid R5
          clear RR R5 t7 t9 t1 hv0 hB0 hB0' hb2 hb2' HXc q0 q1
          obtain ⟨W3, hW3⟩ : ∃ W3, (W2.setCell ⟨t, 0, none⟩ (.string ⟨#[13]⟩)) = W3 := ⟨_, rfl⟩
          rw [hW3] at hap R1 R2 R3 R4 H5
          clear hW3
          go_wp2_with (at_builtin; go_must (refine wpList_append_eq W2 rfl (.tmp 119) (.tmp 123) 45 rfl _ _ _ _ rfl rfl hap ?_))
          clear hap hcv hW2 hc r5 p0 p1
          go_wp2_with fail
          go_roundg 3
          case measure => omega
          case rel =>
            have e5 := H5.out
            exact ⟨rfl, by omega, hbx.trans ((e5 _ _).2 _ hqs), Lib.hid (e5 _ _).1, Lib.hid (HQX.out.later ((e5 _ _).2 _ hqs) hb)⟩
        by_cases hk3 : gk = 3
        · subst hk3
          have HXc : TabAt wr (t + 1) t [13] := HX.out
          obtain ⟨q0, q1⟩ := HQX.out.at 2 (by omega)
          have p0 : wr.cell? ⟨b, 4, none⟩ = some (.string ⟨#[10]⟩) := q0
          have p1 : wr.cell? ⟨b, 5, none⟩ = some (.string ⟨#[]⟩) := q1
          have hix : ((⟨#[10]⟩ : ByteArray)[0]'(by decide)).toNat = 10 := rfl
          have hcv : (convert 97 9 (.slice (some ⟨wr.heap.size, 0, none⟩) 1 1)).run Tryz.prog (wr.alloc (.cells #[.int .u8 10] 5)) = .ok (.string ⟨#[10]⟩) (wr.alloc (.cells #[.int .u8 10] 5)) := one_byte wr 10 5
          have hnb := no_bytes
          have hb2 : Below wr.heap.size wr ((wr.alloc (.cells #[.int .u8 10] 5)).alloc (.cells #[.string ⟨#[10]⟩] 9)) := ((Below.refl _ wr).alloc (Nat.le_refl _) _).alloc (by simp) _
          have hB0 : ((wr.alloc (.cells #[.int .u8 10] 5)).alloc (.cells #[.string ⟨#[10]⟩] 9)).cell? ⟨wr.heap.size + 1, 0, none⟩ = some (.string ⟨#[10]⟩) := by
            have e : ((wr.alloc (.cells #[.int .u8 10] 5)).alloc (.cells #[.string ⟨#[10]⟩] 9)).heap[wr.heap.size + 1]? = some (.cells #[.string ⟨#[10]⟩] 9) := by
              show ((wr.heap.push _).push _)[wr.heap.size + 1]? = _
              rw [Array.getElem?_push, if_pos (by simp)]
            exact cell_of e 0
          have hc := HXc.2.2.1 10 (by omega) (by decide)
          have r5 : wr.cell? ⟨t + 1, 256, none⟩ = some (.slice (some ⟨t, 0, none⟩) 1 4) := HXc.2.2.2.2.1
          have htl := HXc.1
          obtain ⟨W2, hW2⟩ : ∃ W2, ((wr.alloc (.cells #[.int .u8 10] 5)).alloc (.cells #[.string ⟨#[10]⟩] 9)) = W2 := ⟨_, rfl⟩
          have hb2' := hb2
          have hB0' := hB0
          rw [hW2] at hb2' hB0'
          obtain ⟨t1, _, _, _, _, _, t7, _, t9⟩ := HXc.later hb2'
          obtain ⟨v0, hv0⟩ := t7 1 (by omega)
          have hap : (Builtin.append_ #[45, 45] 45 #[.slice (some ⟨t, 0, none⟩) 1 4, .slice (some ⟨wr.heap.size + 1, 0, none⟩) 1 1]).run Tryz.prog W2 = .ok (.slice (some ⟨t, 0, none⟩) 2 4) (W2.setCell ⟨t, 1, none⟩ (.string ⟨#[10]⟩)) := add_one W2 t 1 (wr.heap.size + 1) ⟨#[10]⟩ v0 hv0 (t9 1) (by omega) hB0'
          have RR := TabAt.round (W2 := W2) 10 HXc (by decide) (by decide) hb2'
          have R1 : (W2.setCell ⟨t, 1, none⟩ (.string ⟨#[10]⟩)).cell? ⟨t + 1, 256, none⟩ = some (.slice (some ⟨t, 0, none⟩) 1 4) := RR.1.1
          have R2 : (W2.setCell ⟨t, 1, none⟩ (.string ⟨#[10]⟩)).frozen? ⟨t + 1, 256, none⟩ = false := RR.1.2
          have R3 : (Lib.bytesWorld ((W2.setCell ⟨t, 1, none⟩ (.string ⟨#[10]⟩)).setCell ⟨t + 1, 256, none⟩ (.slice (some ⟨t, 0, none⟩) 2 4)) 5 ⟨#[]⟩).cell? ⟨t + 1, 10, none⟩ = some (.slice none 0 0) := RR.2.1.1
          have R4 : (Lib.bytesWorld ((W2.setCell ⟨t, 1, none⟩ (.string ⟨#[10]⟩)).setCell ⟨t + 1, 256, none⟩ (.slice (some ⟨t, 0, none⟩) 2 4)) 5 ⟨#[]⟩).frozen? ⟨t + 1, 10, none⟩ = false := RR.2.1.2
          have R5 : ∀ a k, TabAt ((Lib.bytesWorld ((W2.setCell ⟨t, 1, none⟩ (.string ⟨#[10]⟩)).setCell ⟨t + 1, 256, none⟩ (.slice (some ⟨t, 0, none⟩) 2 4)) 5 ⟨#[]⟩).setCell ⟨t + 1, 10, none⟩ (.slice (some a) 0 k)) (t + 1) t [13, 10] ∧
            ∀ B, B ≤ t → Below B wr ((Lib.bytesWorld ((W2.setCell ⟨t, 1, none⟩ (.string ⟨#[10]⟩)).setCell ⟨t + 1, 256, none⟩ (.slice (some ⟨t, 0, none⟩) 2 4)) 5 ⟨#[]⟩).setCell ⟨t + 1, 10, none⟩ (.slice (some a) 0 k)) := RR.2.2
          have H5 := Lib.hid R5
          clear RR R5 t7 t9 t1 hv0 hB0 hB0' hb2 hb2' HXc q0 q1
          obtain ⟨W3, hW3⟩ : ∃ W3, (W2.setCell ⟨t, 1, none⟩ (.string ⟨#[10]⟩)) = W3 := ⟨_, rfl⟩
          rw [hW3] at hap R1 R2 R3 R4 H5
          clear hW3
          go_wp2_with (at_builtin; go_must (refine wpList_append_eq W2 rfl (.tmp 119) (.tmp 123) 45 rfl _ _ _ _ rfl rfl hap ?_))
          clear hap hcv hW2 hc r5 p0 p1
          go_wp2_with fail
          go_roundg 2
          case measure => omega
          case rel =>
            have e5 := H5.out
            exact ⟨rfl, by omega, hbx.trans ((e5 _ _).2 _ hqs), Lib.hid (e5 _ _).1, Lib.hid (HQX.out.later ((e5 _ _).2 _ hqs) hb)⟩
        by_cases hk2 : gk = 2
        · subst hk2
          have HXc : TabAt wr (t + 1) t [13, 10] := HX.out
          obtain ⟨q0, q1⟩ := HQX.out.at 1 (by omega)
          have p0 : wr.cell? ⟨b, 2, none⟩ = some (.string ⟨#[9]⟩) := q0
          have p1 : wr.cell? ⟨b, 3, none⟩ = some (.string ⟨#[]⟩) := q1
          have hix : ((⟨#[9]⟩ : ByteArray)[0]'(by decide)).toNat = 9 := rfl
          have hcv : (convert 97 9 (.slice (some ⟨wr.heap.size, 0, none⟩) 1 1)).run Tryz.prog (wr.alloc (.cells #[.int .u8 9] 5)) = .ok (.string ⟨#[9]⟩) (wr.alloc (.cells #[.int .u8 9] 5)) := one_byte wr 9 5
          have hnb := no_bytes
          have hb2 : Below wr.heap.size wr ((wr.alloc (.cells #[.int .u8 9] 5)).alloc (.cells #[.string ⟨#[9]⟩] 9)) := ((Below.refl _ wr).alloc (Nat.le_refl _) _).alloc (by simp) _
          have hB0 : ((wr.alloc (.cells #[.int .u8 9] 5)).alloc (.cells #[.string ⟨#[9]⟩] 9)).cell? ⟨wr.heap.size + 1, 0, none⟩ = some (.string ⟨#[9]⟩) := by
            have e : ((wr.alloc (.cells #[.int .u8 9] 5)).alloc (.cells #[.string ⟨#[9]⟩] 9)).heap[wr.heap.size + 1]? = some (.cells #[.string ⟨#[9]⟩] 9) := by
              show ((wr.heap.push _).push _)[wr.heap.size + 1]? = _
              rw [Array.getElem?_push, if_pos (by simp)]
            exact cell_of e 0
          have hc := HXc.2.2.1 9 (by omega) (by decide)
          have r5 : wr.cell? ⟨t + 1, 256, none⟩ = some (.slice (some ⟨t, 0, none⟩) 2 4) := HXc.2.2.2.2.1
          have htl := HXc.1
          obtain ⟨W2, hW2⟩ : ∃ W2, ((wr.alloc (.cells #[.int .u8 9] 5)).alloc (.cells #[.string ⟨#[9]⟩] 9)) = W2 := ⟨_, rfl⟩
          have hb2' := hb2
          have hB0' := hB0
          rw [hW2] at hb2' hB0'
          obtain ⟨t1, _, _, _, _, _, t7, _, t9⟩ := HXc.later hb2'
          obtain ⟨v0, hv0⟩ := t7 2 (by omega)
          have hap : (Builtin.append_ #[45, 45] 45 #[.slice (some ⟨t, 0, none⟩) 2 4, .slice (some ⟨wr.heap.size + 1, 0, none⟩) 1 1]).run Tryz.prog W2 = .ok (.slice (some ⟨t, 0, none⟩) 3 4) (W2.setCell ⟨t, 2, none⟩ (.string ⟨#[9]⟩)) := add_one W2 t 2 (wr.heap.size + 1) ⟨#[9]⟩ v0 hv0 (t9 2) (by omega) hB0'
          have RR := TabAt.round (W2 := W2) 9 HXc (by decide) (by decide) hb2'
          have R1 : (W2.setCell ⟨t, 2, none⟩ (.string ⟨#[9]⟩)).cell? ⟨t + 1, 256, none⟩ = some (.slice (some ⟨t, 0, none⟩) 2 4) := RR.1.1
          have R2 : (W2.setCell ⟨t, 2, none⟩ (.string ⟨#[9]⟩)).frozen? ⟨t + 1, 256, none⟩ = false := RR.1.2
          have R3 : (Lib.bytesWorld ((W2.setCell ⟨t, 2, none⟩ (.string ⟨#[9]⟩)).setCell ⟨t + 1, 256, none⟩ (.slice (some ⟨t, 0, none⟩) 3 4)) 5 ⟨#[]⟩).cell? ⟨t + 1, 9, none⟩ = some (.slice none 0 0) := RR.2.1.1
          have R4 : (Lib.bytesWorld ((W2.setCell ⟨t, 2, none⟩ (.string ⟨#[9]⟩)).setCell ⟨t + 1, 256, none⟩ (.slice (some ⟨t, 0, none⟩) 3 4)) 5 ⟨#[]⟩).frozen? ⟨t + 1, 9, none⟩ = false := RR.2.1.2
          have R5 : ∀ a k, TabAt ((Lib.bytesWorld ((W2.setCell ⟨t, 2, none⟩ (.string ⟨#[9]⟩)).setCell ⟨t + 1, 256, none⟩ (.slice (some ⟨t, 0, none⟩) 3 4)) 5 ⟨#[]⟩).setCell ⟨t + 1, 9, none⟩ (.slice (some a) 0 k)) (t + 1) t [13, 10, 9] ∧
            ∀ B, B ≤ t → Below B wr ((Lib.bytesWorld ((W2.setCell ⟨t, 2, none⟩ (.string ⟨#[9]⟩)).setCell ⟨t + 1, 256, none⟩ (.slice (some ⟨t, 0, none⟩) 3 4)) 5 ⟨#[]⟩).setCell ⟨t + 1, 9, none⟩ (.slice (some a) 0 k)) := RR.2.2
          have H5 := Lib.hid R5
          clear RR R5 t7 t9 t1 hv0 hB0 hB0' hb2 hb2' HXc q0 q1
          obtain ⟨W3, hW3⟩ : ∃ W3, (W2.setCell ⟨t, 2, none⟩ (.string ⟨#[9]⟩)) = W3 := ⟨_, rfl⟩
          rw [hW3] at hap R1 R2 R3 R4 H5
          clear hW3
          go_wp2_with (at_builtin; go_must (refine wpList_append_eq W2 rfl (.tmp 119) (.tmp 123) 45 rfl _ _ _ _ rfl rfl hap ?_))
          clear hap hcv hW2 hc r5 p0 p1
          go_wp2_with fail
          go_roundg 1
          case measure => omega
          case rel =>
            have e5 := H5.out
            exact ⟨rfl, by omega, hbx.trans ((e5 _ _).2 _ hqs), Lib.hid (e5 _ _).1, Lib.hid (HQX.out.later ((e5 _ _).2 _ hqs) hb)⟩
        by_cases hk1 : gk = 1
        · subst hk1
          have HXc : TabAt wr (t + 1) t [13, 10, 9] := HX.out
          obtain ⟨q0, q1⟩ := HQX.out.at 0 (by omega)
          have p0 : wr.cell? ⟨b, 0, none⟩ = some (.string ⟨#[32]⟩) := q0
          have p1 : wr.cell? ⟨b, 1, none⟩ = some (.string ⟨#[]⟩) := q1
          have hix : ((⟨#[32]⟩ : ByteArray)[0]'(by decide)).toNat = 32 := rfl
          have hcv : (convert 97 9 (.slice (some ⟨wr.heap.size, 0, none⟩) 1 1)).run Tryz.prog (wr.alloc (.cells #[.int .u8 32] 5)) = .ok (.string ⟨#[32]⟩) (wr.alloc (.cells #[.int .u8 32] 5)) := one_byte wr 32 5
          have hnb := no_bytes
          have hb2 : Below wr.heap.size wr ((wr.alloc (.cells #[.int .u8 32] 5)).alloc (.cells #[.string ⟨#[32]⟩] 9)) := ((Below.refl _ wr).alloc (Nat.le_refl _) _).alloc (by simp) _
          have hB0 : ((wr.alloc (.cells #[.int .u8 32] 5)).alloc (.cells #[.string ⟨#[32]⟩] 9)).cell? ⟨wr.heap.size + 1, 0, none⟩ = some (.string ⟨#[32]⟩) := by
            have e : ((wr.alloc (.cells #[.int .u8 32] 5)).alloc (.cells #[.string ⟨#[32]⟩] 9)).heap[wr.heap.size + 1]? = some (.cells #[.string ⟨#[32]⟩] 9) := by
              show ((wr.heap.push _).push _)[wr.heap.size + 1]? = _
              rw [Array.getElem?_push, if_pos (by simp)]
            exact cell_of e 0
          have hc := HXc.2.2.1 32 (by omega) (by decide)
          have r5 : wr.cell? ⟨t + 1, 256, none⟩ = some (.slice (some ⟨t, 0, none⟩) 3 4) := HXc.2.2.2.2.1
          have htl := HXc.1
          obtain ⟨W2, hW2⟩ : ∃ W2, ((wr.alloc (.cells #[.int .u8 32] 5)).alloc (.cells #[.string ⟨#[32]⟩] 9)) = W2 := ⟨_, rfl⟩
          have hb2' := hb2
          have hB0' := hB0
          rw [hW2] at hb2' hB0'
          obtain ⟨t1, _, _, _, _, _, t7, _, t9⟩ := HXc.later hb2'
          obtain ⟨v0, hv0⟩ := t7 3 (by omega)
          have hap : (Builtin.append_ #[45, 45] 45 #[.slice (some ⟨t, 0, none⟩) 3 4, .slice (some ⟨wr.heap.size + 1, 0, none⟩) 1 1]).run Tryz.prog W2 = .ok (.slice (some ⟨t, 0, none⟩) 4 4) (W2.setCell ⟨t, 3, none⟩ (.string ⟨#[32]⟩)) := add_one W2 t 3 (wr.heap.size + 1) ⟨#[32]⟩ v0 hv0 (t9 3) (by omega) hB0'
          have RR := TabAt.round (W2 := W2) 32 HXc (by decide) (by decide) hb2'
          have R1 : (W2.setCell ⟨t, 3, none⟩ (.string ⟨#[32]⟩)).cell? ⟨t + 1, 256, none⟩ = some (.slice (some ⟨t, 0, none⟩) 3 4) := RR.1.1
          have R2 : (W2.setCell ⟨t, 3, none⟩ (.string ⟨#[32]⟩)).frozen? ⟨t + 1, 256, none⟩ = false := RR.1.2
          have R3 : (Lib.bytesWorld ((W2.setCell ⟨t, 3, none⟩ (.string ⟨#[32]⟩)).setCell ⟨t + 1, 256, none⟩ (.slice (some ⟨t, 0, none⟩) 4 4)) 5 ⟨#[]⟩).cell? ⟨t + 1, 32, none⟩ = some (.slice none 0 0) := RR.2.1.1
          have R4 : (Lib.bytesWorld ((W2.setCell ⟨t, 3, none⟩ (.string ⟨#[32]⟩)).setCell ⟨t + 1, 256, none⟩ (.slice (some ⟨t, 0, none⟩) 4 4)) 5 ⟨#[]⟩).frozen? ⟨t + 1, 32, none⟩ = false := RR.2.1.2
          have R5 : ∀ a k, TabAt ((Lib.bytesWorld ((W2.setCell ⟨t, 3, none⟩ (.string ⟨#[32]⟩)).setCell ⟨t + 1, 256, none⟩ (.slice (some ⟨t, 0, none⟩) 4 4)) 5 ⟨#[]⟩).setCell ⟨t + 1, 32, none⟩ (.slice (some a) 0 k)) (t + 1) t [13, 10, 9, 32] ∧
            ∀ B, B ≤ t → Below B wr ((Lib.bytesWorld ((W2.setCell ⟨t, 3, none⟩ (.string ⟨#[32]⟩)).setCell ⟨t + 1, 256, none⟩ (.slice (some ⟨t, 0, none⟩) 4 4)) 5 ⟨#[]⟩).setCell ⟨t + 1, 32, none⟩ (.slice (some a) 0 k)) := RR.2.2
          have H5 := Lib.hid R5
          clear RR R5 t7 t9 t1 hv0 hB0 hB0' hb2 hb2' HXc q0 q1
          obtain ⟨W3, hW3⟩ : ∃ W3, (W2.setCell ⟨t, 3, none⟩ (.string ⟨#[32]⟩)) = W3 := ⟨_, rfl⟩
          rw [hW3] at hap R1 R2 R3 R4 H5
          clear hW3
          go_wp2_with (at_builtin; go_must (refine wpList_append_eq W2 rfl (.tmp 119) (.tmp 123) 45 rfl _ _ _ _ rfl rfl hap ?_))
          clear hap hcv hW2 hc r5 p0 p1
          go_wp2_with fail
          go_roundg 0
          case measure => omega
          case rel =>
            have e5 := H5.out
            exact ⟨rfl, by omega, hbx.trans ((e5 _ _).2 _ hqs), Lib.hid (e5 _ _).1, Lib.hid (HQX.out.later ((e5 _ _).2 _ hqs) hb)⟩
        omega
end Go.Proofs.YtaieapldokkdnabGreatDoor
