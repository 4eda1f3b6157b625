/- The table's Replace: the bytes of the table are left out. -/
import Derived.Test.YtaieapldokkdnabGreatDoorCharsReplace
import Derived.Test.YtaieapldokkdnabGreatDoorCharsPlain9
import Derived.Test.YtaieapldokkdnabGreatDoorCharsLawSpaces
import Derived.Laws.CopyOwn
namespace Go.Proofs.YtaieapldokkdnabGreatDoor
open Go.RowKit Go.Lib

theorem str_same {a b : ByteArray} (h : b.data.toList = a.data.toList) : a = b := by
  have : a.data = b.data := Array.toList_inj.1 h.symm
  cases a; cases b; simpa using this
theorem TabAt.byte {w : World} {q t : Nat} (h : TabAt w q t [13, 10, 9, 32]) (c : UInt8) : (whiteB c = true ∧ ∃ a k, w.cell? ⟨q, c.toNat, none⟩ = some (.slice (some a) 0 k)) ∨ (whiteB c = false ∧ w.cell? ⟨q, c.toNat, none⟩ = some (.slice none 0 0)) := by
  cases hw : whiteB c
  · right
    refine ⟨rfl, h.2.2.1 c.toNat c.toNat_lt ?_⟩
    rw [whiteB_in] at hw
    simpa using hw
  · left
    rw [whiteB_in] at hw
    exact ⟨rfl, h.2.2.2.1 c (by simpa using hw)⟩
/-- A row of m bytes at block B whose first ones are acc. -/
def Buf (w : World) (B m : Nat) (acc : List UInt8) : Prop :=
  B < w.heap.size ∧ (∀ j, j < m → ∃ v, w.cell? ⟨B, j, none⟩ = some v) ∧ (∀ j, w.frozen? ⟨B, j, none⟩ = false) ∧ ∀ j b, acc[j]? = some b → w.cell? ⟨B, j, none⟩ = some (.int .u8 (b.toNat : Int))
theorem Buf.made {w : World} {B m : Nat} {cs : Array Value} {T : TypeId} (h : w.heap[B]? = some (.cells cs T)) (hs : cs.size = m) (hB : B < w.heap.size) : Buf w B m [] :=
  ⟨hB, fun j hj => ⟨_, (cell_of h j).trans (Array.getElem?_eq_getElem (by omega))⟩, fun j => frozen_of h j, fun j b hj => nomatch hj⟩
theorem Buf.push {w : World} {B m : Nat} {acc : List UInt8} (h : Buf w B m acc) (hl : acc.length < m) (b : UInt8) : Buf (w.setCell ⟨B, acc.length, none⟩ (.int .u8 (b.toNat : Int))) B m (acc ++ [b]) := by
  obtain ⟨h1, h2, h3, h4⟩ := h
  have ne : ∀ i j : Nat, i ≠ j → (⟨B, i, none⟩ : Addr) ≠ ⟨B, j, none⟩ := fun i j hij e => hij (by have := congrArg Addr.off e; simpa using this)
  obtain ⟨v0, hv0⟩ := h2 acc.length hl
  refine ⟨by simpa [World.setCell] using h1, fun j hj => ?_, fun j => by rw [World.frozen?_setCell]; exact h3 j, fun j c hj => ?_⟩
  · by_cases e : j = acc.length
    · subst e; exact ⟨_, World.cell?_setCell_same _ _ _ hv0⟩
    · rw [World.cell?_setCell_other _ _ _ _ (ne _ _ (fun x => e x.symm))]; exact h2 j hj
  · by_cases e : j = acc.length
    · subst e
      rw [List.getElem?_append_right (Nat.le_refl _), Nat.sub_self] at hj
      simp at hj
      rw [← hj]; exact World.cell?_setCell_same _ _ _ hv0
    · have hjd : j < acc.length := by
        have := (List.getElem?_eq_some_iff.1 hj).1
        rw [List.length_append] at this
        simp at this; omega
      rw [List.getElem?_append_left hjd] at hj
      rw [World.cell?_setCell_other _ _ _ _ (ne _ _ (fun x => e x.symm))]; exact h4 j c hj
theorem take_more (s : ByteArray) (i : Nat) (h : i < s.size) : s.data.toList.take (i + 1) = s.data.toList.take i ++ [s[i]] := by
  have hl : i < s.data.toList.length := by rw [← size_eq]; exact h
  rw [List.take_add_one, List.getElem?_eq_getElem hl]
  rfl
theorem bare_take_le (l : List UInt8) (i : Nat) : (bare (l.take i)).length ≤ (bare l).length := by
  unfold bare
  exact ((List.take_sublist i l).filter _).length_le
theorem bare_take_white (s : ByteArray) (i : Nat) (h : i < s.size) (hw : whiteB s[i] = true) : bare (s.data.toList.take (i + 1)) = bare (s.data.toList.take i) := by
  rw [take_more s i h]
  unfold bare
  rw [List.filter_append]
  simp [hw]
theorem bare_take_other (s : ByteArray) (i : Nat) (h : i < s.size) (hw : whiteB s[i] = false) : bare (s.data.toList.take (i + 1)) = bare (s.data.toList.take i) ++ [s[i]] := by
  rw [take_more s i h]
  unfold bare
  rw [List.filter_append]
  simp [hw]
set_option maxRecDepth 100000 in
set_option maxHeartbeats 2000000 in
theorem swap_short (q t : Nat) (s r : ByteArray) (w : World) (hs : s.size < 32) (hT : TabAt w q t [13, 10, 9, 32]) (HR : Hid (bare s.data.toList = r.data.toList)) :
    Calls Tryz.prog 272 #[.pointer (some ⟨q, 0, none⟩), .string s] w fun e w' => e = .returned (.string r) ∧ Below w.heap.size w w' := by
  have hneq : ∀ (a : Option Addr) (l c : Nat) (W : World), (binOp .neq 97 (.slice a l c) (.slice none 0 0)).run Tryz.prog W = .ok (.bool (!a.isNone)) W := fun a l c W => run_neq_slice_nil W 97 5 a l c Tryz.underlying97
  have h256 := hT.2.2.2.2.1
  have h256' : w.cell? ⟨q, 256, none⟩ = some (.slice (some ⟨t, 0, none⟩) 4 4) := h256
  have HT := Lib.hid hT
  clear hT h256
  go_enter Tryz.func272, Tryz.ntmps272
  go_wp2_with fail
  go_loopg [10, 11, 5, 6] s.size (fun g v10 v11 v5 v6 wx => ∃ (i z m : Nat), v10 = .int .i64 i ∧ i + g = s.size ∧ v5 = .int .i64 m ∧ m + z = s.size ∧ v6 = .bool (!decide (z = 0)) ∧ Hid ((s.data.toList.take i).countP whiteB = z) ∧ z ≤ i ∧ Below w.heap.size w wx ∧ Hid (TabAt wx q t [13, 10, 9, 32]))
  case atStart => exact ⟨0, 0, s.size, rfl, by omega, rfl, by omega, rfl, Lib.hid rfl, by omega, Below.refl _ _, HT⟩
  case round =>
    obtain ⟨i, z, m, rfl, hig, rfl, hmz, rfl, Hz, hzi, hbw, HX⟩ := hrel
    clear HT h256'
    by_cases hlt : i < s.size
    · obtain ⟨g, rfl⟩ : ∃ g, gk = g + 1 := ⟨gk - 1, by omega⟩
      have htm := take_more s i hlt
      have hbd : (s[i].toNat : Int) < 256 := by have := (s[i]).toNat_lt; omega
      rcases HX.out.byte (s[i]) with ⟨hw, a, k, hc⟩ | ⟨hw, hc⟩
      · have hne := hneq (some a) 0 k
        have Hz' := Lib.hid (show (s.data.toList.take (i + 1)).countP whiteB = z + 1 by rw [htm, List.countP_append, Hz.out]; simp [hw])
        clear htm
        go_wp2_with fail
        go_roundg g
        case measure => omega
        case rel => exact ⟨i + 1, z + 1, m - 1, by go_num, by omega, by go_num, by omega, by simp, Hz', by omega, hbw, HX⟩
      · have hne := hneq none 0 0
        have Hz' := Lib.hid (show (s.data.toList.take (i + 1)).countP whiteB = z by rw [htm, List.countP_append, Hz.out]; simp [hw])
        clear htm
        go_wp2_with fail
        go_roundg g
        case measure => omega
        case rel => exact ⟨i + 1, z, m, by go_num, by omega, rfl, by omega, rfl, Hz', by omega, hbw, HX⟩
    · obtain rfl : gk = 0 := by omega
      have hif : s.data.toList.take i = s.data.toList := List.take_of_length_le (by rw [← size_eq]; omega)
      rw [hif] at Hz
      clear hif
      rcases Nat.eq_zero_or_pos z with hz0 | hz0
      · subst hz0
        have hrs : s = r := str_same (by rw [← HR.out]; exact bare_same _ Hz.out)
        subst hrs
        go_wp2_with fail
        go_ret
        exact ⟨rfl, hbw⟩
      · have hzn : ¬ z = 0 := by omega
        obtain ⟨i0, hi, hi1, hi2, hi3⟩ : ∃ i0, Tryz.prog.info? 5 = some i0 ∧ i0.zero = some (.int .u8 0) ∧ i0.size = 1 ∧ i0.bytes = 1 := by
          have h : (Tryz.prog.info? 5).map (fun i => (i.zero, i.size, i.bytes)) = some (some (.int .u8 0), 1, 1) := by kernel_rfl
          obtain ⟨i, hi, hh⟩ := Option.map_eq_some_iff.1 h
          simp only [Prod.mk.injEq] at hh
          exact ⟨i, hi, hh.1, hh.2.1, hh.2.2⟩
        have hmk := run_make (P := Tryz.prog) wr 97 5 i0 (.int .u8 0) Tryz.underlying97 hi hi1 .i64 .i64 (m : Int) (m : Int) (by omega) (by omega) (by rw [hi3]; omega) (by omega)
        rw [Int.toNat_natCast, hi2, Nat.mul_one] at hmk
        have hmk' : (Instr.makeSlice 97 (.int .i64 (m : Int)) (.int .i64 (m : Int))).run Tryz.prog wr = .ok (.slice (some ⟨wr.heap.size, 0, none⟩) m m) (wr.alloc (.cells (madeCells #[.int .u8 0] m) 5)) := hmk
        clear hmk
        have hB0 : (wr.alloc (.cells (madeCells #[.int .u8 0] m) 5)).heap[wr.heap.size]? = some (.cells (madeCells #[.int .u8 0] m) 5) := by
          show (wr.heap.push _)[wr.heap.size]? = _
          simp
        have hBuf : Buf (wr.alloc (.cells (madeCells #[.int .u8 0] m) 5)) wr.heap.size m [] := Buf.made hB0 (size_madeCells _ _) (by simp)
        have hbw2 := hbw.alloc hbw.size (.cells (madeCells #[.int .u8 0] m) 5)
        have hTa := HX.out.later ((Below.refl _ wr).alloc (Nat.le_refl _) (.cells (madeCells #[.int .u8 0] m) 5))
        have HBuf := Lib.hid hBuf
        have HTa := Lib.hid hTa
        have hBsz := hbw.size
        have hqB := HX.out.2.1
        have htB := HX.out.1
        clear hB0 hBuf hTa HX
        go_wp2_with fail
        clear hmk'
        generalize wr.alloc (.cells (madeCells #[.int .u8 0] m) 5) = w4 at HBuf HTa hbw2 ⊢
        generalize wr.heap.size = B at HBuf hBsz hqB htB ⊢
        go_loopg [13, 14, 15] s.size (fun g v13 v14 v15 wx => ∃ (i : Nat), v14 = .int .i64 i ∧ i + g = s.size ∧ v13 = .int .i64 ((bare (s.data.toList.take i)).length : Nat) ∧ Below w.heap.size w wx ∧ Hid (TabAt wx q t [13, 10, 9, 32]) ∧ Hid (Buf wx B m (bare (s.data.toList.take i))))
        case atStart => exact ⟨0, rfl, by omega, rfl, hbw2, HTa, HBuf⟩
        case round =>
          obtain ⟨i, rfl, hig, rfl, hbx, HX, HBx⟩ := hrel
          clear HTa HBuf hbw2 hbw
          by_cases hlt : i < s.size
          · obtain ⟨g, rfl⟩ : ∃ g, gk = g + 1 := ⟨gk - 1, by omega⟩
            have hlen := bare_take_le s.data.toList i
            rw [HR.out, ← size_eq] at hlen
            have hrm : r.size = m := by
              have h1 := bare_len s.data.toList
              rw [HR.out, ← size_eq, ← size_eq, Hz.out] at h1; omega
            have hbd : (s[i].toNat : Int) < 256 := by have := (s[i]).toNat_lt; omega
            rcases HX.out.byte (s[i]) with ⟨hw, a, k, hc⟩ | ⟨hw, hc⟩
            · have hne := hneq (some a) 0 k
              have hstep := bare_take_white s i hlt hw
              have hcp : ∀ (d : Option Addr) (n : Nat) (W : World), (Builtin.copy_ #[97, 97] 3 #[.slice d n n, .slice (some a) 0 k]).run Tryz.prog W = .ok (goInt 0) W := fun d n W => run_copy_none (P := Tryz.prog) W 97 97 3 5 _ _ n n 0 k Tryz.underlying97 (by kernel_rfl) (Nat.zero_min _)
              obtain ⟨L, hL⟩ : ∃ L, (bare (s.data.toList.take i)).length = L := ⟨_, rfl⟩
              rw [hL]
              rw [hL] at hlen
              have hLm : L ≤ m := by omega
              have HL := Lib.hid hL
              clear hL
              by_cases hmL : m = L
              · subst hmL
                go_wp2_with fail
                go_region
                go_wp2_with fail
                go_roundg g
                case measure => omega
                case rel => exact ⟨i + 1, by go_num, by omega, by rw [hstep, HL.out], hbx.drew, Lib.hid HX.out.drew, Lib.hid (show Buf _ B _ (bare (s.data.toList.take (i + 1))) from hstep ▸ HBx.out)⟩
              · go_wp2_with fail
                go_region
                go_wp2_with fail
                go_roundg g
                case measure => omega
                case rel => exact ⟨i + 1, by go_num, by omega, by rw [hstep, HL.out], hbx.drew, Lib.hid HX.out.drew, Lib.hid (show Buf _ B _ (bare (s.data.toList.take (i + 1))) from hstep ▸ HBx.out)⟩
            · have hne := hneq none 0 0
              have hstep := bare_take_other s i hlt hw
              have hlt2 : (bare (s.data.toList.take i)).length < m := by
                have h1 := bare_take_le s.data.toList (i + 1)
                rw [hstep, HR.out, ← size_eq, List.length_append, hrm] at h1
                simp at h1; omega
              obtain ⟨v0, hv0⟩ := HBx.out.2.1 _ hlt2
              have hz0' := HBx.out.2.2.1 (bare (s.data.toList.take i)).length
              have HB2 := Lib.hid (HBx.out.push hlt2 s[i])
              have HX2 := Lib.hid (HX.out.other B (bare (s.data.toList.take i)).length (.int .u8 (s[i].toNat : Int)) (by omega) (by omega))
              go_wp2_with fail
              go_roundg g
              case measure => omega
              case rel => exact ⟨i + 1, by go_num, by omega, by rw [hstep, List.length_append]; go_num, hbx.setCell hBsz _, HX2, Lib.hid (hstep ▸ HB2.out)⟩
          · obtain rfl : gk = 0 := by omega
            have hif : s.data.toList.take i = s.data.toList := List.take_of_length_le (by rw [← size_eq]; omega)
            rw [hif] at HBx
            have hrm : (bare s.data.toList).length = m := by
              have h1 := bare_len s.data.toList
              rw [← size_eq, Hz.out] at h1; omega
            have hcv := run_convert_bytes_back (P := Tryz.prog) wr 97 9 5 ⟨B, 0, none⟩ m (bare s.data.toList) Tryz.underlying97 Tryz.underlying5 Tryz.underlying9 (fun j hj => by
              have e0 : (⟨B, 0, none⟩ : Addr).add j = ⟨B, j, none⟩ := by rw [Addr.add_lit, Nat.zero_add]
              rw [e0]
              exact HBx.out.2.2.2 j _ (List.getElem?_eq_getElem hj))
            rw [hrm, HR.out] at hcv
            have hstr : (⟨r.data.toList.toArray⟩ : ByteArray) = r := str_same rfl
            rw [hstr] at hcv
            clear hif hrm hstr
            go_wp2_with fail
            go_ret
            exact ⟨rfl, hbx⟩
def sumc (l : List UInt8) (k : Nat) : Nat := ((([13, 10, 9, 32] : List UInt8).take k).map fun c => l.count c).sum
theorem sumc_all (l : List UInt8) : sumc l 4 = l.countP whiteB := by
  rw [← count_white]
  simp [sumc]
  omega
theorem sumc1 (l : List UInt8) : sumc l 1 = l.count 13 := by simp [sumc]
theorem sumc2 (l : List UInt8) : sumc l 2 = l.count 13 + l.count 10 := by simp [sumc]
theorem sumc3 (l : List UInt8) : sumc l 3 = l.count 13 + l.count 10 + l.count 9 := by simp [sumc]; omega
theorem sumc4 (l : List UInt8) : sumc l 4 = l.count 13 + l.count 10 + l.count 9 + l.count 32 := by simp [sumc]; omega
theorem countB_is (s : ByteArray) (c : UInt8) (w : World) (n : Nat) (h : s.data.toList.count c = n) :
    Calls Tryz.prog 274 #[.string s, .string ⟨#[c]⟩] w fun e w' => e = .returned (.int .i64 (n : Int)) ∧ w' = w := by
  refine (Tryz.strings_Count_one s c w).mono ?_
  rintro e w' ⟨rfl, rfl⟩
  exact ⟨by rw [← h]; rfl, rfl⟩
set_option maxRecDepth 100000 in
set_option maxHeartbeats 4000000 in
theorem swap_long (q t : Nat) (s r : ByteArray) (w : World) (hs0 : 32 ≤ s.size) (hs : s.size ≤ 4000) (hT : TabAt w q t [13, 10, 9, 32]) (HR : Hid (bare s.data.toList = r.data.toList)) :
    Calls Tryz.prog 272 #[.pointer (some ⟨q, 0, none⟩), .string s] w fun e w' => e = .returned (.string r) ∧ Below w.heap.size w w' := by
  have hneq : ∀ (a : Option Addr) (l c : Nat) (W : World), (binOp .neq 97 (.slice a l c) (.slice none 0 0)).run Tryz.prog W = .ok (.bool (!a.isNone)) W := fun a l c W => run_neq_slice_nil W 97 5 a l c Tryz.underlying97
  have h256 := hT.2.2.2.2.1
  have h256' : w.cell? ⟨q, 256, none⟩ = some (.slice (some ⟨t, 0, none⟩) 4 4) := h256
  have HT := Lib.hid hT
  have hle : s.data.toList.count 13 + s.data.toList.count 10 + s.data.toList.count 9 + s.data.toList.count 32 ≤ s.size := by
    rw [count_white, size_eq]; exact List.countP_le_length
  obtain ⟨n13, h13⟩ : ∃ n, s.data.toList.count 13 = n := ⟨_, rfl⟩
  obtain ⟨n10, h10⟩ : ∃ n, s.data.toList.count 10 = n := ⟨_, rfl⟩
  obtain ⟨n9, h9⟩ : ∃ n, s.data.toList.count 9 = n := ⟨_, rfl⟩
  obtain ⟨n32, h32⟩ : ∃ n, s.data.toList.count 32 = n := ⟨_, rfl⟩
  have hS0 : sumc s.data.toList 0 = 0 := rfl
  have hS1 : sumc s.data.toList 1 = n13 := by rw [sumc1, h13]
  have hS2 : sumc s.data.toList 2 = n13 + n10 := by rw [sumc2, h13, h10]
  have hS3 : sumc s.data.toList 3 = n13 + n10 + n9 := by rw [sumc3, h13, h10, h9]
  have hS4 : sumc s.data.toList 4 = n13 + n10 + n9 + n32 := by rw [sumc4, h13, h10, h9, h32]
  rw [h13, h10, h9, h32] at hle
  have H13 := Lib.hid h13
  have H10 := Lib.hid h10
  have H9 := Lib.hid h9
  have H32 := Lib.hid h32
  have HS0 := Lib.hid hS0
  have HS1 := Lib.hid hS1
  have HS2 := Lib.hid hS2
  have HS3 := Lib.hid hS3
  have HS4 := Lib.hid hS4
  clear hT h256 h13 h10 h9 h32 hS0 hS1 hS2 hS3 hS4
  go_enter Tryz.func272, Tryz.ntmps272
  go_wp2_with fail
  rw [show decide ((32 : Int) ≤ (s.size : Int)) = true from by rw [decide_eq_true_iff]; omega]
  go_loopg [32, 5, 6, 8, 9] 4 (fun g v32 v5 v6 v8 v9 wx => ∃ (z m : Nat), v32 = .int .i64 (4 - (g : Int)) ∧ g ≤ 4 ∧ v5 = .int .i64 m ∧ m + z = s.size ∧ v6 = .bool (!decide (z = 0)) ∧ Hid (sumc s.data.toList (4 - g) = z) ∧ Below w.heap.size w wx ∧ Hid (TabAt wx q t [13, 10, 9, 32]))
  case atStart => exact ⟨0, s.size, rfl, by omega, rfl, by omega, rfl, Lib.hid rfl, Below.refl _ _, HT⟩
  case round =>
    obtain ⟨z, m, rfl, hg4, rfl, hmz, rfl, Hz, hbw, HX⟩ := hrel
    clear HT h256'
    by_cases hk0 : gk = 0
    · subst hk0
      have Hz : Hid (s.data.toList.countP whiteB = z) := Lib.hid (by rw [← sumc_all]; exact Hz.out)
      rcases Nat.eq_zero_or_pos z with hz0 | hz0
      · subst hz0
        have hrs : s = r := str_same (by rw [← HR.out]; exact bare_same _ Hz.out)
        subst hrs
        go_wp2_with fail
        go_ret
        exact ⟨rfl, hbw⟩
      · have hzn : ¬ z = 0 := by omega
        obtain ⟨i0, hi, hi1, hi2, hi3⟩ : ∃ i0, Tryz.prog.info? 5 = some i0 ∧ i0.zero = some (.int .u8 0) ∧ i0.size = 1 ∧ i0.bytes = 1 := by
          have h : (Tryz.prog.info? 5).map (fun i => (i.zero, i.size, i.bytes)) = some (some (.int .u8 0), 1, 1) := by kernel_rfl
          obtain ⟨i, hi, hh⟩ := Option.map_eq_some_iff.1 h
          simp only [Prod.mk.injEq] at hh
          exact ⟨i, hi, hh.1, hh.2.1, hh.2.2⟩
        have hmk := run_make (P := Tryz.prog) wr 97 5 i0 (.int .u8 0) Tryz.underlying97 hi hi1 .i64 .i64 (m : Int) (m : Int) (by omega) (by omega) (by rw [hi3]; omega) (by omega)
        rw [Int.toNat_natCast, hi2, Nat.mul_one] at hmk
        have hmk' : (Instr.makeSlice 97 (.int .i64 (m : Int)) (.int .i64 (m : Int))).run Tryz.prog wr = .ok (.slice (some ⟨wr.heap.size, 0, none⟩) m m) (wr.alloc (.cells (madeCells #[.int .u8 0] m) 5)) := hmk
        clear hmk
        have hB0 : (wr.alloc (.cells (madeCells #[.int .u8 0] m) 5)).heap[wr.heap.size]? = some (.cells (madeCells #[.int .u8 0] m) 5) := by
          show (wr.heap.push _)[wr.heap.size]? = _
          simp
        have hBuf : Buf (wr.alloc (.cells (madeCells #[.int .u8 0] m) 5)) wr.heap.size m [] := Buf.made hB0 (size_madeCells _ _) (by simp)
        have hbw2 := hbw.alloc hbw.size (.cells (madeCells #[.int .u8 0] m) 5)
        have hTa := HX.out.later ((Below.refl _ wr).alloc (Nat.le_refl _) (.cells (madeCells #[.int .u8 0] m) 5))
        have HBuf := Lib.hid hBuf
        have HTa := Lib.hid hTa
        have hBsz := hbw.size
        have hqB := HX.out.2.1
        have htB := HX.out.1
        clear hB0 hBuf hTa HX
        go_wp2_with fail
        clear hmk'
        generalize wr.alloc (.cells (madeCells #[.int .u8 0] m) 5) = w4 at HBuf HTa hbw2 ⊢
        generalize wr.heap.size = B at HBuf hBsz hqB htB ⊢
        go_loopg [13, 14, 15] s.size (fun g v13 v14 v15 wx => ∃ (i : Nat), v14 = .int .i64 i ∧ i + g = s.size ∧ v13 = .int .i64 ((bare (s.data.toList.take i)).length : Nat) ∧ Below w.heap.size w wx ∧ Hid (TabAt wx q t [13, 10, 9, 32]) ∧ Hid (Buf wx B m (bare (s.data.toList.take i))))
        case atStart => exact ⟨0, rfl, by omega, rfl, hbw2, HTa, HBuf⟩
        case round =>
          obtain ⟨i, rfl, hig, rfl, hbx, HX, HBx⟩ := hrel
          clear HTa HBuf hbw2 hbw
          by_cases hlt : i < s.size
          · obtain ⟨g, rfl⟩ : ∃ g, gk = g + 1 := ⟨gk - 1, by omega⟩
            have hlen := bare_take_le s.data.toList i
            rw [HR.out, ← size_eq] at hlen
            have hrm : r.size = m := by
              have h1 := bare_len s.data.toList
              rw [HR.out, ← size_eq, ← size_eq, Hz.out] at h1; omega
            have hbd : (s[i].toNat : Int) < 256 := by have := (s[i]).toNat_lt; omega
            rcases HX.out.byte (s[i]) with ⟨hw, a, k, hc⟩ | ⟨hw, hc⟩
            · have hne := hneq (some a) 0 k
              have hstep := bare_take_white s i hlt hw
              have hcp : ∀ (d : Option Addr) (n : Nat) (W : World), (Builtin.copy_ #[97, 97] 3 #[.slice d n n, .slice (some a) 0 k]).run Tryz.prog W = .ok (goInt 0) W := fun d n W => run_copy_none (P := Tryz.prog) W 97 97 3 5 _ _ n n 0 k Tryz.underlying97 (by kernel_rfl) (Nat.zero_min _)
              obtain ⟨L, hL⟩ : ∃ L, (bare (s.data.toList.take i)).length = L := ⟨_, rfl⟩
              rw [hL]
              rw [hL] at hlen
              have hLm : L ≤ m := by omega
              have HL := Lib.hid hL
              clear hL
              by_cases hmL : m = L
              · subst hmL
                go_wp2_with fail
                go_region
                go_wp2_with fail
                go_roundg g
                case measure => omega
                case rel => exact ⟨i + 1, by go_num, by omega, by rw [hstep, HL.out], hbx.drew, Lib.hid HX.out.drew, Lib.hid (show Buf _ B _ (bare (s.data.toList.take (i + 1))) from hstep ▸ HBx.out)⟩
              · go_wp2_with fail
                go_region
                go_wp2_with fail
                go_roundg g
                case measure => omega
                case rel => exact ⟨i + 1, by go_num, by omega, by rw [hstep, HL.out], hbx.drew, Lib.hid HX.out.drew, Lib.hid (show Buf _ B _ (bare (s.data.toList.take (i + 1))) from hstep ▸ HBx.out)⟩
            · have hne := hneq none 0 0
              have hstep := bare_take_other s i hlt hw
              have hlt2 : (bare (s.data.toList.take i)).length < m := by
                have h1 := bare_take_le s.data.toList (i + 1)
                rw [hstep, HR.out, ← size_eq, List.length_append, hrm] at h1
                simp at h1; omega
              obtain ⟨v0, hv0⟩ := HBx.out.2.1 _ hlt2
              have hz0' := HBx.out.2.2.1 (bare (s.data.toList.take i)).length
              have HB2 := Lib.hid (HBx.out.push hlt2 s[i])
              have HX2 := Lib.hid (HX.out.other B (bare (s.data.toList.take i)).length (.int .u8 (s[i].toNat : Int)) (by omega) (by omega))
              go_wp2_with fail
              go_roundg g
              case measure => omega
              case rel => exact ⟨i + 1, by go_num, by omega, by rw [hstep, List.length_append]; go_num, hbx.setCell hBsz _, HX2, Lib.hid (hstep ▸ HB2.out)⟩
          · obtain rfl : gk = 0 := by omega
            have hif : s.data.toList.take i = s.data.toList := List.take_of_length_le (by rw [← size_eq]; omega)
            rw [hif] at HBx
            have hrm : (bare s.data.toList).length = m := by
              have h1 := bare_len s.data.toList
              rw [← size_eq, Hz.out] at h1; omega
            have hcv := run_convert_bytes_back (P := Tryz.prog) wr 97 9 5 ⟨B, 0, none⟩ m (bare s.data.toList) Tryz.underlying97 Tryz.underlying5 Tryz.underlying9 (fun j hj => by
              have e0 : (⟨B, 0, none⟩ : Addr).add j = ⟨B, j, none⟩ := by rw [Addr.add_lit, Nat.zero_add]
              rw [e0]
              exact HBx.out.2.2.2 j _ (List.getElem?_eq_getElem hj))
            rw [hrm, HR.out] at hcv
            have hstr : (⟨r.data.toList.toArray⟩ : ByteArray) = r := str_same rfl
            rw [hstr] at hcv
            clear hif hrm hstr
            go_wp2_with fail
            go_ret
            exact ⟨rfl, hbx⟩
    by_cases hk4 : gk = 4
    · subst hk4
      have hzz : z = _ := Hz.out.symm.trans HS0.out
      subst hzz
      have hx : wr.cell? ⟨t, 0, none⟩ = some (.string ⟨#[13]⟩) := HX.out.2.2.2.2.2.1 0 13 rfl
      have hix : ((⟨#[13]⟩ : ByteArray)[0]'(by decide)).toNat = 13 := rfl
      obtain ⟨a, k, hc⟩ := HX.out.2.2.2.1 13 (by decide)
      have hc' : wr.cell? ⟨q, 13, none⟩ = some (.slice (some a) 0 k) := hc
      clear hc
      rcases Nat.eq_zero_or_pos n13 with hn | hn
      · have HS1' := HS1.out
        go_wp2_with fail
        refine (countB_is s 13 _ n13 H13.out).mono ?_
        rintro e w' ⟨rfl, rfl⟩
        subst hn
        go_wp2_with fail
        go_roundg 3
        case measure => omega
        case rel => exact ⟨_, m, by go_num, by omega, rfl, by omega, by simp, Lib.hid HS1', hbw, HX⟩
      · have hn0 : ¬ (n13 : Int) = 0 := by omega
        have HS1' := HS1.out
        go_wp2_with fail
        refine (countB_is s 13 _ n13 H13.out).mono ?_
        rintro e w' ⟨rfl, rfl⟩
        go_wp2_with fail
        go_region
        go_wp2_with fail
        go_roundg 3
        case measure => omega
        case rel => exact ⟨_, m - n13, by go_num, by omega, by go_num, by omega, by simp; omega, Lib.hid HS1', hbw.drew, Lib.hid HX.out.drew⟩
    by_cases hk3 : gk = 3
    · subst hk3
      have hzz : z = _ := Hz.out.symm.trans HS1.out
      subst hzz
      have hx : wr.cell? ⟨t, 1, none⟩ = some (.string ⟨#[10]⟩) := HX.out.2.2.2.2.2.1 1 10 rfl
      have hix : ((⟨#[10]⟩ : ByteArray)[0]'(by decide)).toNat = 10 := rfl
      obtain ⟨a, k, hc⟩ := HX.out.2.2.2.1 10 (by decide)
      have hc' : wr.cell? ⟨q, 10, none⟩ = some (.slice (some a) 0 k) := hc
      clear hc
      rcases Nat.eq_zero_or_pos n10 with hn | hn
      · have HS2' := HS2.out
        go_wp2_with fail
        refine (countB_is s 10 _ n10 H10.out).mono ?_
        rintro e w' ⟨rfl, rfl⟩
        subst hn
        go_wp2_with fail
        go_roundg 2
        case measure => omega
        case rel => exact ⟨_, m, by go_num, by omega, rfl, by omega, by simp, Lib.hid HS2', hbw, HX⟩
      · have hn0 : ¬ (n10 : Int) = 0 := by omega
        have HS2' := HS2.out
        go_wp2_with fail
        refine (countB_is s 10 _ n10 H10.out).mono ?_
        rintro e w' ⟨rfl, rfl⟩
        go_wp2_with fail
        go_region
        go_wp2_with fail
        go_roundg 2
        case measure => omega
        case rel => exact ⟨_, m - n10, by go_num, by omega, by go_num, by omega, by simp; omega, Lib.hid HS2', hbw.drew, Lib.hid HX.out.drew⟩
    by_cases hk2 : gk = 2
    · subst hk2
      have hzz : z = _ := Hz.out.symm.trans HS2.out
      subst hzz
      have hx : wr.cell? ⟨t, 2, none⟩ = some (.string ⟨#[9]⟩) := HX.out.2.2.2.2.2.1 2 9 rfl
      have hix : ((⟨#[9]⟩ : ByteArray)[0]'(by decide)).toNat = 9 := rfl
      obtain ⟨a, k, hc⟩ := HX.out.2.2.2.1 9 (by decide)
      have hc' : wr.cell? ⟨q, 9, none⟩ = some (.slice (some a) 0 k) := hc
      clear hc
      rcases Nat.eq_zero_or_pos n9 with hn | hn
      · have HS3' := HS3.out
        go_wp2_with fail
        refine (countB_is s 9 _ n9 H9.out).mono ?_
        rintro e w' ⟨rfl, rfl⟩
        subst hn
        go_wp2_with fail
        go_roundg 1
        case measure => omega
        case rel => exact ⟨_, m, by go_num, by omega, rfl, by omega, by simp, Lib.hid HS3', hbw, HX⟩
      · have hn0 : ¬ (n9 : Int) = 0 := by omega
        have HS3' := HS3.out
        go_wp2_with fail
        refine (countB_is s 9 _ n9 H9.out).mono ?_
        rintro e w' ⟨rfl, rfl⟩
        go_wp2_with fail
        go_region
        go_wp2_with fail
        go_roundg 1
        case measure => omega
        case rel => exact ⟨_, m - n9, by go_num, by omega, by go_num, by omega, by simp; omega, Lib.hid HS3', hbw.drew, Lib.hid HX.out.drew⟩
    by_cases hk1 : gk = 1
    · subst hk1
      have hzz : z = _ := Hz.out.symm.trans HS3.out
      subst hzz
      have hx : wr.cell? ⟨t, 3, none⟩ = some (.string ⟨#[32]⟩) := HX.out.2.2.2.2.2.1 3 32 rfl
      have hix : ((⟨#[32]⟩ : ByteArray)[0]'(by decide)).toNat = 32 := rfl
      obtain ⟨a, k, hc⟩ := HX.out.2.2.2.1 32 (by decide)
      have hc' : wr.cell? ⟨q, 32, none⟩ = some (.slice (some a) 0 k) := hc
      clear hc
      rcases Nat.eq_zero_or_pos n32 with hn | hn
      · have HS4' := HS4.out
        go_wp2_with fail
        refine (countB_is s 32 _ n32 H32.out).mono ?_
        rintro e w' ⟨rfl, rfl⟩
        subst hn
        go_wp2_with fail
        go_roundg 0
        case measure => omega
        case rel => exact ⟨_, m, by go_num, by omega, rfl, by omega, by simp, Lib.hid HS4', hbw, HX⟩
      · have hn0 : ¬ (n32 : Int) = 0 := by omega
        have HS4' := HS4.out
        go_wp2_with fail
        refine (countB_is s 32 _ n32 H32.out).mono ?_
        rintro e w' ⟨rfl, rfl⟩
        go_wp2_with fail
        go_region
        go_wp2_with fail
        go_roundg 0
        case measure => omega
        case rel => exact ⟨_, m - n32, by go_num, by omega, by go_num, by omega, by simp; omega, Lib.hid HS4', hbw.drew, Lib.hid HX.out.drew⟩
    omega
end Go.Proofs.YtaieapldokkdnabGreatDoor
