/- Dates: canonical texts are read back; what Parse gives, in one. -/
import Derived.Test.YtgmnjghbafbopaaGreatDoorMTiBackP
import Derived.Test.YtgmnjghbafbopaaGreatDoorMTiWorks
import Derived.Test.YtgmnjghbafbopaaGreatDoorMTiJ
namespace Go.Proofs.YtgmnjghbafbopaaGreatDoor
open Go.RowKit Go.Lib

theorem date_1972 : DateOk 1972 12 31 := date_of (by decide)
theorem parts_norm {k : Int} {s : List UInt8} {P : PartsT} (h : partsT k s = some P) : (k = 6 → P.h = 0 ∧ P.mi = 0 ∧ P.sec = [48]) ∧ (k = 7 → P.y = 1972 ∧ P.mo = 12 ∧ P.d = 31) := by
  refine ⟨fun e => ?_, fun e => ?_⟩
  · subst e
    unfold partsT at h
    rw [if_pos rfl] at h
    unfold partsD at h
    cases h1 : dateP s with
    | none => rw [h1] at h; cases h
    | some d =>
      rw [h1] at h; simp only at h
      cases h2 : zoneP d.2 with
      | none => rw [h2] at h; cases h
      | some z => rw [h2] at h; simp only at h; injection h with h; subst h; exact ⟨rfl, rfl, rfl⟩
  · subst e
    unfold partsT at h
    rw [if_neg (by decide), if_pos rfl] at h
    unfold partsC at h
    cases h1 : timeP s with
    | none => rw [h1] at h; cases h
    | some d =>
      rw [h1] at h; simp only at h
      cases h2 : zoneP d.2 with
      | none => rw [h2] at h; cases h
      | some z => rw [h2] at h; simp only at h; injection h with h; subst h; exact ⟨rfl, rfl, rfl⟩
theorem parse_text6 (Y M D H I mu : Nat) (S : ByteArray) (z : Int) (has : Bool) (k : MomOk Y M D H I mu S z has) (R : ByteArray) (hR : R.data.toList = textT 6 Y M D H I S.data.toList z has) (w : World) (hg : GrT w) :
    Calls Tryz.prog 16 #[.int .i64 6, .string R] w fun e w' => e = .returned (.tuple #[momV (Y : Int) (M : Int) (D : Int) 0 0 ⟨#[48]⟩ z has, .int .i64 0]) ∧ Below w.heap.size w w' := by
  have hP := parts_text (kd := 6) (by decide) k
  rw [← hR] at hP
  have h9 := k.hour
  have k2 : MomOk Y M D 0 0 0 ⟨#[48]⟩ z has := mom_zero k.date k.zone
  refine (parse_ok 6 (by decide) R _ hP z has (zone_back k.zone).2.1 (fun q => by have := q.1; simp at this) (by exact k2.valid) w hg).mono ?_
  rintro e w' ⟨S2, hS2, rfl, hb⟩
  obtain rfl : (⟨#[48]⟩ : ByteArray) = S2 := ba_same (s := S2) (r := ⟨#[48]⟩) hS2
  exact ⟨rfl, hb⟩
theorem parse_text7 (Y M D H I mu : Nat) (S : ByteArray) (z : Int) (has : Bool) (k : MomOk Y M D H I mu S z has) (R : ByteArray) (hR : R.data.toList = textT 7 Y M D H I S.data.toList z has) (w : World) (hg : GrT w) :
    Calls Tryz.prog 16 #[.int .i64 7, .string R] w fun e w' => e = .returned (.tuple #[momV 1972 12 31 (H : Int) (I : Int) S z has, .int .i64 0]) ∧ Below w.heap.size w w' := by
  have hP := parts_text (kd := 7) (by decide) k
  rw [← hR] at hP
  have h9 := k.hour
  have k2 : MomOk 1972 12 31 H I mu S z has := ⟨date_1972, k.hour, k.minute, k.micro, k.sec, k.zone⟩
  refine (parse_ok 7 (by decide) R _ hP z has (zone_back k.zone).2.1 (fun q => by have := q.1; simp at this; omega) (by exact k2.valid) w hg).mono ?_
  rintro e w' ⟨S2, hS2, rfl, hb⟩
  obtain rfl : S = S2 := ba_same (s := S2) (r := S) hS2
  exact ⟨rfl, hb⟩
theorem parse_text8 (Y M D H I mu : Nat) (S : ByteArray) (z : Int) (has : Bool) (k : MomOk Y M D H I mu S z has) (R : ByteArray) (hR : R.data.toList = textT 8 Y M D H I S.data.toList z has) (w : World) (hg : GrT w) :
    Calls Tryz.prog 16 #[.int .i64 8, .string R] w fun e w' => e = .returned (.tuple #[momV (Y : Int) (M : Int) (D : Int) (H : Int) (I : Int) S z has, .int .i64 0]) ∧ Below w.heap.size w w' := by
  have hP := parts_text (kd := 8) (by decide) k
  rw [← hR] at hP
  have h9 := k.hour
  have k2 : MomOk Y M D H I mu S z has := k
  refine (parse_ok 8 (by decide) R _ hP z has (zone_back k.zone).2.1 (fun q => by have := q.1; simp at this; omega) (by exact k2.valid) w hg).mono ?_
  rintro e w' ⟨S2, hS2, rfl, hb⟩
  obtain rfl : S = S2 := ba_same (s := S2) (r := S) hS2
  exact ⟨rfl, hb⟩
/-- What Parse gives: an error, or a moment that is valid. -/
def ParseG (w : World) (kd : Int) (e : Ending) (w' : World) : Prop :=
  (∃ er : Int, er ≠ 0 ∧ e = .returned (.tuple #[momZ, .int .i64 er]) ∧ Below w.heap.size w w') ∨
  (∃ (Y M D H I mu : Nat) (S : ByteArray) (z : Int) (has : Bool), MomOk Y M D H I mu S z has ∧ (kd = 6 → H = 0 ∧ I = 0 ∧ S = ⟨#[48]⟩) ∧ (kd = 7 → Y = 1972 ∧ M = 12 ∧ D = 31) ∧ e = .returned (.tuple #[momV (Y : Int) (M : Int) (D : Int) (H : Int) (I : Int) S z has, .int .i64 0]) ∧ Below w.heap.size w w')
theorem parse_all (kd : Int) (hk : kd = 6 ∨ kd = 7 ∨ kd = 8) (s : ByteArray) (w : World) (hg : GrT w) : Calls Tryz.prog 16 #[.int .i64 kd, .string s] w (ParseG w kd) := by
  cases hP : partsT kd s.data.toList with
  | none => exact (parse_none kd hk s hP w hg).mono fun e w' h => .inl ⟨5, by decide, h.1, h.2⟩
  | some P =>
    obtain ⟨n6, n7⟩ := parts_norm hP
    obtain ⟨zn, has, ok, hz⟩ : ∃ zn has ok, zoneR P.zone = (zn, has, ok) := ⟨_, _, _, rfl⟩
    obtain ⟨S0, _, hS0⟩ := ba_ex P.sec
    by_cases hmid : P.h = 24 ∧ P.mi = 0 ∧ P.sec = [48]
    · cases ok with
      | false => exact (parse_zone0 kd hk s P hP zn has hz hmid w hg).mono fun e w' h => .inl ⟨6, by decide, h.1, h.2⟩
      | true =>
        cases hv : validB (P.y : Int) (P.mo : Int) (P.d : Int) 0 0 P.sec zn has with
        | false => exact (parse_bad0 kd hk s P hP zn has hz hmid hv w hg).mono fun e w' h => .inl ⟨6, by decide, h.1, h.2⟩
        | true =>
          have hv0 : validB ((P.y : Nat) : Int) ((P.mo : Nat) : Int) ((P.d : Nat) : Int) ((0 : Nat) : Int) ((0 : Nat) : Int) S0.data.toList zn has = true := by rw [hS0]; exact hv
          obtain ⟨Y, M, D, H, I, mu, e1, e2, e3, e4, e5, k0⟩ := valid_mom hv0
          obtain rfl : P.y = Y := by omega
          obtain rfl : P.mo = M := by omega
          obtain rfl : P.d = D := by omega
          obtain rfl : 0 = H := by omega
          obtain rfl : 0 = I := by omega
          by_cases k8 : kd = 8
          · subst k8
            by_cases hr : 86400000000 + localN P.y P.mo P.d 0 0 mu < 315537897600000000
            · refine (parse_later s P hP zn has hz hmid S0 hS0 mu k0 hr w hg).mono ?_
              rintro e w' ⟨Y, M, D, H, I, m6, S6, hk6, _, rfl, hb⟩
              exact .inr ⟨Y, M, D, H, I, m6, S6, zn, has, hk6, fun h => absurd h (by decide), fun h => absurd h (by decide), rfl, hb⟩
            · exact (parse_range s P hP zn has hz hmid S0 hS0 mu k0 (by omega) w hg).mono fun e w' h => .inl ⟨6, by decide, h.1, h.2⟩
          · refine (parse_ok0 kd hk s P hP zn has hz hmid hv k8 w hg).mono ?_
            rintro e w' ⟨S2, hS2, rfl, hb⟩
            obtain rfl : S0 = S2 := ba_same (s := S2) (r := S0) (by rw [hS2, hS0])
            refine .inr ⟨P.y, P.mo, P.d, 0, 0, mu, S0, zn, has, k0, fun h => ?_, n7, rfl, hb⟩
            have := (n6 h).1
            have := hmid.1
            omega
    · cases ok with
      | false => exact (parse_zone kd hk s P hP zn has hz hmid w hg).mono fun e w' h => .inl ⟨6, by decide, h.1, h.2⟩
      | true =>
        cases hv : validB (P.y : Int) (P.mo : Int) (P.d : Int) (P.h : Int) (P.mi : Int) P.sec zn has with
        | false => exact (parse_bad kd hk s P hP zn has hz hmid hv w hg).mono fun e w' h => .inl ⟨6, by decide, h.1, h.2⟩
        | true =>
          have hv0 : validB (P.y : Int) (P.mo : Int) (P.d : Int) (P.h : Int) (P.mi : Int) S0.data.toList zn has = true := by rw [hS0]; exact hv
          obtain ⟨Y, M, D, H, I, mu, e1, e2, e3, e4, e5, k0⟩ := valid_mom hv0
          obtain rfl : P.y = Y := by omega
          obtain rfl : P.mo = M := by omega
          obtain rfl : P.d = D := by omega
          obtain rfl : P.h = H := by omega
          obtain rfl : P.mi = I := by omega
          refine (parse_ok kd hk s P hP zn has hz hmid hv w hg).mono ?_
          rintro e w' ⟨S2, hS2, rfl, hb⟩
          obtain rfl : S0 = S2 := ba_same (s := S2) (r := S0) (by rw [hS2, hS0])
          exact .inr ⟨P.y, P.mo, P.d, P.h, P.mi, mu, S0, zn, has, k0, fun h => ⟨(n6 h).1, (n6 h).2.1, ba_same (s := ⟨#[48]⟩) (r := S0) (by rw [hS0, (n6 h).2.2])⟩, n7, rfl, hb⟩
end Go.Proofs.YtgmnjghbafbopaaGreatDoor
