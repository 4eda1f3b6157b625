/- Dates: parts: the state between its steps, and the steps of reading. Dates: zones as they are written; what parts says of them; the contract of inZone in one. -/
import Derived.Test.YtgmnjghbafbopaaGreatDoorMTiNumb
import Derived.Test.YtgmnjghbafbopaaGreatDoorMTiC
import Derived.Test.YtgmnjghbafbopaaGreatDoorMTiInZ
namespace Go.Proofs.YtgmnjghbafbopaaGreatDoor
open Go.RowKit Go.Lib

/-- Between two steps: the moment so far, the text that is left, and what was there before. -/
structure PS (w W : World) (y mo d h mi : Int) (sec t : ByteArray) : Prop where
  m : MomW W w.heap.size y mo d h mi sec 0 false
  x : BoxS W (w.heap.size + 1) t
  b : Below w.heap.size w W
theorem PS.read {w W W' : World} {y mo d h mi : Int} {sec t R : ByteArray} (s : PS w W y mo d h mi sec t) (kb : KB W (w.heap.size + 1) W') (bx : BoxS W' (w.heap.size + 1) R) : PS w W' y mo d h mi sec R :=
  ⟨s.m.other (kb.heap _ s.m.lt (by omega)) kb.size, bx, kb.below _ _ (by omega) s.b⟩
theorem PS.later {w W W' : World} {y mo d h mi : Int} {sec t : ByteArray} (s : PS w W y mo d h mi sec t) (hb : Below W.heap.size W W') : PS w W' y mo d h mi sec t :=
  ⟨s.m.later hb, s.x.later hb, s.b.trans (hb.mono s.b.size)⟩
theorem PS.setDate {w W : World} {y mo d h mi : Int} {sec t : ByteArray} (s : PS w W y mo d h mi sec t) (v0 v1 v2 : Int) : ∃ W5, ((W.setCell ⟨w.heap.size, 0, none⟩ (.int .i64 v0)).setCell ⟨w.heap.size, 1, none⟩ (.int .i64 v1)).setCell ⟨w.heap.size, 2, none⟩ (.int .i64 v2) = W5 ∧ PS w W5 v0 v1 v2 h mi sec t := by
  obtain ⟨W5, h1, h2, h3, h4, h5⟩ := s.m.setDate v0 v1 v2
  exact ⟨W5, h1, h2, s.x.other (h4 _ (by omega)) (Nat.le_of_eq h5.symm), h3 s.b (Nat.le_refl _)⟩
theorem PS.setHM {w W : World} {y mo d h mi : Int} {sec t : ByteArray} (s : PS w W y mo d h mi sec t) (v3 v4 : Int) : ∃ W5, (W.setCell ⟨w.heap.size, 3, none⟩ (.int .i64 v3)).setCell ⟨w.heap.size, 4, none⟩ (.int .i64 v4) = W5 ∧ PS w W5 y mo d v3 v4 sec t :=
  ⟨_, rfl, (s.m.set3 v3).set4 v4, (s.x.keep (by omega) _).keep (by omega) _, (s.b.setCell (p := ⟨w.heap.size, 3, none⟩) (Nat.le_refl _) _).setCell (p := ⟨w.heap.size, 4, none⟩) (Nat.le_refl _) _⟩
theorem PS.setSec {w W : World} {y mo d h mi : Int} {sec t : ByteArray} (s : PS w W y mo d h mi sec t) (v : ByteArray) : ∃ W5, W.setCell ⟨w.heap.size, 5, none⟩ (.string v) = W5 ∧ PS w W5 y mo d h mi v t :=
  ⟨_, rfl, s.m.set5 v, s.x.keep (by omega) _, s.b.setCell (p := ⟨w.heap.size, 5, none⟩) (Nat.le_refl _) _⟩
/-- The forms in a row of their own, and the reading by them. -/
theorem read_row (W : World) (B : Nat) (t : ByteArray) (hx : BoxS W B t) (F : List (List UInt8)) (hF : F.length ≤ 10) (hF2 : ∀ x ∈ F, x.length ≤ 10) :
    Calls Tryz.prog 150 #[.slice (some ⟨W.heap.size, 0, none⟩) F.length F.length, .pointer (some ⟨B, 0, none⟩)] (W.alloc (.cells (F.map fun x => Value.string ⟨x.toArray⟩).toArray 9)) (RdG W B (readL t.data.toList F)) := by
  have hb : Below W.heap.size W (W.alloc (.cells (F.map fun x => Value.string ⟨x.toArray⟩).toArray 9)) := (Below.refl _ _).alloc (Nat.le_refl _) _
  refine (read_ti W.heap.size F hF hF2 B t _ (fun j hj => ?_) (by simp) (hx.later hb) F.length rfl).mono ?_
  · have : (W.alloc (.cells (F.map fun x => Value.string ⟨x.toArray⟩).toArray 9)).cell? ⟨W.heap.size, j, none⟩ = (F.map fun x => Value.string ⟨x.toArray⟩)[j]? := by simp [go_sem]
    rw [this, List.getElem?_map, List.getD_eq_getElem?_getD, List.getElem?_eq_getElem hj]
    rfl
  · have hlt := hx.lt
    have up : ∀ W', KB (W.alloc (.cells (F.map fun x => Value.string ⟨x.toArray⟩).toArray 9)) B W' → KB W B W' := fun W' k =>
      ⟨fun j hj hne => (k.heap j (Nat.lt_of_lt_of_le hj hb.size) hne).trans (hb.block j hj), Nat.le_trans hb.size k.size, fun N a hN ha => k.below N a hN (ha.trans (hb.mono (by omega)))⟩
    intro e w' h
    cases ho : readL t.data.toList F with
    | none => rw [ho] at h; exact ⟨h.1, up _ h.2⟩
    | some x => rw [ho] at h; obtain ⟨P, R, h1, h2, h3, h4, h5⟩ := h; exact ⟨P, R, h1, h2, h3, h4, up _ h5⟩
theorem read_Y (W : World) (B : Nat) (t : ByteArray) (hx : BoxS W B t) (b : Nat) (hb : W.heap.size = b) :
    Calls Tryz.prog 150 #[.slice (some ⟨b, 0, none⟩) 1 1, .pointer (some ⟨B, 0, none⟩)] (W.alloc (.cells #[.string ⟨#[48, 48, 48, 48]⟩] 9)) (RdG W B (readL t.data.toList [fY])) := by
  subst hb; exact read_row W B t hx [fY] (by decide) (by decide)
theorem read_M (W : World) (B : Nat) (t : ByteArray) (hx : BoxS W B t) (b : Nat) (hb : W.heap.size = b) :
    Calls Tryz.prog 150 #[.slice (some ⟨b, 0, none⟩) 1 1, .pointer (some ⟨B, 0, none⟩)] (W.alloc (.cells #[.string ⟨#[45, 48, 48]⟩] 9)) (RdG W B (readL t.data.toList [fM])) := by
  subst hb; exact read_row W B t hx [fM] (by decide) (by decide)
theorem read_T (W : World) (B : Nat) (t : ByteArray) (hx : BoxS W B t) (b : Nat) (hb : W.heap.size = b) :
    Calls Tryz.prog 150 #[.slice (some ⟨b, 0, none⟩) 1 1, .pointer (some ⟨B, 0, none⟩)] (W.alloc (.cells #[.string ⟨#[84]⟩] 9)) (RdG W B (readL t.data.toList [fT])) := by
  subst hb; exact read_row W B t hx [fT] (by decide) (by decide)
theorem read_H (W : World) (B : Nat) (t : ByteArray) (hx : BoxS W B t) (b : Nat) (hb : W.heap.size = b) :
    Calls Tryz.prog 150 #[.slice (some ⟨b, 0, none⟩) 1 1, .pointer (some ⟨B, 0, none⟩)] (W.alloc (.cells #[.string ⟨#[48, 48]⟩] 9)) (RdG W B (readL t.data.toList [fH])) := by
  subst hb; exact read_row W B t hx [fH] (by decide) (by decide)
theorem read_C (W : World) (B : Nat) (t : ByteArray) (hx : BoxS W B t) (b : Nat) (hb : W.heap.size = b) :
    Calls Tryz.prog 150 #[.slice (some ⟨b, 0, none⟩) 1 1, .pointer (some ⟨B, 0, none⟩)] (W.alloc (.cells #[.string ⟨#[58, 48, 48]⟩] 9)) (RdG W B (readL t.data.toList [fC])) := by
  subst hb; exact read_row W B t hx [fC] (by decide) (by decide)
theorem read_F (W : World) (B : Nat) (t : ByteArray) (hx : BoxS W B t) (b : Nat) (hb : W.heap.size = b) :
    Calls Tryz.prog 150 #[.slice (some ⟨b, 0, none⟩) 7 7, .pointer (some ⟨B, 0, none⟩)] (W.alloc (.cells #[.string ⟨#[46, 48, 48, 48, 48, 48, 48]⟩, .string ⟨#[46, 48, 48, 48, 48, 48]⟩, .string ⟨#[46, 48, 48, 48, 48]⟩, .string ⟨#[46, 48, 48, 48]⟩, .string ⟨#[46, 48, 48]⟩, .string ⟨#[46, 48]⟩, .string ⟨#[]⟩] 9)) (RdG W B (readL t.data.toList fF)) := by
  subst hb; exact read_row W B t hx fF (by decide) (by decide)
theorem read_Z (W : World) (B : Nat) (t : ByteArray) (hx : BoxS W B t) (b : Nat) (hb : W.heap.size = b) :
    Calls Tryz.prog 150 #[.slice (some ⟨b, 0, none⟩) 4 4, .pointer (some ⟨B, 0, none⟩)] (W.alloc (.cells #[.string ⟨#[90]⟩, .string ⟨#[43, 48, 48, 58, 48, 48]⟩, .string ⟨#[45, 48, 48, 58, 48, 48]⟩, .string ⟨#[]⟩] 9)) (RdG W B (readL t.data.toList fZ)) := by
  subst hb; exact read_row W B t hx fZ (by decide) (by decide)
/-- What parts gives. -/
def PartsG (w : World) (o : Option PartsT) (e : Ending) (w' : World) : Prop := match o with
  | none => e = .panicked gaveUp ∧ Below w.heap.size w w'
  | some P => ∃ S Z : ByteArray, S.data.toList = P.sec ∧ Z.data.toList = P.zone ∧ e = .returned (.tuple #[momV (P.y : Int) (P.mo : Int) (P.d : Int) (P.h : Int) (P.mi : Int) S 0 false, .string Z]) ∧ Below w.heap.size w w'
theorem fits_Y {p : List UInt8} (h : fitsL p fY = true) : p.length = 4 ∧ Dgs p := fits_zeros.1 (show fitsL p (List.replicate 4 48) = true from h)
theorem fits_H {p : List UInt8} (h : fitsL p fH = true) : p.length = 2 ∧ Dgs p := fits_zeros.1 (show fitsL p (List.replicate 2 48) = true from h)
theorem fits_M {p : List UInt8} (h : fitsL p fM = true) : ∃ d, p = 45 :: d ∧ d.length = 2 ∧ Dgs d := fits_mark (m := 45) (by decide) (show fitsL p (45 :: List.replicate 2 48) = true from h)
theorem fits_C {p : List UInt8} (h : fitsL p fC = true) : ∃ d, p = 58 :: d ∧ d.length = 2 ∧ Dgs d := fits_mark (m := 58) (by decide) (show fitsL p (58 :: List.replicate 2 48) = true from h)
theorem fF_len : ∀ f ∈ fF, f.length ≤ 7 := by decide
end Go.Proofs.YtgmnjghbafbopaaGreatDoor
namespace Go.Proofs.YtgmnjghbafbopaaGreatDoor
open Go.RowKit Go.Lib

/-- A zone as it is written: its minutes, whether there is one, whether its minutes are below an hour. -/
def zoneR (z : List UInt8) : Int × Bool × Bool :=
  if z = [] then (0, false, true) else if z = [90] then (0, true, true)
  else (if z.head? = some 45 then -(60 * (valD ((z.drop 1).take 2) 0 : Int) + (valD (z.drop 4) 0 : Int)) else 60 * (valD ((z.drop 1).take 2) 0 : Int) + (valD (z.drop 4) 0 : Int), true, decide (valD (z.drop 4) 0 ≤ 59))
theorem fits_two {a1 a2 : UInt8} {p : List UInt8} (h1 : a1 ≠ 48) (h2 : a2 ≠ 48) (h : fitsL p [a1, 48, 48, a2, 48, 48] = true) : ∃ a b, p = a1 :: (a ++ a2 :: b) ∧ a.length = 2 ∧ b.length = 2 ∧ Dgs a ∧ Dgs b := by
  match p, fits_len h with
  | [p0, p1, p2, p3, p4, p5], _ =>
    simp only [fitsL, Bool.and_eq_true, Bool.and_true] at h
    obtain ⟨k0, k1, k2, k3, k4, k5⟩ := h
    have e0 := fit_is h1 k0
    have e3 := fit_is h2 k3
    subst e0; subst e3
    refine ⟨[p1, p2], [p4, p5], rfl, rfl, rfl, ?_, ?_⟩
    · exact Dgs.cons (fit_dg k1) (Dgs.cons (fit_dg k2) Dgs.nil)
    · exact Dgs.cons (fit_dg k4) (Dgs.cons (fit_dg k5) Dgs.nil)
theorem fits_zone {z : List UInt8} (h : ∃ f, f ∈ fZ ∧ fitsL z f = true) : z = [] ∨ z = [90] ∨ ∃ sg a b, (sg = 43 ∨ sg = 45) ∧ a.length = 2 ∧ b.length = 2 ∧ Dgs a ∧ Dgs b ∧ z = sg :: (a ++ 58 :: b) := by
  obtain ⟨f, hf, h⟩ := h
  simp only [fZ, List.mem_cons, List.not_mem_nil, or_false] at hf
  rcases hf with rfl | rfl | rfl | rfl
  · refine .inr (.inl ?_)
    match z, fits_len h with
    | [c], _ =>
      simp only [fitsL, Bool.and_true] at h
      rw [fit_is (by decide) h]
  · obtain ⟨a, b, e, la, lb, da, db⟩ := fits_two (a1 := 43) (a2 := 58) (by decide) (by decide) h
    exact .inr (.inr ⟨43, a, b, .inl rfl, la, lb, da, db, e⟩)
  · obtain ⟨a, b, e, la, lb, da, db⟩ := fits_two (a1 := 45) (a2 := 58) (by decide) (by decide) h
    exact .inr (.inr ⟨45, a, b, .inr rfl, la, lb, da, db, e⟩)
  · exact .inl (List.eq_nil_of_length_eq_zero (fits_len h))
theorem zoneR_two {sg : UInt8} {a b : List UInt8} (hs : sg = 43 ∨ sg = 45) (la : a.length = 2) : zoneR (sg :: (a ++ 58 :: b)) = (if sg = 45 then -(60 * (valD a 0 : Int) + (valD b 0 : Int)) else 60 * (valD a 0 : Int) + (valD b 0 : Int), true, decide (valD b 0 ≤ 59)) := by
  match a, la with
  | [a0, a1], _ =>
    unfold zoneR
    rw [if_neg (by simp), if_neg (by simp)]
    rcases hs with rfl | rfl <;> simp
theorem inZone_ti (y mo d h mi : Int) (S Z : ByteArray) (hz : ∃ f, f ∈ fZ ∧ fitsL Z.data.toList f = true) (zn : Int) (has ok : Bool) (hr : zoneR Z.data.toList = (zn, has, ok)) (w : World) :
    Calls Tryz.prog 45 #[momV y mo d h mi S 0 false, .string Z] w fun e w' => e = .returned (.tuple #[momV y mo d h mi S zn has, .bool ok]) ∧ Below w.heap.size w w' := by
  rcases fits_zone hz with h0 | h0 | ⟨sg, a, b, hs, la, lb, da, db, h0⟩
  · rw [h0] at hr
    unfold zoneR at hr
    rw [if_pos rfl] at hr
    simp only [Prod.mk.injEq] at hr
    obtain ⟨rfl, rfl, rfl⟩ := hr
    exact inZone_none y mo d h mi S Z h0 w
  · rw [h0] at hr
    unfold zoneR at hr
    rw [if_neg (by simp), if_pos rfl] at hr
    simp only [Prod.mk.injEq] at hr
    obtain ⟨rfl, rfl, rfl⟩ := hr
    exact inZone_zed y mo d h mi S Z h0 w
  · rw [h0, zoneR_two hs la] at hr
    simp only [Prod.mk.injEq] at hr
    obtain ⟨rfl, rfl, hok⟩ := hr
    rcases hs with rfl | rfl
    · rw [if_neg (by decide)]
      exact inZone_plus y mo d h mi S Z a b da db la lb h0 ok hok w
    · rw [if_pos rfl]
      exact inZone_minus y mo d h mi S Z a b da db la lb h0 ok hok w
theorem zoneP_fits {s z : List UInt8} (h : zoneP s = some z) : ∃ f, f ∈ fZ ∧ fitsL z f = true := by
  unfold zoneP at h
  cases hr : readL s fZ with
  | none => rw [hr] at h; cases h
  | some x =>
    rw [hr] at h
    simp only at h
    split at h
    · injection h with h
      subst h
      exact (readL_len (p := x.1) (r := x.2) hr).2
    · cases h
theorem timeP_sec {s : List UInt8} {x : (Nat × Nat × List UInt8) × List UInt8} (h : timeP s = some x) : x.1.2.2.length ≤ 52 ∧ ∃ t, x.1.2.2 = (readR t).1 := by
  unfold timeP at h
  cases h1 : readL s [fH] with
  | none => rw [h1] at h; cases h
  | some a =>
    rw [h1] at h; simp only at h
    cases h2 : readL a.2 [fC] with
    | none => rw [h2] at h; cases h
    | some b =>
      rw [h2] at h; simp only at h
      cases h3 : readL b.2 [fC] with
      | none => rw [h3] at h; cases h
      | some c =>
        rw [h3] at h; simp only at h
        cases h4 : readL c.2 fF with
        | none => rw [h4] at h; cases h
        | some f =>
          rw [h4] at h; simp only at h
          injection h with h
          subst h
          exact ⟨canonR_len (readR_canonR _), _, rfl⟩
theorem parts_props {k : Int} {s : List UInt8} {P : PartsT} (h : partsT k s = some P) : (∃ f, f ∈ fZ ∧ fitsL P.zone f = true) ∧ P.sec.length ≤ 52 := by
  unfold partsT at h
  split at h
  · unfold partsD at h
    cases h1 : dateP s with
    | none => rw [h1] at h; cases h
    | some d =>
      rw [h1] at h; simp only at h
      cases h2 : zoneP d.2 with
      | none => rw [h2] at h; cases h
      | some z =>
        rw [h2] at h; simp only at h
        injection h with h
        subst h
        exact ⟨zoneP_fits h2, by simp⟩
  · split at h
    · unfold partsC at h
      cases h1 : timeP s with
      | none => rw [h1] at h; cases h
      | some d =>
        rw [h1] at h; simp only at h
        cases h2 : zoneP d.2 with
        | none => rw [h2] at h; cases h
        | some z =>
          rw [h2] at h; simp only at h
          injection h with h
          subst h
          exact ⟨zoneP_fits h2, (timeP_sec h1).1⟩
    · unfold partsM at h
      cases h0 : dateP s with
      | none => rw [h0] at h; cases h
      | some e =>
        rw [h0] at h; simp only at h
        cases h9 : readL e.2 [fT] with
        | none => rw [h9] at h; cases h
        | some t =>
          rw [h9] at h; simp only at h
          cases h1 : timeP t.2 with
          | none => rw [h1] at h; cases h
          | some d =>
            rw [h1] at h; simp only at h
            cases h2 : zoneP d.2 with
            | none => rw [h2] at h; cases h
            | some z =>
              rw [h2] at h; simp only at h
              injection h with h
              subst h
              exact ⟨zoneP_fits h2, (timeP_sec h1).1⟩
end Go.Proofs.YtgmnjghbafbopaaGreatDoor
