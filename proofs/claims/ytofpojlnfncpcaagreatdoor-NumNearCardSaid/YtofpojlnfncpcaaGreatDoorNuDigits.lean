/- Natural numbers: the contract of digits. -/
import Derived.Test.YtofpojlnfncpcaaGreatDoorNuCmp
import Derived.Test.YtofpojlnfncpcaaGreatDoorNuDec
import Derived.Lib.OthersKept
import Derived.Shelf.Strings.MapGrows
namespace Go.Proofs.YtofpojlnfncpcaaGreatDoor
open Go.RowKit Go.Lib
attribute [local go_sem] Oper.semAt_some

/-! ### plain -/
/-- The digits of words, the highest ones first, nine for each. -/
def nines : List (Nat × Nat) → List UInt8
  | [] => []
  | x :: t => fixed 9 x.2 ++ nines t
theorem nines_app : ∀ a b : List (Nat × Nat), nines (a ++ b) = nines a ++ nines b
  | [], _ => rfl
  | x :: a, b => by rw [List.cons_append, nines, nines_app a b, nines, List.append_assoc]
theorem nines_bw (l : List Nat) (hs : Small l) : nines (bwL l) = fixed (9 * l.length) (val l) := by
  generalize hn : l.length = n
  induction n generalizing l with
  | zero => rw [List.eq_nil_of_length_eq_zero hn]; rfl
  | succ n ih =>
    have hne : l ≠ [] := by intro e; rw [e] at hn; simp at hn
    obtain ⟨t, x, rfl⟩ : ∃ t x, l = t ++ [x] := ⟨l.dropLast, l.getLast hne, (List.dropLast_concat_getLast hne).symm⟩
    have htl : t.length = n := by simpa using hn
    have hx : x < 1000000000 := hs x (by simp)
    have ht := val_lt t hs.left
    rw [bwL_snoc, nines, ih t hs.left htl, val_app, htl, show 9 * (n + 1) = 9 + 9 * n by omega, fixed_add]
    have hp : (10 : Nat) ^ (9 * n) = 1000000000 ^ n := by rw [Nat.pow_mul]
    rw [htl] at ht
    rw [hp]
    simp only [val, Nat.mul_zero, Nat.add_zero]
    have e1 : (val t + 1000000000 ^ n * x) / 1000000000 ^ n = x := by
      rw [Nat.add_mul_div_left _ _ (Nat.pow_pos (by omega)), Nat.div_eq_of_lt ht, Nat.zero_add]
    have e2 : fixed (9 * n) (val t + 1000000000 ^ n * x) = fixed (9 * n) (val t) := by
      rw [← fixed_mod (9 * n) (val t + _), hp, Nat.add_mul_mod_self_left, ← hp, fixed_mod]
    rw [e1, e2]
/-- strconv.Itoa's digits, filled up with zeros. -/
theorem decDigits_fixed : ∀ (k x : Nat), x < 10 ^ (k + 1) → (Lib.decDigits x).length ≤ k + 1 ∧ List.replicate (k + 1 - (Lib.decDigits x).length) 48 ++ Lib.decDigits x = fixed (k + 1) x
  | k, x, h => by
    rw [Lib.decDigits]
    by_cases h10 : x < 10
    · rw [dif_pos h10]
      refine ⟨by simp, ?_⟩
      rw [fixed, Nat.mod_eq_of_lt h10, Nat.div_eq_of_lt h10, fixed_zero]
      rfl
    · rw [dif_neg h10]
      cases k with
      | zero => omega
      | succ k =>
        obtain ⟨h1, h2⟩ := decDigits_fixed k (x / 10) (by rw [Nat.pow_succ] at h; omega)
        rw [List.length_append, List.length_singleton]
        refine ⟨by omega, ?_⟩
        rw [fixed, ← h2, show k + 1 + 1 - ((Lib.decDigits (x / 10)).length + 1) = k + 1 - (Lib.decDigits (x / 10)).length by omega, List.append_assoc]
        rfl
theorem itoa_fixed (x : Nat) (hx : x < 1000000000) : (Lib.itoa (x : Int)).length ≤ 9 ∧ List.replicate (9 - (Lib.itoa (x : Int)).length) 48 ++ Lib.itoa (x : Int) = fixed 9 x := by
  unfold Lib.itoa
  rw [if_neg (by omega), Int.toNat_natCast]
  exact decDigits_fixed 8 x hx
theorem repeat_zeros : ∀ c : Nat, Lib.repeatL [48] c = List.replicate c 48
  | 0 => rfl
  | c + 1 => by rw [Lib.repeatL, repeat_zeros c]; rfl
/-- A builder is as it was where cells stay as they were. -/
theorem builder_kept {T e : TypeId} {B b : Nat} {bs : List Value} {W W' : World} (h : IsBuilderF T e B b bs W) (hk : ∀ (k : Nat) (o : Obj), W.heap[k]? = some o → o.isCells = true → W'.heap[k]? = some o) : IsBuilderF T e B b bs W' := by
  have key : ∀ p, BuilderAtF T e B b p bs W → BuilderAtF T e B b p bs W' := by
    rintro p ⟨hB, v, hv, hown, hne⟩
    refine ⟨hB, v, hk b _ hv rfl, ⟨hown.1, ?_⟩, hne⟩
    rcases hown.2 with h | ⟨g, cap, cur, fz, h1, h2, h3, h4⟩
    · exact .inl h
    · exact .inr ⟨g, cap, cur, fz, h1, h2, hk g _ h3 rfl, h4⟩
  exact h.elim (fun x => .inl (key _ x)) (fun x => .inr (key _ x))
theorem builder_new {T e : TypeId} {B b : Nat} {W : World} (hB : B ≤ b) (h : W.heap[b]? = some (.cells #[.pointer none, .slice none 0 0] T (0, 0))) : IsBuilderF T e B b [] W :=
  .inl ⟨hB, _, h, World.ownsRowF_nil _ _ _ _, by simp [Value.ownBlock]⟩
/-- What the rounds stand on: the builder's text. -/
structure DigI (w : World) (va : Value) (pre : List (Nat × Nat)) (W : World) : Prop where
  bld : IsBuilderF 112 5 w.heap.size w.heap.size (Lib.byteCells (nines pre)) W
  ax : Boxed W (w.heap.size + 1) 45 va
  below : Below w.heap.size w W
  big : w.heap.size + 2 ≤ W.heap.size
theorem DigI.other {w : World} {va : Value} {pre : List (Nat × Nat)} {X Y : World} (h : DigI w va pre X) {R : Nat → Prop} (hc : Ch R X Y) (hR : ∀ k, R k → w.heap.size + 2 ≤ k ∧ ∃ o : Obj, X.heap[k]? = some o ∧ o.isCells = false) : DigI w va pre Y := by
  have hb := h.big
  have hcells : ∀ (k : Nat) (o : Obj), X.heap[k]? = some o → o.isCells = true → Y.heap[k]? = some o := by
    intro k o hk ho
    refine (hc.block k (Array.getElem?_eq_some_iff.1 hk).1 (fun hr => ?_)).trans hk
    obtain ⟨_, o', ho', hc'⟩ := hR k hr
    rw [hk] at ho'
    cases ho'
    rw [ho] at hc'
    cases hc'
  exact ⟨builder_kept h.bld hcells, hcells _ _ h.ax rfl, h.below.trans (hc.below (by omega) (fun k hk e => by have := (hR k e).1; omega)), Nat.le_trans hb hc.size⟩
end Go.Proofs.YtofpojlnfncpcaaGreatDoor
