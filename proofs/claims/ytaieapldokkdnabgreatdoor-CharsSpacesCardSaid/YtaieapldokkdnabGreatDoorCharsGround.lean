/- What package chars leans on in memory: the library's tables and one variable; and the contract of chars.IsText. -/
import Derived.Test.YtaieapldokkdnabGreatDoorCharsText
import Derived.Test.YtaieapldokkdnabGreatDoorShelf
namespace Go.Proofs.YtaieapldokkdnabGreatDoor
open Go.RowKit Go.Lib

/-- The library's tables and its variable MaxLen are in memory. -/
def Gr (w : World) : Prop := Lib.Utf8Tabs 0 1 w ∧ ∃ m, w.cell? ⟨2, 0, none⟩ = some (.int .i64 m)
theorem Gr.later {w w' : World} (h : Gr w) (hb : Below w.heap.size w w') : Gr w' := by
  refine ⟨Utf8Tabs_below h.1 hb, ?_⟩
  obtain ⟨m, hm⟩ := h.2
  refine ⟨m, (hb.cell ?_).trans hm⟩
  rcases Nat.lt_or_ge 2 w.heap.size with h' | h'
  · exact h'
  · simp [World.cell?, Array.getElem?_eq_none h'] at hm
theorem Gr.drewN {w : World} (h : Gr w) : ∀ n, Gr (w.drewN n)
  | 0 => h
  | n + 1 => (h.drewN n).later (Below.refl _ _).drew

theorem isText_any (s : ByteArray) (w : World) (hs : s.size ≤ 9223372036854775807) (hg : Gr w) :
    Calls Tryz.prog 20 #[.string s] w fun e w' => e = .returned (.bool (text s.data.toList)) ∧ Below w.heap.size w w' :=
  isText_of s w (Tryz.utf8_ValidString s w hs hg.1)

theorem below_drewN {B : Nat} {a w : World} (h : Below B a w) : ∀ q, Below B a (w.drewN q)
  | 0 => h
  | q + 1 => (below_drewN h q).drew

/-- Names: texts of at most 100 characters, one part, or two with a colon between them. -/
def nameL (l : List UInt8) : Bool := text l && decide ((steps l).length ≤ 100) && (partL (Lib.cut l [58]).1 && (!(Lib.cut l [58]).2.2 || partL (Lib.cut l [58]).2.1))

set_option maxHeartbeats 1000000 in
set_option maxRecDepth 100000 in
theorem isName_any (s : ByteArray) (w : World) (hs : s.size < 4294967281) (hg : Gr w) :
    Calls Tryz.prog 21 #[.string s] w fun e w' => e = .returned (.bool (nameL s.data.toList)) ∧ Below w.heap.size w w' := by
  have cT := isText_any s w (by omega) hg
  unfold nameL
  cases hT : text s.data.toList <;> rw [hT] at cT <;> clear hT
  · go_enter Tryz.func21, Tryz.ntmps21
    go_wp2_with (go_at_call 20; refine cT.mono ?_; rintro e w' ⟨rfl, hb⟩)
    go_ret
    exact ⟨rfl, hb⟩
  · have cR : ∀ W, Calls Tryz.prog _ _ W _ := fun W => Tryz.utf8_RuneCountInString s W (by omega)
    rw [runeCount_steps] at cR
    by_cases hn : (steps s.data.toList).length ≤ 100
    · have hn' : ¬ ((100 : Int) < ((steps s.data.toList).length : Int)) := by omega
      rw [decide_eq_true hn]
      obtain ⟨n, hN⟩ : ∃ n, (steps s.data.toList).length = n := ⟨_, rfl⟩
      rw [hN] at cR hn'
      clear hn hN
      obtain ⟨a, hA⟩ : ∃ a, (Lib.cut s.data.toList [58]).1 = a := ⟨_, rfl⟩
      obtain ⟨b, hB⟩ : ∃ b, (Lib.cut s.data.toList [58]).2.1 = b := ⟨_, rfl⟩
      obtain ⟨f, hF⟩ : ∃ f, (Lib.cut s.data.toList [58]).2.2 = f := ⟨_, rfl⟩
      have cC : ∀ W, Gr W → Calls Tryz.prog 51 #[.string s, .string ⟨#[58]⟩] W fun e w' => e = .returned (.tuple #[.string ⟨a.toArray⟩, .string ⟨b.toArray⟩, .bool f]) ∧ ∃ n, w' = W.drewN n := fun W hW => by
        obtain ⟨m, hm⟩ := hW.2
        have := Tryz.strings_Cut s ⟨#[58]⟩ m W hs hm
        rw [← hA, ← hB, ← hF]; exact this
      rw [hA, hB, hF]
      have cA : ∀ W, Calls Tryz.prog _ _ W _ := fun W => isPart_any ⟨a.toArray⟩ W
      have cB : ∀ W, Calls Tryz.prog _ _ W _ := fun W => isPart_any ⟨b.toArray⟩ W
      simp only at cA cB
      clear hA hB hF
      cases hpa : partL a <;> rw [hpa] at cA
      · go_enter Tryz.func21, Tryz.ntmps21
        go_wp2_with (go_at_call 20; refine cT.mono ?_; rintro e w1 ⟨rfl, hb1⟩)
        go_wp2_with (go_at_call 46; refine (cR _).mono ?_; rintro e w2 ⟨rfl, p, rfl⟩)
        have hb2 : Below w.heap.size w (w1.iter s p) := hb1.trans ((iter_below w1 s p).mono hb1.size)
        have hg2 := hg.later hb2
        go_wp2_with (go_at_call 51; refine (cC _ hg2).mono ?_; rintro e w3 ⟨rfl, q, rfl⟩)
        have hb3 := below_drewN hb2 q
        generalize (w1.iter s p).drewN q = w3 at hb3 ⊢
        go_wp2_with (go_at_call 52; refine (cA _).mono ?_; rintro e w4 ⟨rfl, hb4⟩)
        go_ret
        exact ⟨ret_bool (by simp), hb3.trans (hb4.mono hb3.size)⟩
      · cases f
        · go_enter Tryz.func21, Tryz.ntmps21
          go_wp2_with (go_at_call 20; refine cT.mono ?_; rintro e w1 ⟨rfl, hb1⟩)
          go_wp2_with (go_at_call 46; refine (cR _).mono ?_; rintro e w2 ⟨rfl, p, rfl⟩)
          have hb2 : Below w.heap.size w (w1.iter s p) := hb1.trans ((iter_below w1 s p).mono hb1.size)
          have hg2 := hg.later hb2
          go_wp2_with (go_at_call 51; refine (cC _ hg2).mono ?_; rintro e w3 ⟨rfl, q, rfl⟩)
          have hb3 := below_drewN hb2 q
          generalize (w1.iter s p).drewN q = w3 at hb3 ⊢
          go_wp2_with (go_at_call 52; refine (cA _).mono ?_; rintro e w4 ⟨rfl, hb4⟩)
          go_ret
          exact ⟨ret_bool (by simp), hb3.trans (hb4.mono hb3.size)⟩
        · go_enter Tryz.func21, Tryz.ntmps21
          go_wp2_with (go_at_call 20; refine cT.mono ?_; rintro e w1 ⟨rfl, hb1⟩)
          go_wp2_with (go_at_call 46; refine (cR _).mono ?_; rintro e w2 ⟨rfl, p, rfl⟩)
          have hb2 : Below w.heap.size w (w1.iter s p) := hb1.trans ((iter_below w1 s p).mono hb1.size)
          have hg2 := hg.later hb2
          go_wp2_with (go_at_call 51; refine (cC _ hg2).mono ?_; rintro e w3 ⟨rfl, q, rfl⟩)
          have hb3 := below_drewN hb2 q
          generalize (w1.iter s p).drewN q = w3 at hb3 ⊢
          go_wp2_with fail
          refine (cA _).mono ?_
          rintro e w4 ⟨rfl, hb4⟩
          have hb4' := hb3.trans (hb4.mono hb3.size)
          go_wp2_with fail
          refine (cB _).mono ?_
          rintro e w5 ⟨rfl, hb5⟩
          go_wp2
          go_ret
          exact ⟨ret_bool (by simp), hb4'.trans (hb5.mono hb4'.size)⟩
    · have hn' : (100 : Int) < ((steps s.data.toList).length : Int) := by omega
      rw [decide_eq_false hn]
      clear hn
      go_enter Tryz.func21, Tryz.ntmps21
      go_wp2_with (go_at_call 20; refine cT.mono ?_; rintro e w1 ⟨rfl, hb1⟩)
      go_wp2_with (go_at_call 46; refine (cR _).mono ?_; rintro e w2 ⟨rfl, p, rfl⟩)
      have hb2 : Below w.heap.size w (w1.iter s p) := hb1.trans ((iter_below w1 s p).mono hb1.size)
      go_ret
      exact ⟨rfl, hb2⟩
end Go.Proofs.YtaieapldokkdnabGreatDoor
