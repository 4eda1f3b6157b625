/- The law's guard: light. -/
import Derived.Test.YtgjjmapfdijphaaDoorCoWorks
namespace Go.Proofs.YtgjjmapfdijphaaDoor
open Go.RowKit Go.Lib Go.Shelf

def lightL (text : ByteArray) (l : List ByteArray) : Bool := l.all (fun s => decide (s.size ≤ 200)) && decide (text.size ≤ 2000)
set_option maxHeartbeats 2000000 in
set_option maxRecDepth 100000 in
theorem light_any (text : ByteArray) (A n : Nat) (l : List ByteArray) (hl : l.length = n) (hn : n ≤ 100) (w : World) (hc : ∀ (j : Nat) s, l[j]? = some s → w.cell? ⟨A, j, none⟩ = some (.string s)) :
    Calls Tryd.prog 9 #[.string text, .slice (some ⟨A, 0, none⟩) n n] w fun e w' => e = .returned (.bool (lightL text l)) ∧ w' = w := by
  obtain ⟨R, hR⟩ : ∃ R, lightL text l = R := ⟨_, rfl⟩
  rw [hR]
  have HR := Lib.hid (show lightL text (l.drop 0) = R from hR)
  clear hR
  go_enter Tryd.func9, Tryd.ntmps9
  go_wp2_with fail
  go_loopg [9] n (fun g s9 wx => ∃ i : Nat, s9 = .int .i64 i ∧ i + g = n ∧ wx = w ∧ Hid (lightL text (l.drop i) = R))
  case atStart => exact ⟨0, rfl, by omega, rfl, HR⟩
  case round =>
    clear HR
    obtain ⟨i, rfl, hig, rfl, HK⟩ := hrel
    by_cases hlt : i < n
    · obtain ⟨g, rfl⟩ : ∃ g, gk = g + 1 := ⟨gk - 1, by omega⟩
      obtain ⟨s, hs⟩ : ∃ s, l[i]? = some s := ⟨_, List.getElem?_eq_getElem (by omega)⟩
      have c0 := hc i s hs
      have hdr : l.drop i = s :: l.drop (i + 1) := by
        rw [List.drop_eq_getElem_cons (by omega)]; congr 1
        rw [List.getElem?_eq_getElem (by omega)] at hs; exact Option.some.inj hs
      have hk := HK.out
      rw [hdr] at hk
      have hil : (i : Int) < (n : Int) := by omega
      clear HK hdr hs hl
      by_cases h2 : s.size ≤ 200
      · have hk2 : lightL text (l.drop (i + 1)) = R := by rw [← hk]; unfold lightL; simp [h2]
        have HK2 := Lib.hid hk2
        have h200 : ¬ (200 : Int) < (s.size : Int) := by omega
        clear hk hk2
        go_wp2_with fail
        go_roundg g
        case rel => exact ⟨i + 1, by congr 1, by omega, rfl, HK2⟩
        all_goals omega
      · have hk2 : R = false := by rw [← hk]; unfold lightL; simp [h2]
        subst hk2
        have h200 : (200 : Int) < (s.size : Int) := by omega
        clear hk
        go_wp2_with fail
        go_ret
        exact ⟨rfl, rfl⟩
    · have hil : ¬ (i : Int) < (n : Int) := by omega
      have hk := HK.out
      rw [List.drop_eq_nil_of_le (by omega)] at hk
      have hR2 : R = decide (text.size ≤ 2000) := by rw [← hk]; unfold lightL; simp
      clear HK hk
      by_cases h2 : text.size ≤ 2000
      · have h200 : (text.size : Int) ≤ 2000 := by omega
        obtain rfl : R = true := by rw [hR2, decide_eq_true h2]
        clear hR2
        go_wp2_with fail
        go_ret
        exact ⟨rfl, rfl⟩
      · have h200 : ¬ (text.size : Int) ≤ 2000 := by omega
        obtain rfl : R = false := by rw [hR2, decide_eq_false h2]
        clear hR2
        go_wp2_with fail
        go_ret
        exact ⟨rfl, rfl⟩
/-- Parse, whatever the text says: a collation, nil or not. -/
theorem parse_some (s : ByteArray) (w : World) (hg : GrC w) :
    Calls Tryd.prog 13 #[.string s] w fun e w' => ∃ (o : Option Addr) (n k : Int) (T : Tb), e = .returned (.tuple #[.pointer o, .int .i64 n, .int .i64 k]) ∧ TabAt w' (.pointer o) T ∧ TabSmall T ∧ Below w.heap.size w w' := by
  cases h : parseL s.data.toList with
  | ok T =>
    refine (parse_ok s T w hg h).mono ?_
    rintro e w' ⟨p, rfl, h1, h2, hb⟩
    exact ⟨_, _, _, T, rfl, h1, h2, hb⟩
  | error x =>
    refine (parse_bad s x.1 x.2 w hg h).mono ?_
    rintro e w' ⟨rfl, hb⟩
    exact ⟨none, _, _, ⟨[], 0, 0⟩, rfl, .inl ⟨rfl, rfl⟩, ⟨by decide, by decide, fun c x h => by cases h⟩, hb⟩
end Go.Proofs.YtgjjmapfdijphaaDoor
