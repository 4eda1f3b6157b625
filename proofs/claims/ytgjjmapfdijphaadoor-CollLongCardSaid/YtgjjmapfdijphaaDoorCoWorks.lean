/- The law's examples of coll: works. -/
import Derived.Test.YtgjjmapfdijphaaDoorCoParse
import Derived.Test.YtgjjmapfdijphaaDoorCoComp
namespace Go.Proofs.YtgjjmapfdijphaaDoor
open Go.RowKit Go.Lib Go.Shelf

theorem works_key : keyL chapterT [45, 98, 65] = [0, 0, 2, 0, 0, 1, 0, 0, 0, 0, 0, 1, 0, 0, 2, 0, 0, 0, 0, 0, 1, 0, 0, 1] := by rfl
theorem works_1 : cmpL (keyL chapterT [97, 98]) (keyL chapterT [65, 97]) = 1 := by rfl
theorem works_2 : cmpL (keyL chapterT [97]) (keyL chapterT [65]) = -1 := by rfl
theorem works_3 : cmpL (keyL chapterT [97, 45, 98]) (keyL chapterT [97, 98]) = 0 := by rfl
theorem parse_ok (s : ByteArray) (T : Tb) (w : World) (hg : GrC w) (h : parseL s.data.toList = .ok T) :
    Calls Tryd.prog 13 #[.string s] w fun e w' => ∃ p, e = .returned (.tuple #[.pointer (some ⟨p, 0, none⟩), .int .i64 0, .int .i64 0]) ∧ TabAt w' (.pointer (some ⟨p, 0, none⟩)) T ∧ TabSmall T ∧ Below w.heap.size w w' := by
  have cP := parse_any s w hg
  rw [h] at cP
  refine cP.mono ?_
  rintro e w' ⟨⟨v, rfl, h1, h2, h3⟩, hb⟩
  rcases h1 with ⟨rfl, _⟩ | ⟨p, mv, rfl, h4, h5⟩
  · exact absurd rfl h3
  · exact ⟨p, rfl, .inr ⟨p, mv, rfl, h4, h5⟩, h2, hb⟩
theorem parse_bad (s : ByteArray) (n k : Nat) (w : World) (hg : GrC w) (h : parseL s.data.toList = .error (n, k)) :
    Calls Tryd.prog 13 #[.string s] w fun e w' => e = .returned (.tuple #[.pointer none, .int .i64 (n : Int), .int .i64 (k : Int)]) ∧ Below w.heap.size w w' := by
  have cP := parse_any s w hg
  rw [h] at cP
  exact cP
set_option maxHeartbeats 2000000 in
set_option maxRecDepth 100000 in
theorem works_any (w : World) (hg : GrC w) :
    Calls Tryd.prog 10 #[] w fun e w' => e = .returned (.bool true) ∧ Below w.heap.size w w' := by
  have cP := parse_ok ⟨#[105, 103, 110, 111, 114, 101, 32, 45, 10, 97, 32, 44, 32, 65, 32, 60, 32, 98, 32, 60, 32, 99, 32, 59, 32, 85, 43, 69, 55, 32, 44, 32, 67]⟩ chapterT w hg chapter_parse
  go_enter Tryd.func10, Tryd.ntmps10
  go_wp2_with fail
  refine cP.mono ?_
  rintro e w1 ⟨p, rfl, hT, hS, hb⟩
  go_wp2_with fail
  obtain ⟨W2, hW2⟩ : ∃ W2, w1.alloc (.cells #[.int .u8 0, .int .u8 0, .int .u8 2, .int .u8 0, .int .u8 0, .int .u8 1, .int .u8 0, .int .u8 0, .int .u8 0, .int .u8 0, .int .u8 0, .int .u8 1, .int .u8 0, .int .u8 0, .int .u8 2, .int .u8 0, .int .u8 0, .int .u8 0, .int .u8 0, .int .u8 0, .int .u8 1, .int .u8 0, .int .u8 0, .int .u8 1] 5) = W2 := ⟨_, rfl⟩
  rw [hW2]
  have hb2 : Below w1.heap.size w1 W2 := by rw [← hW2]; exact (Below.refl _ _).alloc (Nat.le_refl _) _
  have hV : BytesV W2 (.slice (some ⟨w1.heap.size, 0, none⟩) 24 24) [0, 0, 2, 0, 0, 1, 0, 0, 0, 0, 0, 1, 0, 0, 2, 0, 0, 0, 0, 0, 1, 0, 0, 1] := by
    rw [← hW2]
    exact BytesV.of_row (B := w1.heap.size) (World.ownsRow_lit w1 #[.int .u8 0, .int .u8 0, .int .u8 2, .int .u8 0, .int .u8 0, .int .u8 1, .int .u8 0, .int .u8 0, .int .u8 0, .int .u8 0, .int .u8 0, .int .u8 1, .int .u8 0, .int .u8 0, .int .u8 2, .int .u8 0, .int .u8 0, .int .u8 0, .int .u8 0, .int .u8 0, .int .u8 1, .int .u8 0, .int .u8 0, .int .u8 1] 24 (Nat.le_refl _) (by decide) rfl)
  clear hW2
  have hT2 := hT.later hb2
  have hbw2 := hb.trans (hb2.mono hb.size)
  have cK := key_any (.pointer (some ⟨p, 0, none⟩)) ⟨#[45, 98, 65]⟩ chapterT W2 (hg.gr.later hbw2) (by decide) hT2 hS
  refine cK.mono ?_
  rintro e W3 ⟨u, rfl, hu, hb3⟩
  rw [show keyL chapterT (⟨#[45, 98, 65]⟩ : ByteArray).data.toList = _ from works_key] at hu
  have hbw3 := hbw2.trans (hb3.mono hbw2.size)
  have hT3 := hT2.later hb3
  have cE := bytesEqual_any u _ _ _ W3 hu (hV.later hb3)
  rw [decide_eq_true rfl] at cE
  go_wp2_with fail
  refine cE.mono ?_
  rintro e W3' ⟨rfl, rfl⟩
  have k3 := compare_any (.pointer (some ⟨p, 0, none⟩)) ⟨#[97, 98]⟩ ⟨#[65, 97]⟩ chapterT W3 (hg.gr.later hbw3) (by decide) (by decide) hT3 hS
  rw [show cmpL (keyL chapterT (⟨#[97, 98]⟩ : ByteArray).data.toList) (keyL chapterT (⟨#[65, 97]⟩ : ByteArray).data.toList) = _ from works_1] at k3
  go_wp2_with fail
  refine k3.mono ?_
  rintro e W4 ⟨rfl, hb4⟩
  have hT4 := hT3.later hb4
  have hbw4 := hbw3.trans (hb4.mono hbw3.size)
  have k4 := compare_any (.pointer (some ⟨p, 0, none⟩)) ⟨#[97]⟩ ⟨#[65]⟩ chapterT W4 (hg.gr.later hbw4) (by decide) (by decide) hT4 hS
  rw [show cmpL (keyL chapterT (⟨#[97]⟩ : ByteArray).data.toList) (keyL chapterT (⟨#[65]⟩ : ByteArray).data.toList) = _ from works_2] at k4
  go_wp2_with fail
  refine k4.mono ?_
  rintro e W5 ⟨rfl, hb5⟩
  have hT5 := hT4.later hb5
  have hbw5 := hbw4.trans (hb5.mono hbw4.size)
  have k5 := compare_any (.pointer (some ⟨p, 0, none⟩)) ⟨#[97, 45, 98]⟩ ⟨#[97, 98]⟩ chapterT W5 (hg.gr.later hbw5) (by decide) (by decide) hT5 hS
  rw [show cmpL (keyL chapterT (⟨#[97, 45, 98]⟩ : ByteArray).data.toList) (keyL chapterT (⟨#[97, 98]⟩ : ByteArray).data.toList) = _ from works_3] at k5
  go_wp2_with fail
  refine k5.mono ?_
  rintro e W6 ⟨rfl, hb6⟩
  have hT6 := hT5.later hb6
  have hbw6 := hbw5.trans (hb6.mono hbw5.size)
  go_wp2_with fail
  go_ret
  exact ⟨rfl, hbw6⟩
end Go.Proofs.YtgjjmapfdijphaaDoor
