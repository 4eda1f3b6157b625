/- The contracts of bytes.Compare, bytes.Equal at bytes, and (*coll.Table).Compare. -/
import Derived.Test.YtgjjmapfdijphaaDoorCoKey2
import Derived.Lib.BytesEntry
import Derived.Lib.Bytealg
import Derived.Laws.Externs
import Derived.Lib.LazyBuf
namespace Go.Proofs.YtgjjmapfdijphaaDoor
open Go.RowKit Go.Lib

theorem cmpL_is : ∀ a b : List UInt8, compareBytes a b = cmpL a b
  | [], [] => rfl
  | [], _ :: _ => rfl
  | _ :: _, [] => rfl
  | a :: s, b :: t => by
    rw [cmpL_cons]
    show (if a < b then -1 else if b < a then 1 else compareBytes s t) = _
    rw [cmpL_is s t]
theorem bytes_back (l : List UInt8) : Lib.bytesOf (l.map fun b => (b.toNat : Int)) = l := by
  unfold Lib.bytesOf
  rw [List.map_map]
  conv => rhs; rw [← List.map_id l]
  exact List.map_congr_left fun b _ => by simp
theorem bytesOf_V {w : World} {v : Value} {l : List UInt8} (h : BytesV w v l) : (Extern.Bytes.bytesOf v).run Tryd.prog w = .ok ⟨l.toArray⟩ w := by
  obtain ⟨a, cap, rfl, _, h⟩ := h
  rcases Nat.eq_zero_or_pos l.length with hn | hn
  · obtain rfl : l = [] := List.eq_nil_of_length_eq_zero hn
    cases a with
    | none => rfl
    | some a => rfl
  · obtain ⟨b, o, rfl, h2⟩ := h hn
    have hl := run_loadBytesX (P := Tryd.prog) w (l.map fun b => (b.toNat : Int)) ⟨b, o, none⟩ .empty (fun j x hj => by
      have hjl : j < l.length := by
        have := (List.getElem?_eq_some_iff.1 hj).1
        rwa [List.length_map] at this
      have e : (⟨b, o, none⟩ : Addr).add j = ⟨b, o + j, none⟩ := by unfold Addr.add; split <;> simp_all
      rw [e, h2 j hjl, List.getD_eq_getElem?_getD, hj]
      rfl)
    rw [List.length_map, bytes_back] at hl
    show (Extern.Bytes.loadBytes ⟨b, o, none⟩ l.length .empty).run Tryd.prog w = _
    rw [hl]
    congr 1
    apply ByteArray.ext
    simp
theorem run_compare {w : World} {u v : Value} {a b : List UInt8} (hu : BytesV w u a) (hv : BytesV w v b) : (Extern.BytealgCompare.compare #[u, v]).run Tryd.prog w = .ok (.int .i64 (cmpL a b)) w := by
  change Sem.run Tryd.prog (do pure (goInt (Extern.BytealgCompare.cmp (← Extern.Bytes.bytesOf u) (← Extern.Bytes.bytesOf v)))) w = _
  simp only [Sem.run_bind, bytesOf_V hu, bytesOf_V hv, Sem.run_pure, Result.andThen]
  rw [cmp_eq, cmpL_is]
  rfl
set_option maxHeartbeats 1000000 in
set_option maxRecDepth 100000 in
theorem bytesCompare_any (u v : Value) (a b : List UInt8) (w : World) (hu : BytesV w u a) (hv : BytesV w v b) :
    Calls Tryd.prog 26 #[u, v] w fun e w' => e = .returned (.int .i64 (cmpL a b)) ∧ w = w' := by
  have hr := run_compare hu hv
  obtain ⟨p1, c1, rfl, _, _⟩ := hu
  obtain ⟨p2, c2, rfl, _, _⟩ := hv
  go_enter Tryd.func26, Tryd.ntmps26
  go_wp2
  rw [run_callFunc_extern Tryd.func46 (by kernel_rfl) (by kernel_rfl) (by kernel_rfl) (e := Extern.BytealgCompare.compare) (by kernel_rfl), hr]
  simp only [Result.andThen]
  rw [Oper.upon_value]
  go_wp2
  go_ret
  exact ⟨rfl, rfl⟩
theorem bytesEqual_any (u v : Value) (a b : List UInt8) (w : World) (hu : BytesV w u a) (hv : BytesV w v b) :
    Calls Tryd.prog 18 #[u, v] w fun e w' => e = .returned (.bool (decide (a = b))) ∧ w = w' := by
  obtain ⟨p1, c1, rfl, _, h1⟩ := hu
  obtain ⟨p2, c2, rfl, _, h2⟩ := hv
  refine (Tryd.bytes_Equal_all p1 p2 a.length c1 b.length c2 _ _ w (List.length_map _) (List.length_map _) h1 h2).mono ?_
  rintro e w' ⟨rfl, rfl⟩
  rw [bytes_back, bytes_back]
  refine ⟨ret_bool ?_, rfl⟩
  rw [Bool.eq_iff_iff, beq_iff_eq, decide_eq_true_iff]
set_option maxHeartbeats 1000000 in
set_option maxRecDepth 100000 in
theorem compare_any (v : Value) (s t : ByteArray) (T : Tb) (w : World) (hg : Gr w) (hs : s.size ≤ 1000000) (ht : t.size ≤ 1000000) (hv : TabAt w v T) (hT : TabSmall T) :
    Calls Tryd.prog 12 #[v, .string s, .string t] w fun e w' => e = .returned (.int .i64 (cmpL (keyL T s.data.toList) (keyL T t.data.toList))) ∧ Below w.heap.size w w' := by
  have c1 := key_any v s T w hg hs hv hT
  have c2 := fun W (hb : Below w.heap.size w W) => key_any v t T W (hg.later hb) ht (hv.later hb) hT
  have hvs : ∃ a, v = .pointer a := by
    rcases hv with ⟨rfl, _⟩ | ⟨p, _, rfl, _⟩
    · exact ⟨_, rfl⟩
    · exact ⟨_, rfl⟩
  clear hv
  obtain ⟨a, rfl⟩ := hvs
  generalize keyL T s.data.toList = A at c1 ⊢
  generalize keyL T t.data.toList = B at c2 ⊢
  go_enter Tryd.func12, Tryd.ntmps12
  go_wp2_with fail
  refine c1.mono ?_
  rintro e w1 ⟨u1, rfl, h1, hb1⟩
  have c3 := c2 w1 hb1
  clear c1 c2
  have h1' := fun W (hb : Below w1.heap.size w1 W) => h1.later hb
  obtain ⟨p1, k1, rfl, _, _⟩ := h1
  go_wp2_with fail
  refine c3.mono ?_
  rintro e w2 ⟨u2, rfl, h2, hb2⟩
  have c4 := bytesCompare_any _ _ A B w2 (h1' w2 hb2) h2
  obtain ⟨p2, k2, rfl, _, _⟩ := h2
  clear c3 h1'
  go_wp2_with fail
  refine c4.mono ?_
  rintro e w3 ⟨rfl, rfl⟩
  go_wp2_with fail
  go_ret
  exact ⟨rfl, hb1.trans (hb2.mono hb1.size)⟩
end Go.Proofs.YtgjjmapfdijphaaDoor
