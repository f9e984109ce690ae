/-
  MappingKnown.
-/
import Derived.Test.YthhcilekbmbglaaDoorId
import Derived.Test.YthhcilekbmbglaaDoorGm
namespace Go.Proofs.YthhcilekbmbglaaDoor
open Go.RowKit

theorem u12_1 : tkB [5, 2, 0, 0, 9] (sumB ms12 0) 8 = [5] := by decide +kernel
theorem u12_2 : tkB [5, 2, 0, 0, 9] (sumB ms12 1) 1 = [0] := by decide +kernel
theorem u12_3 : tkB [5, 2, 0, 0, 9] (sumB ms12 2) 16 = [1, 0] := by decide +kernel
theorem o12_6 : Oct [5, 2, 0] := fun n hn => by simp at hn; omega
theorem o12_7 : Oct [5, 2, 0, 0, 9] := fun n hn => by simp at hn; omega
theorem s64 : sumB (List.replicate 64 ⟨24576, 2, 1⟩) 64 = 64 := by decide +kernel
/-- One row of Maps, laid. -/
theorem ms_lit (w : World) (g : Nat) (hg : g = w.heap.size) (ms : List Mq) (C : Array Value) (hC : C = (ms.flatMap fun x => [.int .u16 x.i, .int .u8 x.s, .int .i64 (x.b : Int)]).toArray) : MsAt (w.alloc (.cells C 34)) g ms := by
  subst hC
  subst hg
  intro k x hx
  have e := flw_at ms k x hx
  have q : ∀ c, c < 3 → (flw ms)[k * 3 + c]? = x.L[c]? := fun c hc => by rw [← e, List.getElem?_take, if_pos hc, List.getElem?_drop]
  have a0 := q 0 (by decide)
  have a1 := q 1 (by decide)
  have a2 := q 2 (by decide)
  refine ⟨?_, ?_, ?_⟩
  · rw [cell_of_row _ w.heap.size _ _ _ _ (at11 _ _ _ rfl)]
    have : (flw ms).toArray[k * 3]? = x.L[0]? := by rw [List.getElem?_toArray]; exact a0
    exact this
  · rw [cell_of_row _ w.heap.size _ _ _ _ (at11 _ _ _ rfl)]
    have : (flw ms).toArray[k * 3 + 1]? = x.L[1]? := by rw [List.getElem?_toArray]; exact a1
    exact this
  · rw [cell_of_row _ w.heap.size _ _ _ _ (at11 _ _ _ rfl)]
    have : (flw ms).toArray[k * 3 + 2]? = x.L[2]? := by rw [List.getElem?_toArray]; exact a2
    exact this

set_option linter.unusedSimpArgs false in
set_option maxHeartbeats 4000000 in
set_option maxRecDepth 100000 in
theorem mappingKnown_any (w : World) (hT : Ty.Tab64 w) : Calls Tryd.prog 3 #[] w fun e w' => e = .returned (.bool true) ∧ Below w.heap.size w w' := by
  have HT : Hid (Ty.Tab64 w) := hT
  have eqM : ∀ W, (binOp .eql 34 (mpV 24576 1 8) (mpV 24576 1 8)).run Tryd.prog W = .ok (.bool true) W := fun W => by kernel_rfl
  clear hT
  go_enter Tryd.func3, Tryd.ntmps3
  go_wp2_with fail
  refine (three12_any w).mono ?_
  rintro e w1 ⟨ge, gm, a1, c1, a2, c2, a3, c3, rfl, s1, s2, s3, ha, hm, hb⟩
  have B1 : Hid (Below w.heap.size w w1) := hb
  have M1 : Hid (MsAt w1 gm ms12) := hm
  have NW := exNew12 w1 ge a1 c1 a2 c2 a3 c3 s1 s2 s3 ha (tab_next HT.out hb)
  clear s1 s2 s3 ha hm hb
  go_wp2_with fail
  refine NW.mono ?_
  rintro e w2 ⟨p, m, rfl, hb, hp, hmm, ht⟩
  have B2 : Hid (Below w.heap.size w w2) := Below.andThen B1.out hb
  have M2 : Hid (MsAt w2 gm ms12) := M1.out.next hb
  have T2 : Hid (T12 w2 p m 0 [3] [1] [254, 255]) := ht
  have P2 : Hid (w.heap.size ≤ p ∧ w.heap.size ≤ m) := ⟨by have := B1.out.size; omega, by have := B1.out.size; omega⟩
  have GM : Hid (gm ≠ p ∧ gm ≠ m) := by
    obtain ⟨q0, _, _⟩ := M1.out 0 _ rfl
    have := block_lt_of_cell q0
    dsimp only at this
    exact ⟨by omega, by omega⟩
  clear hb hp hmm ht NW M1
  go_wp2_with fail
  refine (of_any 1610613000 w2 (by decide) (by decide)).mono ?_
  rintro e w3 ⟨rfl, hb⟩
  have B3 : Hid (Below w.heap.size w w3) := Below.andThen B2.out hb
  have M3 : Hid (MsAt w3 gm ms12) := M2.out.next hb
  have T3 : Hid (T12 w3 p m 0 [3] [1] [254, 255]) := T2.out.next hb
  rw [show (1610613000 : Int) / 65536 = 24576 from by decide, show (1610613000 : Int) / 256 % 256 = 1 from by decide, show (1610613000 : Int) % 256 = 8 from by decide]
  clear hb M2 T2
  go_wp2_with fail
  have T3a : T12 (w3.alloc (.cells #[.int .u8 5, .int .u8 2, .int .u8 0] 5)) p m 0 [3] [1] [254, 255] := T3.out.next (by repeat (first | exact Below.refl _ _ | apply Below.drew | apply Below.al))
  have WF : Calls Tryd.prog 7 #[.pointer (some ⟨p, 0, none⟩), .slice (some ⟨gm, 0, none⟩) 3 3, .slice (some ⟨w3.heap.size, 0, none⟩) 3 3] (w3.alloc (.cells #[.int .u8 5, .int .u8 2, .int .u8 0] 5)) fun e w' => e = .returned (.int .u32 101122064) ∧ Below (w3.alloc (.cells #[.int .u8 5, .int .u8 2, .int .u8 0] 5)).heap.size (w3.alloc (.cells #[.int .u8 5, .int .u8 2, .int .u8 0] 5)) w' := by
    obtain ⟨q1, q2, q3, h8⟩ := T3a
    exact write_fail _ _ _ 101122064 (by decide) _ (unpack_short p m 0 _ gm 3 3 ms12 (some ⟨w3.heap.size, 0, none⟩) 3 3 _ h8.h h8.mm rfl (by decide) (M3.out.next (by repeat (first | exact Below.refl _ _ | apply Below.drew | apply Below.al))) (mp12 h8 false) (by rw [s12]; decide) (by rw [s12]; decide))
  refine WF.mono ?_
  rintro e w4 ⟨rfl, hb⟩
  have B4 : Hid (Below w.heap.size w w4) := Below.andThen (Below.al B3.out _) hb
  have M4 : Hid (MsAt w4 gm ms12) := (M3.out.next (by repeat (first | exact Below.refl _ _ | apply Below.drew | apply Below.al))).next hb
  have T4 : Hid (T12 w4 p m 0 [3] [1] [254, 255]) := T3a.next hb
  clear hb M3 T3 WF T3a
  go_wp2_with fail
  refine (write12g [5, 2, 0, 0, 9] 5 (by decide) (by decide) u12_1 u12_2 u12_3 _ p m gm _ 5 (T4.out.next (by repeat (first | exact Below.refl _ _ | apply Below.drew | apply Below.al))) (M4.out.next (by repeat (first | exact Below.refl _ _ | apply Below.drew | apply Below.al))) (row_lit w4 _ _ [5, 2, 0, 0, 9] 5 rfl o12_7 rfl)).mono ?_
  rintro e w5 ⟨rfl, t5, k5⟩
  have P3 := P2.out
  have B5 : Hid (Below w.heap.size w w5) := Kp.below (Below.al B4.out _) k5 (by have := B4.out.size; simp; omega) (by simp; omega)
  have T5 : Hid (T12 w5 p m 3 [5] [0] [1, 0]) := t5
  have M5 : Hid (MsAt w5 gm ms12) := (M4.out.next (by repeat (first | exact Below.refl _ _ | apply Below.drew | apply Below.al))).kp k5 (by have := GM.out; simp; omega)
  clear t5 k5 P3 M4 T4
  go_wp2_with fail
  refine (chk12 (T5.out.next (by repeat (first | exact Below.refl _ _ | apply Below.drew | apply Below.al))) true (w5.heap.size + 1 + 1) 1 1 [⟨24576, 1, 7⟩] rfl (by decide) (ms_lit _ (w5.heap.size + 1 + 1) (by simp) [⟨24576, 1, 7⟩] _ rfl) (by simp [al12]) 100925505 (by decide)).mono ?_
  rintro e v1 ⟨rfl, hb⟩
  have Bv1 : Hid (Below w.heap.size w v1) := Below.andThen (Below.al (Below.al (Below.al B5.out _) _) _) hb
  have Tv1 : Hid (T12 v1 p m 3 [5] [0] [1, 0]) := (T5.out.next (by repeat (first | exact Below.refl _ _ | apply Below.drew | apply Below.al))).next hb
  have Mv1 : Hid (MsAt v1 gm ms12) := (M5.out.next (by repeat (first | exact Below.refl _ _ | apply Below.drew | apply Below.al))).next hb
  have Pv1 : Hid (v1.heap[w5.heap.size]? = some (.cells #[.int .u16 24576, .int .u8 1] 32 (0, 0))) := blk11 hb (ext11 (ext11 (at11 _ _ _ rfl)))
  have Gv1 : Hid (v1.heap[w5.heap.size + 1]? = some (.cells #[.int .u16 7, .int .u8 0, .int .i64 32] 34 (0, 0))) := blk11 hb (ext11 (at11 _ _ _ (by simp)))
  have lpv1 := lt_of_heap Pv1.out
  have lgv1 := lt_of_heap Gv1.out
  have pc0v1 : v1.cell? ⟨w5.heap.size, 0, none⟩ = some (.int .u16 24576) := by rw [cell_of_row _ _ 0 _ _ _ Pv1.out]; rfl
  have pc1v1 : v1.cell? ⟨w5.heap.size, 1, none⟩ = some (.int .u8 1) := by rw [cell_of_row _ _ 1 _ _ _ Pv1.out]; rfl
  have gc0v1 : v1.cell? ⟨w5.heap.size + 1, 0, none⟩ = some (.int .u16 7) := by rw [cell_of_row _ _ 0 _ _ _ Gv1.out]; rfl
  have gc1v1 : v1.cell? ⟨w5.heap.size + 1, 1, none⟩ = some (.int .u8 0) := by rw [cell_of_row _ _ 1 _ _ _ Gv1.out]; rfl
  have gc2v1 : v1.cell? ⟨w5.heap.size + 1, 2, none⟩ = some (.int .i64 32) := by rw [cell_of_row _ _ 2 _ _ _ Gv1.out]; rfl
  clear hb M5 T5
  go_wp2_with fail
  refine (chk12 (Tv1.out.next (by repeat (first | exact Below.refl _ _ | apply Below.drew | apply Below.al))) true v1.heap.size 1 1 [⟨7, 0, 32⟩] rfl (by decide) (ms_lit _ v1.heap.size rfl [⟨7, 0, 32⟩] _ rfl) (by simp [al12]) 100925505 (by decide)).mono ?_
  rintro e v2 ⟨rfl, hb⟩
  have Bv2 : Hid (Below w.heap.size w v2) := Below.andThen (Below.al Bv1.out _) hb
  have Tv2 : Hid (T12 v2 p m 3 [5] [0] [1, 0]) := (Tv1.out.next (by repeat (first | exact Below.refl _ _ | apply Below.drew | apply Below.al))).next hb
  have Mv2 : Hid (MsAt v2 gm ms12) := (Mv1.out.next (by repeat (first | exact Below.refl _ _ | apply Below.drew | apply Below.al))).next hb
  have Pv2 : Hid (v2.heap[w5.heap.size]? = some (.cells #[.int .u16 24576, .int .u8 1] 32 (0, 0))) := blk11 hb (ext11 Pv1.out)
  have Gv2 : Hid (v2.heap[w5.heap.size + 1]? = some (.cells #[.int .u16 7, .int .u8 0, .int .i64 32] 34 (0, 0))) := blk11 hb (ext11 Gv1.out)
  have lpv2 := lt_of_heap Pv2.out
  have lgv2 := lt_of_heap Gv2.out
  have pc0v2 : v2.cell? ⟨w5.heap.size, 0, none⟩ = some (.int .u16 24576) := by rw [cell_of_row _ _ 0 _ _ _ Pv2.out]; rfl
  have pc1v2 : v2.cell? ⟨w5.heap.size, 1, none⟩ = some (.int .u8 1) := by rw [cell_of_row _ _ 1 _ _ _ Pv2.out]; rfl
  have gc0v2 : v2.cell? ⟨w5.heap.size + 1, 0, none⟩ = some (.int .u16 7) := by rw [cell_of_row _ _ 0 _ _ _ Gv2.out]; rfl
  have gc1v2 : v2.cell? ⟨w5.heap.size + 1, 1, none⟩ = some (.int .u8 0) := by rw [cell_of_row _ _ 1 _ _ _ Gv2.out]; rfl
  have gc2v2 : v2.cell? ⟨w5.heap.size + 1, 2, none⟩ = some (.int .i64 32) := by rw [cell_of_row _ _ 2 _ _ _ Gv2.out]; rfl
  clear hb Mv1 Tv1 Pv1 Gv1 lpv1 lgv1 pc0v1 pc1v1 gc0v1 gc1v1 gc2v1
  go_wp2_with fail
  refine (chk12 (Tv2.out.next (by repeat (first | exact Below.refl _ _ | apply Below.drew | apply Below.al))) false v2.heap.size 2 2 [⟨7, 0, 32⟩, ⟨7, 0, 32⟩] rfl (by decide) (ms_lit _ v2.heap.size rfl [⟨7, 0, 32⟩, ⟨7, 0, 32⟩] _ rfl) (by simp [al12]) 0 (by decide)).mono ?_
  rintro e v3 ⟨rfl, hb⟩
  have Bv3 : Hid (Below w.heap.size w v3) := Below.andThen (Below.al Bv2.out _) hb
  have Tv3 : Hid (T12 v3 p m 3 [5] [0] [1, 0]) := (Tv2.out.next (by repeat (first | exact Below.refl _ _ | apply Below.drew | apply Below.al))).next hb
  have Mv3 : Hid (MsAt v3 gm ms12) := (Mv2.out.next (by repeat (first | exact Below.refl _ _ | apply Below.drew | apply Below.al))).next hb
  have Pv3 : Hid (v3.heap[w5.heap.size]? = some (.cells #[.int .u16 24576, .int .u8 1] 32 (0, 0))) := blk11 hb (ext11 Pv2.out)
  have Gv3 : Hid (v3.heap[w5.heap.size + 1]? = some (.cells #[.int .u16 7, .int .u8 0, .int .i64 32] 34 (0, 0))) := blk11 hb (ext11 Gv2.out)
  have lpv3 := lt_of_heap Pv3.out
  have lgv3 := lt_of_heap Gv3.out
  have pc0v3 : v3.cell? ⟨w5.heap.size, 0, none⟩ = some (.int .u16 24576) := by rw [cell_of_row _ _ 0 _ _ _ Pv3.out]; rfl
  have pc1v3 : v3.cell? ⟨w5.heap.size, 1, none⟩ = some (.int .u8 1) := by rw [cell_of_row _ _ 1 _ _ _ Pv3.out]; rfl
  have gc0v3 : v3.cell? ⟨w5.heap.size + 1, 0, none⟩ = some (.int .u16 7) := by rw [cell_of_row _ _ 0 _ _ _ Gv3.out]; rfl
  have gc1v3 : v3.cell? ⟨w5.heap.size + 1, 1, none⟩ = some (.int .u8 0) := by rw [cell_of_row _ _ 1 _ _ _ Gv3.out]; rfl
  have gc2v3 : v3.cell? ⟨w5.heap.size + 1, 2, none⟩ = some (.int .i64 32) := by rw [cell_of_row _ _ 2 _ _ _ Gv3.out]; rfl
  clear hb Mv2 Tv2 Pv2 Gv2 lpv2 lgv2 pc0v2 pc1v2 gc0v2 gc1v2 gc2v2
  go_wp2_with fail
  refine (chk12 (Tv3.out.next (by repeat (first | exact Below.refl _ _ | apply Below.drew | apply Below.al))) false v3.heap.size 3 3 [⟨7, 0, 32⟩, ⟨7, 0, 32⟩, ⟨24576, 1, 8⟩] rfl (by decide) (ms_lit _ v3.heap.size rfl [⟨7, 0, 32⟩, ⟨7, 0, 32⟩, ⟨24576, 1, 8⟩] _ rfl) (by simp [al12]) 100925506 (by decide)).mono ?_
  rintro e v4 ⟨rfl, hb⟩
  have Bv4 : Hid (Below w.heap.size w v4) := Below.andThen (Below.al Bv3.out _) hb
  have Tv4 : Hid (T12 v4 p m 3 [5] [0] [1, 0]) := (Tv3.out.next (by repeat (first | exact Below.refl _ _ | apply Below.drew | apply Below.al))).next hb
  have Mv4 : Hid (MsAt v4 gm ms12) := (Mv3.out.next (by repeat (first | exact Below.refl _ _ | apply Below.drew | apply Below.al))).next hb
  have Pv4 : Hid (v4.heap[w5.heap.size]? = some (.cells #[.int .u16 24576, .int .u8 1] 32 (0, 0))) := blk11 hb (ext11 Pv3.out)
  have Gv4 : Hid (v4.heap[w5.heap.size + 1]? = some (.cells #[.int .u16 7, .int .u8 0, .int .i64 32] 34 (0, 0))) := blk11 hb (ext11 Gv3.out)
  have lpv4 := lt_of_heap Pv4.out
  have lgv4 := lt_of_heap Gv4.out
  have pc0v4 : v4.cell? ⟨w5.heap.size, 0, none⟩ = some (.int .u16 24576) := by rw [cell_of_row _ _ 0 _ _ _ Pv4.out]; rfl
  have pc1v4 : v4.cell? ⟨w5.heap.size, 1, none⟩ = some (.int .u8 1) := by rw [cell_of_row _ _ 1 _ _ _ Pv4.out]; rfl
  have gc0v4 : v4.cell? ⟨w5.heap.size + 1, 0, none⟩ = some (.int .u16 7) := by rw [cell_of_row _ _ 0 _ _ _ Gv4.out]; rfl
  have gc1v4 : v4.cell? ⟨w5.heap.size + 1, 1, none⟩ = some (.int .u8 0) := by rw [cell_of_row _ _ 1 _ _ _ Gv4.out]; rfl
  have gc2v4 : v4.cell? ⟨w5.heap.size + 1, 2, none⟩ = some (.int .i64 32) := by rw [cell_of_row _ _ 2 _ _ _ Gv4.out]; rfl
  clear hb Mv3 Tv3 Pv3 Gv3 lpv3 lgv3 pc0v3 pc1v3 gc0v3 gc1v3 gc2v3
  go_wp2_with fail
  refine (chkN12 v4.heap.size 1 1 [⟨7, 0, 32⟩] _ rfl (by decide) (ms_lit _ v4.heap.size rfl [⟨7, 0, 32⟩] _ rfl) (by simp) 0 (by decide)).mono ?_
  rintro e v5 ⟨rfl, hb⟩
  have Bv5 : Hid (Below w.heap.size w v5) := Below.andThen (Below.al Bv4.out _) hb
  have Tv5 : Hid (T12 v5 p m 3 [5] [0] [1, 0]) := (Tv4.out.next (by repeat (first | exact Below.refl _ _ | apply Below.drew | apply Below.al))).next hb
  have Mv5 : Hid (MsAt v5 gm ms12) := (Mv4.out.next (by repeat (first | exact Below.refl _ _ | apply Below.drew | apply Below.al))).next hb
  have Pv5 : Hid (v5.heap[w5.heap.size]? = some (.cells #[.int .u16 24576, .int .u8 1] 32 (0, 0))) := blk11 hb (ext11 Pv4.out)
  have Gv5 : Hid (v5.heap[w5.heap.size + 1]? = some (.cells #[.int .u16 7, .int .u8 0, .int .i64 32] 34 (0, 0))) := blk11 hb (ext11 Gv4.out)
  have lpv5 := lt_of_heap Pv5.out
  have lgv5 := lt_of_heap Gv5.out
  have pc0v5 : v5.cell? ⟨w5.heap.size, 0, none⟩ = some (.int .u16 24576) := by rw [cell_of_row _ _ 0 _ _ _ Pv5.out]; rfl
  have pc1v5 : v5.cell? ⟨w5.heap.size, 1, none⟩ = some (.int .u8 1) := by rw [cell_of_row _ _ 1 _ _ _ Pv5.out]; rfl
  have gc0v5 : v5.cell? ⟨w5.heap.size + 1, 0, none⟩ = some (.int .u16 7) := by rw [cell_of_row _ _ 0 _ _ _ Gv5.out]; rfl
  have gc1v5 : v5.cell? ⟨w5.heap.size + 1, 1, none⟩ = some (.int .u8 0) := by rw [cell_of_row _ _ 1 _ _ _ Gv5.out]; rfl
  have gc2v5 : v5.cell? ⟨w5.heap.size + 1, 2, none⟩ = some (.int .i64 32) := by rw [cell_of_row _ _ 2 _ _ _ Gv5.out]; rfl
  clear hb Mv4 Tv4 Pv4 Gv4 lpv4 lgv4 pc0v4 pc1v4 gc0v4 gc1v4 gc2v4
  go_wp2_with fail
  refine (chkN12 gm 3 3 ms12 _ rfl (by decide) (Mv5.out) (by simp [ms12]) 134217728 (by decide)).mono ?_
  rintro e v6 ⟨rfl, hb⟩
  have Bv6 : Hid (Below w.heap.size w v6) := Below.andThen Bv5.out hb
  have Tv6 : Hid (T12 v6 p m 3 [5] [0] [1, 0]) := (Tv5.out).next hb
  have Mv6 : Hid (MsAt v6 gm ms12) := (Mv5.out).next hb
  have Pv6 : Hid (v6.heap[w5.heap.size]? = some (.cells #[.int .u16 24576, .int .u8 1] 32 (0, 0))) := blk11 hb Pv5.out
  have Gv6 : Hid (v6.heap[w5.heap.size + 1]? = some (.cells #[.int .u16 7, .int .u8 0, .int .i64 32] 34 (0, 0))) := blk11 hb Gv5.out
  have lpv6 := lt_of_heap Pv6.out
  have lgv6 := lt_of_heap Gv6.out
  have pc0v6 : v6.cell? ⟨w5.heap.size, 0, none⟩ = some (.int .u16 24576) := by rw [cell_of_row _ _ 0 _ _ _ Pv6.out]; rfl
  have pc1v6 : v6.cell? ⟨w5.heap.size, 1, none⟩ = some (.int .u8 1) := by rw [cell_of_row _ _ 1 _ _ _ Pv6.out]; rfl
  have gc0v6 : v6.cell? ⟨w5.heap.size + 1, 0, none⟩ = some (.int .u16 7) := by rw [cell_of_row _ _ 0 _ _ _ Gv6.out]; rfl
  have gc1v6 : v6.cell? ⟨w5.heap.size + 1, 1, none⟩ = some (.int .u8 0) := by rw [cell_of_row _ _ 1 _ _ _ Gv6.out]; rfl
  have gc2v6 : v6.cell? ⟨w5.heap.size + 1, 2, none⟩ = some (.int .i64 32) := by rw [cell_of_row _ _ 2 _ _ _ Gv6.out]; rfl
  clear hb Mv5 Tv5 Pv5 Gv5 lpv5 lgv5 pc0v5 pc1v5 gc0v5 gc1v5 gc2v5
  go_wp2_with fail
  refine (chk12 (Tv6.out.next (by repeat (first | exact Below.refl _ _ | apply Below.drew | apply Below.al))) true v6.heap.size 1 1 [⟨24576, 9, 8⟩] rfl (by decide) (ms_lit _ v6.heap.size rfl [⟨24576, 9, 8⟩] _ rfl) (by simp [al12]) 101253137 (by decide)).mono ?_
  rintro e v7 ⟨rfl, hb⟩
  have Bv7 : Hid (Below w.heap.size w v7) := Below.andThen (Below.al Bv6.out _) hb
  have Tv7 : Hid (T12 v7 p m 3 [5] [0] [1, 0]) := (Tv6.out.next (by repeat (first | exact Below.refl _ _ | apply Below.drew | apply Below.al))).next hb
  have Mv7 : Hid (MsAt v7 gm ms12) := (Mv6.out.next (by repeat (first | exact Below.refl _ _ | apply Below.drew | apply Below.al))).next hb
  have Pv7 : Hid (v7.heap[w5.heap.size]? = some (.cells #[.int .u16 24576, .int .u8 1] 32 (0, 0))) := blk11 hb (ext11 Pv6.out)
  have Gv7 : Hid (v7.heap[w5.heap.size + 1]? = some (.cells #[.int .u16 7, .int .u8 0, .int .i64 32] 34 (0, 0))) := blk11 hb (ext11 Gv6.out)
  have lpv7 := lt_of_heap Pv7.out
  have lgv7 := lt_of_heap Gv7.out
  have pc0v7 : v7.cell? ⟨w5.heap.size, 0, none⟩ = some (.int .u16 24576) := by rw [cell_of_row _ _ 0 _ _ _ Pv7.out]; rfl
  have pc1v7 : v7.cell? ⟨w5.heap.size, 1, none⟩ = some (.int .u8 1) := by rw [cell_of_row _ _ 1 _ _ _ Pv7.out]; rfl
  have gc0v7 : v7.cell? ⟨w5.heap.size + 1, 0, none⟩ = some (.int .u16 7) := by rw [cell_of_row _ _ 0 _ _ _ Gv7.out]; rfl
  have gc1v7 : v7.cell? ⟨w5.heap.size + 1, 1, none⟩ = some (.int .u8 0) := by rw [cell_of_row _ _ 1 _ _ _ Gv7.out]; rfl
  have gc2v7 : v7.cell? ⟨w5.heap.size + 1, 2, none⟩ = some (.int .i64 32) := by rw [cell_of_row _ _ 2 _ _ _ Gv7.out]; rfl
  clear hb Mv6 Tv6 Pv6 Gv6 lpv6 lgv6 pc0v6 pc1v6 gc0v6 gc1v6 gc2v6
  go_wp2_with fail
  refine (chk12 (Tv7.out.next (by repeat (first | exact Below.refl _ _ | apply Below.drew | apply Below.al))) false v7.heap.size 1 1 [⟨1, 1, 8⟩] rfl (by decide) (ms_lit _ v7.heap.size rfl [⟨1, 1, 8⟩] _ rfl) (by simp [al12]) 100794368 (by decide)).mono ?_
  rintro e v8 ⟨rfl, hb⟩
  have Bv8 : Hid (Below w.heap.size w v8) := Below.andThen (Below.al Bv7.out _) hb
  have Tv8 : Hid (T12 v8 p m 3 [5] [0] [1, 0]) := (Tv7.out.next (by repeat (first | exact Below.refl _ _ | apply Below.drew | apply Below.al))).next hb
  have Mv8 : Hid (MsAt v8 gm ms12) := (Mv7.out.next (by repeat (first | exact Below.refl _ _ | apply Below.drew | apply Below.al))).next hb
  have Pv8 : Hid (v8.heap[w5.heap.size]? = some (.cells #[.int .u16 24576, .int .u8 1] 32 (0, 0))) := blk11 hb (ext11 Pv7.out)
  have Gv8 : Hid (v8.heap[w5.heap.size + 1]? = some (.cells #[.int .u16 7, .int .u8 0, .int .i64 32] 34 (0, 0))) := blk11 hb (ext11 Gv7.out)
  have lpv8 := lt_of_heap Pv8.out
  have lgv8 := lt_of_heap Gv8.out
  have pc0v8 : v8.cell? ⟨w5.heap.size, 0, none⟩ = some (.int .u16 24576) := by rw [cell_of_row _ _ 0 _ _ _ Pv8.out]; rfl
  have pc1v8 : v8.cell? ⟨w5.heap.size, 1, none⟩ = some (.int .u8 1) := by rw [cell_of_row _ _ 1 _ _ _ Pv8.out]; rfl
  have gc0v8 : v8.cell? ⟨w5.heap.size + 1, 0, none⟩ = some (.int .u16 7) := by rw [cell_of_row _ _ 0 _ _ _ Gv8.out]; rfl
  have gc1v8 : v8.cell? ⟨w5.heap.size + 1, 1, none⟩ = some (.int .u8 0) := by rw [cell_of_row _ _ 1 _ _ _ Gv8.out]; rfl
  have gc2v8 : v8.cell? ⟨w5.heap.size + 1, 2, none⟩ = some (.int .i64 32) := by rw [cell_of_row _ _ 2 _ _ _ Gv8.out]; rfl
  clear hb Mv7 Tv7 Pv7 Gv7 lpv7 lgv7 pc0v7 pc1v7 gc0v7 gc1v7 gc2v7
  go_wp2_with fail
  clear gc0v8 gc1v8 gc2v8 pc0v8 pc1v8
  go_loopw [9, 10, 11] (fun u9 u10 iv wr => ∃ k : Nat, k ≤ 65 ∧ iv = .int .i64 (k : Int) ∧ Hid (IsW wr v8.heap.size u9 (List.replicate (min k 9) ⟨24576, 1, 8⟩) ∧ IsW wr v8.heap.size u10 (List.replicate k ⟨24576, 2, 1⟩) ∧ (∀ g, u9.ownBlock = some g → u10.ownBlock ≠ some g) ∧ Below v8.heap.size v8 wr)) (fun _ _ iv _ => 65 - (intOf iv).toNat)
  case atStart => exact ⟨0, by decide, rfl, (show _ ∧ _ ∧ _ ∧ _ from ⟨isW_nil _ _, isW_nil _ _, fun g h => by simp [Value.ownBlock] at h, Below.refl _ _⟩)⟩
  case round =>
    obtain ⟨k, hk, rfl, HR⟩ := hrel
    have R1 : Hid (IsW wr v8.heap.size u9 (List.replicate (min k 9) ⟨24576, 1, 8⟩)) := HR.out.1
    have R2 : Hid (IsW wr v8.heap.size u10 (List.replicate k ⟨24576, 2, 1⟩)) := HR.out.2.1
    have R3 : Hid (∀ g, u9.ownBlock = some g → u10.ownBlock ≠ some g) := HR.out.2.2.1
    have R4 : Hid (Below v8.heap.size v8 wr) := HR.out.2.2.2
    clear HR
    by_cases hk65 : k < 65
    · have gk : (k : Int) < 65 := by omega
      have wk : IntKind.i64.wrap ((k : Int) + 1) = ((k + 1 : Nat) : Int) := by rw [IntKind.wrap_i64]; omega
      have PR : Hid (wr.heap[w5.heap.size]? = some (.cells #[.int .u16 24576, .int .u8 1] 32 (0, 0))) := blk11 R4.out Pv8.out
      have lpr := lt_of_heap PR.out
      have pr0 : wr.cell? ⟨w5.heap.size, 0, none⟩ = some (.int .u16 24576) := by rw [cell_of_row _ _ 0 _ _ _ PR.out]; rfl
      have pr1 : wr.cell? ⟨w5.heap.size, 1, none⟩ = some (.int .u8 1) := by rw [cell_of_row _ _ 1 _ _ _ PR.out]; rfl
      have s8 := R4.out.size
      by_cases hk9 : k < 9
      · have gk9 : (k : Int) < 9 := by omega
        have l9 : (List.replicate (min k 9) (⟨24576, 1, 8⟩ : Mq)).length ≤ 1000000 := by simp; omega
        go_wp2_with (first | (at_builtin; refine wpList_append_map rfl _ _ rfl v8.heap.size u9 _ rfl (R1.out.next (by repeat (first | exact Below.refl _ _ | apply Below.drew | apply Below.al))) ⟨wr.heap.size, 0, none⟩ ⟨24576, 1, 8⟩ rfl ?a1 l9 ?a2 (wr.heap.size + 1) (by simp) ?_) | go_in)
        case a1 =>
          intro j u hj
          rw [Addr.add_lit, Nat.zero_add]
          match j, hj with
          | 0, hj => rw [cell_of_row _ _ 0 _ _ _ (at11 _ _ _ rfl)]; simpa [Mq.L] using hj
          | 1, hj => rw [cell_of_row _ _ 1 _ _ _ (at11 _ _ _ rfl)]; simpa [Mq.L] using hj
          | 2, hj => rw [cell_of_row _ _ 2 _ _ _ (at11 _ _ _ rfl)]; simpa [Mq.L] using hj
        case a2 => simp; omega
        intro g1 cp1 z1 hw1 hg1 hl1 _
        have V9 : Hid (IsW z1 v8.heap.size (.slice (some ⟨g1, 0, none⟩) (min k 9 + 1) cp1) (List.replicate (min (k + 1) 9) ⟨24576, 1, 8⟩)) := by
          show IsW _ _ _ _
          rw [show min (k + 1) 9 = min k 9 + 1 from by omega, List.replicate_succ']
          simpa using hw1
        have V10 : Hid (IsW z1 v8.heap.size u10 (List.replicate k ⟨24576, 2, 1⟩)) := R2.out.same fun kk hkk => by
          rw [hg1.block kk (by have := (R2.out.lt kk hkk).2; simp; omega) (fun e => R3.out kk e.symm hkk), Below.heap_alloc _ _ _ (R2.out.lt kk hkk).2]
        have V3 : Hid (g1 < z1.heap.size ∧ u10.ownBlock ≠ some g1) := by
          refine ⟨by have := (hw1.lt g1 rfl).2; exact this, fun e => ?_⟩
          rcases hl1 with h | h
          · exact R3.out g1 h e
          · have := (R2.out.lt g1 e).2; omega
        have V4 : Hid (Below v8.heap.size v8 z1) := ⟨hg1.os.trans R4.out.os, hg1.tape.trans R4.out.tape, hg1.output.trans R4.out.output, by have := hg1.size; simp at this; omega, fun kk hkk => by
          rw [hg1.block kk (by simp; omega) (fun e => by have := (R1.out.lt kk e.symm).1; omega), Below.heap_alloc _ _ _ (by omega)]
          exact R4.out.block kk hkk⟩
        have Z1 : Hid (wr.heap.size + 1 ≤ z1.heap.size) := by show _ ≤ _; have := hg1.size; simpa using this
        clear hw1 hg1 hl1 pr0 pr1 lpr
        try simp only [List.length_replicate]
        obtain ⟨v9, hv9⟩ : ∃ v9, Hid (v9 = Value.slice (some ⟨g1, 0, none⟩) (min k 9 + 1) cp1) := ⟨_, rfl⟩
        rw [← hv9.out] at V9 ⊢
        have O9 : Hid (∀ g, v9.ownBlock = some g → g = g1) := fun g h => by rw [hv9.out] at h; cases h; rfl
        have NE9 : Hid (∀ kk, v9.ownBlock = some kk → u10.ownBlock ≠ some kk) := fun kk hkk => by rw [O9.out kk hkk]; exact V3.out.2
        have l10 : (List.replicate k (⟨24576, 2, 1⟩ : Mq)).length ≤ 1000000 := by simp; omega
        have s9 := V4.out.size
        go_wp2_with (first | (at_builtin; refine wpList_append_map rfl _ _ rfl v8.heap.size u10 _ rfl (V10.out.next (by repeat (first | exact Below.refl _ _ | apply Below.drew | apply Below.al))) ⟨z1.heap.size, 0, none⟩ ⟨24576, 2, 1⟩ rfl ?b1 l10 ?b2 (z1.heap.size + 1) (by simp) ?_) | go_in)
        case b1 =>
          intro j u hj
          rw [Addr.add_lit, Nat.zero_add]
          match j, hj with
          | 0, hj => rw [cell_of_row _ _ 0 _ _ _ (at11 _ _ _ rfl)]; simpa [Mq.L] using hj
          | 1, hj => rw [cell_of_row _ _ 1 _ _ _ (at11 _ _ _ rfl)]; simpa [Mq.L] using hj
          | 2, hj => rw [cell_of_row _ _ 2 _ _ _ (at11 _ _ _ rfl)]; simpa [Mq.L] using hj
        case b2 => first | omega | (simp; omega)
        intro g2 cp2 z2 hw2 hg2 hl2 _
        have X10 : Hid (IsW z2 v8.heap.size (.slice (some ⟨g2, 0, none⟩) (k + 1) cp2) (List.replicate (k + 1) ⟨24576, 2, 1⟩)) := by
          show IsW _ _ _ _
          rw [List.replicate_succ']
          simpa using hw2
        have X9 : Hid (IsW z2 v8.heap.size v9 (List.replicate (min (k + 1) 9) ⟨24576, 1, 8⟩)) := IsW.same V9.out fun kk hkk => by
          rw [hg2.block kk (by have := (V9.out.lt kk hkk).2; simp; omega) (fun e => NE9.out kk hkk e.symm), Below.heap_alloc _ _ _ (V9.out.lt kk hkk).2]
        have X3 : Hid (∀ g, (v9 : Value).ownBlock = some g → (Value.slice (some ⟨g2, 0, none⟩) (k + 1) cp2).ownBlock ≠ some g) := fun g h e => by
          cases e
          rcases hl2 with h2 | h2
          · exact NE9.out g2 h h2
          · have := (V9.out.lt g2 h).2; omega
        have X4 : Hid (Below v8.heap.size v8 z2) := ⟨hg2.os.trans V4.out.os, hg2.tape.trans V4.out.tape, hg2.output.trans V4.out.output, by have := hg2.size; simp at this; omega, fun kk hkk => by
          rw [hg2.block kk (by simp; omega) (fun e => by have := (V10.out.lt kk e.symm).1; omega), Below.heap_alloc _ _ _ (by omega)]
          exact V4.out.block kk hkk⟩
        clear hw2 hg2 hl2
        try simp only [List.length_replicate]
        go_wp2_with fail
        exact ⟨⟨k + 1, by omega, by go_num, (show _ ∧ _ ∧ _ ∧ _ from ⟨X9.out, X10.out, X3.out, X4.out⟩)⟩, by simp [intOf]; omega⟩
      · have gk9 : ¬ ((k : Int) < 9) := by omega
        have W9 : Hid (IsW wr v8.heap.size u9 (List.replicate (min (k + 1) 9) ⟨24576, 1, 8⟩)) := by rw [show min (k + 1) 9 = min k 9 from by omega]; exact R1.out
        clear pr0 pr1 lpr
        have l10 : (List.replicate k (⟨24576, 2, 1⟩ : Mq)).length ≤ 1000000 := by simp; omega
        have s9 := R4.out.size
        go_wp2_with (first | (at_builtin; refine wpList_append_map rfl _ _ rfl v8.heap.size u10 _ rfl (R2.out.next (by repeat (first | exact Below.refl _ _ | apply Below.drew | apply Below.al))) ⟨wr.heap.size, 0, none⟩ ⟨24576, 2, 1⟩ rfl ?b1 l10 ?b2 (wr.heap.size + 1) (by simp) ?_) | go_in)
        case b1 =>
          intro j u hj
          exact hj
        case b2 => first | omega | (simp; omega)
        intro g2 cp2 z2 hw2 hg2 hl2 _
        have X10 : Hid (IsW z2 v8.heap.size (.slice (some ⟨g2, 0, none⟩) (k + 1) cp2) (List.replicate (k + 1) ⟨24576, 2, 1⟩)) := by
          show IsW _ _ _ _
          rw [List.replicate_succ']
          simpa using hw2
        have X9 : Hid (IsW z2 v8.heap.size u9 (List.replicate (min (k + 1) 9) ⟨24576, 1, 8⟩)) := IsW.same W9.out fun kk hkk => by
          rw [hg2.block kk (by have := (W9.out.lt kk hkk).2; simp; omega) (fun e => R3.out kk hkk e.symm), Below.heap_alloc _ _ _ (W9.out.lt kk hkk).2]
        have X3 : Hid (∀ g, (u9 : Value).ownBlock = some g → (Value.slice (some ⟨g2, 0, none⟩) (k + 1) cp2).ownBlock ≠ some g) := fun g h e => by
          cases e
          rcases hl2 with h2 | h2
          · exact R3.out g2 h h2
          · have := (W9.out.lt g2 h).2; omega
        have X4 : Hid (Below v8.heap.size v8 z2) := ⟨hg2.os.trans R4.out.os, hg2.tape.trans R4.out.tape, hg2.output.trans R4.out.output, by have := hg2.size; simp at this; omega, fun kk hkk => by
          rw [hg2.block kk (by simp; omega) (fun e => by have := (R2.out.lt kk e.symm).1; omega), Below.heap_alloc _ _ _ (by omega)]
          exact R4.out.block kk hkk⟩
        clear hw2 hg2 hl2
        try simp only [List.length_replicate]
        go_wp2_with fail
        exact ⟨⟨k + 1, by omega, by go_num, (show _ ∧ _ ∧ _ ∧ _ from ⟨X9.out, X10.out, X3.out, X4.out⟩)⟩, by simp [intOf]; omega⟩
    · obtain rfl : k = 65 := by omega
      have g65 : ¬ (((65 : Nat) : Int) < 65) := by decide
      have B0 : Hid (Below w.heap.size w wr) := Below.andThen Bv8.out R4.out
      have T0 : Hid (T12 wr p m 3 [5] [0] [1, 0]) := Tv8.out.next R4.out
      obtain ⟨g9, c9, rfl, f9, M9⟩ : ∃ g c, u9 = .slice (some ⟨g, 0, none⟩) 9 c ∧ 9 ≤ c ∧ Hid (∀ k, MsAt wr g ((List.replicate 9 ⟨24576, 1, 8⟩).take k)) := by
        have R := R1.out
        rcases R.form with ⟨_, h⟩ | ⟨g, cap, cur, hv, _, _, hn, hm, _, _⟩
        · simp at h
        · refine ⟨g, cap, by simpa using hv, by simpa using hn, fun k => ?_⟩
          rw [hv] at R
          exact R.ms k
      obtain ⟨g10, c10, rfl, f10, M10⟩ : ∃ g c, u10 = .slice (some ⟨g, 0, none⟩) 65 c ∧ 65 ≤ c ∧ Hid (∀ k, MsAt wr g ((List.replicate 65 ⟨24576, 2, 1⟩).take k)) := by
        have R := R2.out
        rcases R.form with ⟨_, h⟩ | ⟨g, cap, cur, hv, _, _, hn, hm, _, _⟩
        · simp at h
        · refine ⟨g, cap, by simpa using hv, by simpa using hn, fun k => ?_⟩
          rw [hv] at R
          exact R.ms k
      have N9 : Hid (MsAt wr g9 (List.replicate 9 ⟨24576, 1, 8⟩)) := M9.out 9
      have N8 : Hid (MsAt wr g9 (List.replicate 8 ⟨24576, 1, 8⟩)) := M9.out 8
      have N64 : Hid (MsAt wr g10 (List.replicate 64 ⟨24576, 2, 1⟩)) := by
        have := M10.out 64
        rw [List.take_replicate] at this
        exact this
      clear R1 R2 R3 R4 M9 M10 Tv8 Mv8 Pv8 Gv8 lpv8 lgv8
      go_wp2_with fail
      refine (chk12 T0.out true g9 9 c9 (List.replicate 9 ⟨24576, 1, 8⟩) rfl (by decide) N9.out (by simp [al12]) 100925506 (by decide +kernel)).mono ?_
      rintro e y1 ⟨rfl, hb⟩
      have B1y : Hid (Below w.heap.size w y1) := Below.andThen B0.out hb
      have T1y : Hid (T12 y1 p m 3 [5] [0] [1, 0]) := T0.out.next hb
      have N1y : Hid (MsAt y1 g9 (List.replicate 8 ⟨24576, 1, 8⟩)) := N8.out.next hb
      have K1y : Hid (MsAt y1 g10 (List.replicate 64 ⟨24576, 2, 1⟩)) := N64.out.next hb
      clear hb T0 N9 N8 N64
      go_wp2_with fail
      refine (chk12 T1y.out true g9 8 c9 (List.replicate 8 ⟨24576, 1, 8⟩) rfl (by decide) N1y.out (by simp [al12]) 0 (by decide +kernel)).mono ?_
      rintro e y2 ⟨rfl, hb⟩
      have B2y : Hid (Below w.heap.size w y2) := Below.andThen B1y.out hb
      have T2y : Hid (T12 y2 p m 3 [5] [0] [1, 0]) := T1y.out.next hb
      have K2y : Hid (MsAt y2 g10 (List.replicate 64 ⟨24576, 2, 1⟩)) := K1y.out.next hb
      clear hb T1y N1y K1y
      go_wp2_with fail
      refine (check_many true _ _ 65 c10 y2 (by decide)).mono ?_
      rintro e y3 ⟨rfl, rfl⟩
      go_wp2_with fail
      refine (chk12 T2y.out true g10 64 c10 (List.replicate 64 ⟨24576, 2, 1⟩) (List.length_replicate ..) (by decide) K2y.out (by simp [al12]) 0 (by decide +kernel)).mono ?_
      rintro e y4 ⟨rfl, hb⟩
      have B4y : Hid (Below w.heap.size w y4) := Below.andThen B2y.out hb
      have T4y : Hid (T12 y4 p m 3 [5] [0] [1, 0]) := T2y.out.next hb
      have K4y : Hid (MsAt y4 g10 (List.replicate 64 ⟨24576, 2, 1⟩)) := K2y.out.next hb
      have PK : Calls Tryd.prog 9 #[.pointer (some ⟨p, 0, none⟩), .slice (some ⟨g10, 0, none⟩) 64 c10] y4 fun e w' => (∃ g, e = .returned (.tuple #[.slice (some ⟨g, 0, none⟩) 8 8, .int .u32 0])) ∧ Below y4.heap.size y4 w' := by
        obtain ⟨q1, q2, q3, h8⟩ := T4y.out
        have := pack_ok p m 3 _ g10 64 c10 (List.replicate 64 ⟨24576, 2, 1⟩) (val12 [5] [0] [1, 0]) y4 h8.h h8.mm (List.length_replicate ..) (by decide) K4y.out (fun x hx => mp12 h8 true x (by rw [List.eq_of_mem_replicate hx]; simp [ms12])) (fun x hx => va12 h8 x (by rw [List.eq_of_mem_replicate hx]; simp [ms12])) (by rw [s64]; decide)
        rw [s64, show (64 + 7) / 8 = 8 from rfl] at this
        exact this.mono fun e w' ⟨g, h1, _, _, h4⟩ => ⟨⟨g, h1⟩, h4⟩
      clear hb T2y K2y
      go_wp2_with fail
      refine PK.mono ?_
      rintro e y5 ⟨⟨g8, rfl⟩, hb⟩
      have B5y : Hid (Below w.heap.size w y5) := Below.andThen B4y.out hb
      clear hb PK T4y K4y
      go_wp2_with fail
      refine (pack_nil _ y5).mono ?_
      rintro e y6 ⟨⟨g0, rfl⟩, hb⟩
      have B6y : Hid (Below w.heap.size w y6) := Below.andThen B5y.out hb
      clear hb
      go_wp2_with fail
      refine (write_none _ y6).mono ?_
      rintro e y7 ⟨rfl, hb⟩
      have B7y : Hid (Below w.heap.size w y7) := Below.andThen B6y.out hb
      clear hb
      go_wp2_with fail
      refine (works12 y7 (tab_next HT.out B7y.out)).mono ?_
      rintro e y8 ⟨rfl, hb⟩
      have B8y : Hid (Below w.heap.size w y8) := Below.andThen B7y.out hb
      clear hb
      go_wp2_with fail
      go_ret
      exact ⟨rfl, B8y.out⟩
#print axioms mappingKnown_any
end Go.Proofs.YthhcilekbmbglaaDoor
