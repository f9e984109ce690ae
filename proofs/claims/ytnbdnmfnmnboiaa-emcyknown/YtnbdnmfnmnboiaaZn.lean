/-
  The document's Raise.
-/
import Derived.Test.YtnbdnmfnmnboiaaZm
import Derived.Test.YtnbdnmfnmnboiaaZi
namespace Go.Proofs.Ytnbdnmfnmnboiaa
open Go.RowKit

set_option linter.unusedSimpArgs false in
set_option maxHeartbeats 4000000 in
set_option maxRecDepth 100000 in
theorem rraise_zero (w : World) (q : Nat) (c : Int) (b : Nat) (i0 i1 i2 i3 i4 : Int) (hc : c = 0) : Calls Try.prog 30 #[.pointer (some ⟨q, 0, none⟩), .int .u16 c, .int .u8 (b : Int), arr5 i0 i1 i2 i3 i4] w fun e w' => e = .returned (.int .i64 2) ∧ Below w.heap.size w w' := by
  subst hc
  go_enter Try.func30, Try.ntmps30
  go_wp2_with fail
  go_ret
  exact ⟨rfl, (by repeat (first | exact Below.refl _ _ | apply Below.drew | apply Below.al))⟩
set_option linter.unusedSimpArgs false in
set_option maxHeartbeats 4000000 in
set_option maxRecDepth 100000 in
theorem rraise_bit (w : World) (q : Nat) (c : Int) (b : Nat) (i0 i1 i2 i3 i4 : Int) (hc : ¬ c = 0) (hb : 7 < b) : Calls Try.prog 30 #[.pointer (some ⟨q, 0, none⟩), .int .u16 c, .int .u8 (b : Int), arr5 i0 i1 i2 i3 i4] w fun e w' => e = .returned (.int .i64 2) ∧ Below w.heap.size w w' := by
  have hb' : (7 : Int) < (b : Int) := by omega
  clear hb
  go_enter Try.func30, Try.ntmps30
  go_wp2_with fail
  go_ret
  exact ⟨rfl, (by repeat (first | exact Below.refl _ _ | apply Below.drew | apply Below.al))⟩
set_option linter.unusedSimpArgs false in
set_option maxHeartbeats 4000000 in
set_option maxRecDepth 100000 in
theorem rraise_twice {w : World} {q : Nat} {sv fv wv : Value} {S : ES} {t : Int} (h : IsD w q sv fv wv S t) (c : Int) (b : Nat) (i0 i1 i2 i3 i4 : Int) (hc : ¬ c = 0) (hb : ¬ 7 < b) (ht : S.has c = true) : Calls Try.prog 30 #[.pointer (some ⟨q, 0, none⟩), .int .u16 c, .int .u8 (b : Int), arr5 i0 i1 i2 i3 i4] w fun e w' => e = .returned (.int .i64 6) ∧ Below w.heap.size w w' := by
  have ST := rstands_any (h.next (w' := w.alloc (row5 i0 i1 i2 i3 i4)) (by repeat (first | exact Below.refl _ _ | apply Below.drew | apply Below.al))) c
  have k2 : w.cell? ⟨q, 2, none⟩ = some sv := h.cell 2 sv rfl
  have k4 : w.cell? ⟨q, 4, none⟩ = some wv := h.cell 4 wv rfl
  have lq := h.lt
  have hb' : ¬ (7 : Int) < (b : Int) := by omega
  obtain ⟨a1, p1, rfl⟩ := h.st.form
  obtain ⟨a2, p2, rfl⟩ := h.ws.form
  rw [ht] at ST
  clear h hb ht k2 k4
  go_enter Try.func30, Try.ntmps30
  go_wp2_with fail
  refine ST.mono ?_
  rintro e w1 ⟨rfl, rfl⟩
  go_wp2_with fail
  go_ret
  exact ⟨rfl, (by repeat (first | exact Below.refl _ _ | apply Below.drew | apply Below.al))⟩
set_option linter.unusedSimpArgs false in
set_option maxHeartbeats 4000000 in
set_option maxRecDepth 100000 in
theorem rraise_many {w : World} {q : Nat} {sv fv wv : Value} {S : ES} {t : Int} (h : IsD w q sv fv wv S t) (c : Int) (b : Nat) (i0 i1 i2 i3 i4 : Int) (hc : ¬ c = 0) (hb : ¬ 7 < b) (ht : S.has c = false) (hl : 16 ≤ S.st.length) : Calls Try.prog 30 #[.pointer (some ⟨q, 0, none⟩), .int .u16 c, .int .u8 (b : Int), arr5 i0 i1 i2 i3 i4] w fun e w' => e = .returned (.int .i64 3) ∧ Below w.heap.size w w' := by
  have ST := rstands_any (h.next (w' := w.alloc (row5 i0 i1 i2 i3 i4)) (by repeat (first | exact Below.refl _ _ | apply Below.drew | apply Below.al))) c
  have k2 : w.cell? ⟨q, 2, none⟩ = some sv := h.cell 2 sv rfl
  have k4 : w.cell? ⟨q, 4, none⟩ = some wv := h.cell 4 wv rfl
  have lq := h.lt
  have hb' : ¬ (7 : Int) < (b : Int) := by omega
  obtain ⟨a1, p1, rfl⟩ := h.st.form
  obtain ⟨a2, p2, rfl⟩ := h.ws.form
  rw [ht] at ST
  have hl' : (16 : Int) ≤ (S.st.length : Int) := by omega
  clear h hb ht hl k4
  go_enter Try.func30, Try.ntmps30
  go_wp2_with fail
  refine ST.mono ?_
  rintro e w1 ⟨rfl, rfl⟩
  go_wp2_with fail
  go_ret
  exact ⟨rfl, (by repeat (first | exact Below.refl _ _ | apply Below.drew | apply Below.al))⟩
set_option linter.unusedSimpArgs false in
set_option maxHeartbeats 4000000 in
set_option maxRecDepth 100000 in
theorem rraise_full {w : World} {q : Nat} {sv fv wv : Value} {S : ES} {t : Int} (h : IsD w q sv fv wv S t) (c : Int) (b : Nat) (i0 i1 i2 i3 i4 : Int) (hc : ¬ c = 0) (hb : ¬ 7 < b) (ht : S.has c = false) (hl : ¬ 16 ≤ S.st.length) (hw : 16 ≤ S.ws.length) : Calls Try.prog 30 #[.pointer (some ⟨q, 0, none⟩), .int .u16 c, .int .u8 (b : Int), arr5 i0 i1 i2 i3 i4] w fun e w' => e = .returned (.int .i64 3) ∧ Below w.heap.size w w' := by
  have ST := rstands_any (h.next (w' := w.alloc (row5 i0 i1 i2 i3 i4)) (by repeat (first | exact Below.refl _ _ | apply Below.drew | apply Below.al))) c
  have k2 : w.cell? ⟨q, 2, none⟩ = some sv := h.cell 2 sv rfl
  have k4 : w.cell? ⟨q, 4, none⟩ = some wv := h.cell 4 wv rfl
  have lq := h.lt
  have hb' : ¬ (7 : Int) < (b : Int) := by omega
  obtain ⟨a1, p1, rfl⟩ := h.st.form
  obtain ⟨a2, p2, rfl⟩ := h.ws.form
  rw [ht] at ST
  have hl' : ¬ (16 : Int) ≤ (S.st.length : Int) := by omega
  have hw' : (16 : Int) ≤ (S.ws.length : Int) := by omega
  clear h hb ht hl hw
  go_enter Try.func30, Try.ntmps30
  go_wp2_with fail
  refine ST.mono ?_
  rintro e w1 ⟨rfl, rfl⟩
  go_wp2_with fail
  go_ret
  exact ⟨rfl, (by repeat (first | exact Below.refl _ _ | apply Below.drew | apply Below.al))⟩
set_option linter.unusedSimpArgs false in
set_option maxHeartbeats 4000000 in
set_option maxRecDepth 100000 in
theorem rraise_ok {w : World} {q : Nat} {sv fv wv : Value} {S : ES} {t : Int} (h : IsD w q sv fv wv S t) (c : Int) (b : Nat) (i0 i1 i2 i3 i4 : Int) (hc : ¬ c = 0) (hb : ¬ 7 < b) (ht : S.has c = false) (hl : ¬ 16 ≤ S.st.length) (hw : ¬ 16 ≤ S.ws.length) (c0 : 0 ≤ c ∧ c < 65536) (ho : Oct [i0, i1, i2, i3, i4]) : Calls Try.prog 30 #[.pointer (some ⟨q, 0, none⟩), .int .u16 c, .int .u8 (b : Int), arr5 i0 i1 i2 i3 i4] w fun e w' => e = .returned (.int .i64 0) ∧ DPost w w' q sv fv wv (S.raised c b i0 i1 i2 i3 i4) := by
  obtain ⟨FB1, FB2⟩ := fd_bits c0 (ho i0 (by simp)) (ho i1 (by simp))
  obtain ⟨F, hF⟩ : ∃ F, Hid (F = fdV c i0 i1) := ⟨_, rfl⟩
  rw [← hF.out] at FB2
  have oi0 := ho i0 (by simp)
  have oi1 := ho i1 (by simp)
  obtain ⟨A1, hA1⟩ : ∃ A1, A1 = i0 * 65536 := ⟨_, rfl⟩
  obtain ⟨A2, hA2⟩ : ∃ A2, A2 = i1 * 16777216 := ⟨_, rfl⟩
  rw [← hA1] at FB1 FB2
  rw [← hA2] at FB2
  obtain ⟨O1, hO1⟩ : ∃ O1, O1 = c + A1 := ⟨_, rfl⟩
  rw [← hO1] at FB1 FB2
  have W1 : IntKind.u32.wrap (i0 * 65536) = A1 := by rw [hA1, IntKind.wrap_u32']; omega
  have W2 : IntKind.u32.wrap (i1 * 16777216) = A2 := by rw [hA2, IntKind.wrap_u32']; omega
  have V0 : IntKind.u32.wrap c = c := by rw [IntKind.wrap_u32']; omega
  have V1 : IntKind.u32.wrap i0 = i0 := by rw [IntKind.wrap_u32']; omega
  have V2 : IntKind.u32.wrap i1 = i1 := by rw [IntKind.wrap_u32']; omega
  clear hA1 hA2 hO1 oi0 oi1
  have hb' : ¬ (7 : Int) < (b : Int) := by omega
  have hl' : ¬ (16 : Int) ≤ (S.st.length : Int) := by omega
  have hw' : ¬ (16 : Int) ≤ (S.ws.length : Int) := by omega
  obtain ⟨y, hy⟩ : ∃ y, y = w.alloc (row5 i0 i1 i2 i3 i4) := ⟨_, rfl⟩
  have K0 : Below w.heap.size w y := by rw [hy]; exact (by repeat (first | exact Below.refl _ _ | apply Below.drew | apply Below.al))
  have bI : y.heap[w.heap.size]? = some (row5 i0 i1 i2 i3 i4) := by rw [hy]; exact at11 _ _ _ rfl
  have hE := h.next K0
  have RS := rstands_any hE c
  rw [ht] at RS
  have lq0 := h.lt
  have k2w : w.cell? ⟨q, 2, none⟩ = some sv := h.cell 2 sv rfl
  have k2 : y.cell? ⟨q, 2, none⟩ = some sv := hE.cell 2 sv rfl
  have k4 : y.cell? ⟨q, 4, none⟩ = some wv := hE.cell 4 wv rfl
  have lqy := hE.lt
  obtain ⟨il, hil, hzl, hyl, hbl⟩ := info_parts infoTL
  obtain ⟨g1, o1, p1, w2, AP1, hO1, hg1, hk1⟩ := Own.append (w := y.alloc (.cells #[.int .u16 c, .int .u8 (b : Int)] 77)) (ty := 67) Try.underlying67 hil hzl hyl hbl rfl (by decide) (hE.st.next (by repeat (first | exact Below.refl _ _ | apply Below.drew | apply Below.al))) ⟨y.heap.size, 0, none⟩ 1 1 [.int .u16 c, .int .u8 (b : Int)] rfl (fun j u hu => by rw [add_at, Nat.zero_add, cell_of_row _ _ j _ _ _ (at11 y (.cells #[.int .u16 c, .int .u8 (b : Int)] 77) y.heap.size rfl)]; simpa using hu) (fun u hu => by simp at hu; rcases hu with rfl | rfl <;> rfl) (by decide) (by omega) (by decide)
  have kk1 : Kp sv.ownBlock.toList y w2 := (Kp.al (Kp.refl _ _) _).trans hk1
  have HG1 : Hid (sv.ownBlock = some g1 ∨ w.heap.size ≤ g1) := hg1.imp id (fun e => by have := K0.size; rw [e]; simp; omega)
  have E2 := hE.stand c b (by omega) (by omega) kk1 hO1
  have nq2 : Hid (sv.ownBlock ≠ some q) := hE.st.ne hE.head (by decide)
  have hq2 : w2.heap[q]? = some (.cells #[.int .u8 S.A, .int .i64 S.I, sv, fv, wv, .bool S.told, .int .i64 t] 69 (0, 0)) := kk1.at (by simpa using nq2.out) hE.head
  have q22 : w2.cell? ⟨q, 2, none⟩ = some sv := by rw [cell_of_row w2 q 2 _ _ _ hq2]; rfl
  have q23 : w2.cell? ⟨q, 3, none⟩ = some fv := by rw [cell_of_row w2 q 3 _ _ _ hq2]; rfl
  have z22 := froz11 w2 q 2 _ _ hq2
  have l2 := lt_of_heap hq2
  have nI : sv.ownBlock ≠ some w.heap.size := hE.st.ne bI (by decide)
  have bI2 : w2.heap[w.heap.size]? = some (row5 i0 i1 i2 i3 i4) := kk1.at (by simpa using nI) bI
  have kI0 : w2.cell? ⟨w.heap.size, 0, none⟩ = some (.int .u8 i0) := by rw [cell_of_row w2 _ 0 _ _ _ bI2]; rfl
  have kI1 : w2.cell? ⟨w.heap.size, 1, none⟩ = some (.int .u8 i1) := by rw [cell_of_row w2 _ 1 _ _ _ bI2]; rfl
  have nqI : ¬ w.heap.size = q := by omega
  have nqI' : ¬ q = w.heap.size := by omega
  obtain ⟨z, hz⟩ : ∃ z, z = w2.setCell ⟨q, 2, none⟩ (.slice (some ⟨g1, o1, none⟩) (S.st.length + 1) p1) := ⟨_, rfl⟩
  rw [← hz] at E2
  have hzs : z.heap.size = w2.heap.size := by rw [hz]; simp [World.setCell]
  have bI3 : z.heap[w.heap.size]? = some (row5 i0 i1 i2 i3 i4) := by rw [hz]; exact (Below.heap_setCell _ _ _ _ nqI).trans bI2
  obtain ⟨g4, o4, p4, w4, AP2, hO4, hg4, hk4⟩ := ahead_run E2.fs (by have := h.ok.l16; exact this) F 51
  have E2H : Hid (IsD z q (.slice (some ⟨g1, o1, none⟩) (S.st.length + 1) p1) fv wv (S.stand c b) t) := E2
  have hq4 : w4.heap[q]? = some (.cells #[.int .u8 S.A, .int .i64 S.I, .slice (some ⟨g1, o1, none⟩) (S.st.length + 1) p1, fv, wv, .bool S.told, .int .i64 t] 69 (0, 0)) := hk4.at (by simp) E2.head
  have q43 : w4.cell? ⟨q, 3, none⟩ = some fv := by rw [cell_of_row w4 q 3 _ _ _ hq4]; rfl
  have z43 := froz11 w4 q 3 _ _ hq4
  have l4 := lt_of_heap hq4
  have bI4 : w4.heap[w.heap.size]? = some (row5 i0 i1 i2 i3 i4) := hk4.at (by simp) bI3
  have lI4 := lt_of_heap bI4
  have m0 : w4.cell? ⟨w.heap.size, 0, none⟩ = some (.int .u8 i0) := by rw [cell_of_row w4 _ 0 _ _ _ bI4]; rfl
  have m1 : w4.cell? ⟨w.heap.size, 1, none⟩ = some (.int .u8 i1) := by rw [cell_of_row w4 _ 1 _ _ _ bI4]; rfl
  have m2 : w4.cell? ⟨w.heap.size, 2, none⟩ = some (.int .u8 i2) := by rw [cell_of_row w4 _ 2 _ _ _ bI4]; rfl
  have m3 : w4.cell? ⟨w.heap.size, 3, none⟩ = some (.int .u8 i3) := by rw [cell_of_row w4 _ 3 _ _ _ bI4]; rfl
  have m4 : w4.cell? ⟨w.heap.size, 4, none⟩ = some (.int .u8 i4) := by rw [cell_of_row w4 _ 4 _ _ _ bI4]; rfl
  have KW2 : Hid (Kp (fpD q sv fv wv) w w2) := (Kp.of K0).trans (kk1.more (by intro k hk; simp at hk ⊢; simp [hk]))
  have HO : Hid (Oct [i0, i1, i2, i3, i4]) := ho
  have C0 : Hid (0 ≤ c ∧ c < 65536) := c0
  have HW : Hid (S.ws.length < 16) := by show _ < _; omega
  have HS : Hid (S.hs.length = 16 ∧ S.ln ≤ 16) := ⟨h.ok.h16, h.ok.l16⟩
  have HK4 : Hid (Kp [] z w4) := hk4
  have HZ : Hid (z = w2.setCell ⟨q, 2, none⟩ (.slice (some ⟨g1, o1, none⟩) (S.st.length + 1) p1)) := hz
  have HG4 : Hid (w.heap.size ≤ g4) := by have := KW2.out.size; show _ ≤ _; omega
  have HLI : Hid (w.heap.size < w2.heap.size) := lt_of_heap bI2
  rw [hzs, hz] at AP2
  obtain ⟨M, hM⟩ : ∃ M, Hid (M = 1 + S.ln) := ⟨_, rfl⟩
  have AP3 : (Builtin.append_ #[51, 51] 51 #[.slice (some ⟨w2.heap.size, 0, none⟩) 1 1, fv]).run Try.prog ((w2.setCell ⟨q, 2, none⟩ (.slice (some ⟨g1, o1, none⟩) (S.st.length + 1) p1)).alloc (.cells #[.int .u32 F] 52)) = .ok (.slice (some ⟨g4, o4, none⟩) M p4) w4 := by rw [hM.out]; exact AP2
  have hO5 : Hid (OwnAt w4 52 1 g4 o4 M p4 ((F :: S.hs.take S.ln).map (Value.int .u32))) := by rw [hM.out]; exact hO4
  have SLC : 16 < M → ∀ W, (Instr.sliceAt 51 (.slice (some ⟨g4, o4, none⟩) M p4) none (some (.int .i64 16)) none).run Try.prog W = .ok (.slice (some ⟨g4, o4, none⟩) 16 p4) W := fun hm W => by
    have := hO5.out.nc
    rw [run_sliceAt_slice W _ _ _ _ _ elemS4, run_slice_h W _ _ _ _ elemS4 .i64 16 (by decide) (by omega), elemS4', sizeT4]
    simp [Result.andThen, sliced, add_at]
  obtain ⟨a2, p2, hw2⟩ : ∃ a cap, wv = .slice a S.ws.length cap := hE.ws.form
  obtain ⟨a1, p0, hs2⟩ : ∃ a cap, sv = .slice a S.st.length cap := hE.st.form
  have K40 : y.cell? ⟨q, 4, none⟩ = some (.slice a2 S.ws.length p2) := by rw [← hw2]; exact k4
  have K20 : y.cell? ⟨q, 2, none⟩ = some (.slice a1 S.st.length p0) := by rw [← hs2]; exact k2
  rw [hs2] at AP1 q22
  have HSV : Hid (sv = .slice a1 S.st.length p0) := hs2
  clear h hE hb ht hl hw c0 ho hO1 hg1 hk1 kk1 E2 hq2 nI bI2 bI3 hk4 hq4 bI4 AP2 hO4 hz hzs hg4 k2 k4 k2w K0 bI hw2 hs2 hil hzl hyl hbl
  have KZ4 : Hid (Kp [] (w2.setCell ⟨q, 2, none⟩ (.slice (some ⟨g1, o1, none⟩) (S.st.length + 1) p1)) w4) := by show Kp _ _ _; rw [← HZ.out]; exact HK4.out
  clear lI4
  by_cases hm : 16 < M
  · have SL := SLC hm
    have im : (16 : Int) < (M : Int) := by omega
    have HM : Hid (16 < M) := hm
    clear SLC hm
    have hO6 : Hid (OwnAt w4 52 1 g4 o4 (min ((S.stand c b).ln + 1) 16) p4 (((F :: (S.stand c b).hs.take (S.stand c b).ln).take 16).map (Value.int .u32))) := by
        have hf := hO5.out.few 16 (by have := HM.out; omega)
        have em : min ((S.stand c b).ln + 1) 16 = 16 := by have h1 := hM.out; have h2 := HM.out; show min (S.ln + 1) 16 = 16; omega
        show OwnAt _ _ _ _ _ _ _ _
        rw [em, List.map_take]
        exact hf
    have E3 := E2H.out.note F HK4.out hO6.out
    have en : min ((S.stand c b).ln + 1) 16 = 16 := by have := hM.out; show min (S.ln + 1) 16 = _; have := HS.out.2; omega
    rw [en] at E3
    have WT := rwait_any E3 HW.out c i0 i1 i2 i3 i4 C0.out HO.out
    have E3H : Hid _ := E3
    clear E3 en
    go_enter Try.func30, Try.ntmps30
    go_wp2_with fail
    rw [← hy]
    clear hy
    refine RS.mono ?_
    rintro e w8 ⟨rfl, rfl⟩
    clear RS
    go_wp2_with (first | (at_builtin; first | refine wpList_app_by rfl _ _ _ rfl _ _ rfl rfl _ AP1 ?_ | refine wpList_app_by rfl _ _ _ rfl _ _ rfl rfl _ AP3 ?_) | fail)
    refine WT.mono ?_
    rintro e w5 ⟨rfl, wv', e5, g5, k5⟩
    have KF : Kp (fpD q sv fv wv) w w5 := (((KW2.out.set ⟨q, 2, none⟩ _ (.inl (by simp))).trans (KZ4.out.more (by simp))).set ⟨q, 3, none⟩ _ (.inl (by simp))).trans (k5.more (by intro k hk; simp at hk ⊢; rcases hk with hk | hk <;> simp [hk]))
    have FIN : Hid (DPost w w5 q sv fv wv (S.raised c b i0 i1 i2 i3 i4)) := ⟨_, _, wv', t, by have e6 := e5; rw [hF.out] at e6; exact e6, (by
          intro g hg
          simp only [List.mem_cons, List.mem_append, Option.mem_toList, Value.ownBlock, Option.some.injEq, Option.map_some] at hg
          rcases hg with rfl | (hg | hg) | hg
          · left; simp
          · subst hg
            rcases HG1.out with hh | hh
            · left; simp [hh]
            · right; exact hh
          · subst hg; right; exact HG4.out
          · rcases g5 g hg with hh | hh
            · left; simp [hh]
            · right
              have h1 := KW2.out.size
              have h2 := KZ4.out.size
              simp [World.setCell] at hh h2
              omega), KF⟩
    clear e5 g5 k5 KF WT
    go_wp2_with fail
    go_ret
    exact ⟨rfl, FIN.out⟩
  · have im : ¬ (16 : Int) < (M : Int) := by omega
    have HM : Hid (¬ 16 < M) := hm
    clear SLC hm
    have hO6 : Hid (OwnAt w4 52 1 g4 o4 (min ((S.stand c b).ln + 1) 16) p4 (((F :: (S.stand c b).hs.take (S.stand c b).ln).take 16).map (Value.int .u32))) := by
        have em : min ((S.stand c b).ln + 1) 16 = M := by have h1 := hM.out; have h2 := HM.out; show min (S.ln + 1) 16 = M; omega
        show OwnAt _ _ _ _ _ _ _ _
        rw [em, List.take_of_length_le (by have h1 := hM.out; have h2 := HM.out; show (F :: S.hs.take S.ln).length ≤ 16; simp; omega)]
        exact hO5.out
    have E3 := E2H.out.note F HK4.out hO6.out
    have en : min ((S.stand c b).ln + 1) 16 = M := by have := hM.out; show min (S.ln + 1) 16 = _; have := HS.out.2; omega
    rw [en] at E3
    have WT := rwait_any E3 HW.out c i0 i1 i2 i3 i4 C0.out HO.out
    have E3H : Hid _ := E3
    clear E3 en
    go_enter Try.func30, Try.ntmps30
    go_wp2_with fail
    rw [← hy]
    clear hy
    refine RS.mono ?_
    rintro e w8 ⟨rfl, rfl⟩
    clear RS
    go_wp2_with (first | (at_builtin; first | refine wpList_app_by rfl _ _ _ rfl _ _ rfl rfl _ AP1 ?_ | refine wpList_app_by rfl _ _ _ rfl _ _ rfl rfl _ AP3 ?_) | fail)
    refine WT.mono ?_
    rintro e w5 ⟨rfl, wv', e5, g5, k5⟩
    have KF : Kp (fpD q sv fv wv) w w5 := (((KW2.out.set ⟨q, 2, none⟩ _ (.inl (by simp))).trans (KZ4.out.more (by simp))).set ⟨q, 3, none⟩ _ (.inl (by simp))).trans (k5.more (by intro k hk; simp at hk ⊢; rcases hk with hk | hk <;> simp [hk]))
    have FIN : Hid (DPost w w5 q sv fv wv (S.raised c b i0 i1 i2 i3 i4)) := ⟨_, _, wv', t, by have e6 := e5; rw [hF.out] at e6; exact e6, (by
          intro g hg
          simp only [List.mem_cons, List.mem_append, Option.mem_toList, Value.ownBlock, Option.some.injEq, Option.map_some] at hg
          rcases hg with rfl | (hg | hg) | hg
          · left; simp
          · subst hg
            rcases HG1.out with hh | hh
            · left; simp [hh]
            · right; exact hh
          · subst hg; right; exact HG4.out
          · rcases g5 g hg with hh | hh
            · left; simp [hh]
            · right
              have h1 := KW2.out.size
              have h2 := KZ4.out.size
              simp [World.setCell] at hh h2
              omega), KF⟩
    clear e5 g5 k5 KF WT
    go_wp2_with fail
    go_ret
    exact ⟨rfl, FIN.out⟩
#print axioms rraise_ok
end Go.Proofs.Ytnbdnmfnmnboiaa
