/-
  The document's New, Due, Reset, wait.
-/
import Derived.Test.YtnbdnmfnmnboiaaZk
import Derived.BigQuiet
import Derived.Deep.QuietTactic
import Derived.Test.YtnbdnmfnmnboiaaTk9
namespace Go.Proofs.Ytnbdnmfnmnboiaa
open Go.RowKit

theorem IsD.c1 {w : World} {q : Nat} {sv fv wv : Value} {S : ES} {t : Int} (h : IsD w q sv fv wv S t) : w.cell? ⟨q, 1, none⟩ = some (.int .i64 S.I) := h.cell 1 _ rfl
theorem IsD.c5 {w : World} {q : Nat} {sv fv wv : Value} {S : ES} {t : Int} (h : IsD w q sv fv wv S t) : w.cell? ⟨q, 5, none⟩ = some (.bool S.told) := h.cell 5 _ rfl
theorem IsD.c6 {w : World} {q : Nat} {sv fv wv : Value} {S : ES} {t : Int} (h : IsD w q sv fv wv S t) : w.cell? ⟨q, 6, none⟩ = some (.int .i64 t) := h.cell 6 _ rfl
theorem Own.apart {w : World} {e1 e2 : TypeId} {k1 k2 n1 n2 : Nat} {v1 v2 : Value} {x1 x2 : List Value} (h1 : Own w e1 k1 v1 n1 x1) (h2 : Own w e2 k2 v2 n2 x2) (hne : e1 ≠ e2) (g : Nat) (hg : v1.ownBlock = some g) : v2.ownBlock ≠ some g := by
  obtain ⟨c1, a1⟩ := h1.blk g hg
  exact h2.ne a1 hne
/-- What a call leaves, the document's. -/
def DPost (w w' : World) (q : Nat) (sv fv wv : Value) (S : ES) : Prop := ∃ sv' fv' wv' t, IsD w' q sv' fv' wv' S t ∧ (∀ g ∈ fpD q sv' fv' wv', g ∈ fpD q sv fv wv ∨ w.heap.size ≤ g) ∧ Kp (fpD q sv fv wv) w w'
theorem DPost.same {w w' : World} {q : Nat} {sv fv wv : Value} {S : ES} {t : Int} (h : IsD w q sv fv wv S t) (hb : Below w.heap.size w w') : DPost w w' q sv fv wv S := ⟨sv, fv, wv, t, h.next hb, fun _ h => .inl h, Kp.of hb⟩
set_option linter.unusedSimpArgs false in
set_option maxHeartbeats 4000000 in
set_option maxRecDepth 100000 in
theorem rnew_bad (a i : Int) (h : ndB a = false ∨ tmB i = false) (w : World) : Calls Try.prog 10 #[.int .u8 a, .int .i64 i] w fun e w' => e = .returned (.tuple #[.pointer none, .int .i64 2]) ∧ w' = w := by
  have T1 := fun W => time_any i W
  by_cases h0 : a < 1
  · clear h
    go_enter Try.func10, Try.ntmps10
    go_wp2_with fail
    exact bodyPost_ret (v := .tuple #[.pointer none, .int .i64 2]) (by simp [results, Try.results10, go_sem]) rfl ⟨rfl, rfl⟩
  · by_cases h1 : 127 < a
    · clear h
      go_enter Try.func10, Try.ntmps10
      go_wp2_with fail
      exact bodyPost_ret (v := .tuple #[.pointer none, .int .i64 2]) (by simp [results, Try.results10, go_sem]) rfl ⟨rfl, rfl⟩
    · have ht : tmB i = false := by
        rcases h with h | h
        · simp [ndB] at h; omega
        · exact h
      rw [ht] at T1
      clear h ht
      go_enter Try.func10, Try.ntmps10
      go_wp2_with fail
      refine (T1 _).mono ?_
      rintro e w1 ⟨rfl, rfl⟩
      go_wp2_with fail
      exact bodyPost_ret (v := .tuple #[.pointer none, .int .i64 2]) (by simp [results, Try.results10, go_sem]) rfl ⟨rfl, rfl⟩
set_option linter.unusedSimpArgs false in
set_option maxHeartbeats 4000000 in
set_option maxRecDepth 100000 in
theorem rnew_ok (a i : Int) (h : ndB a = true) (hi : tmB i = true) (w : World) : Calls Try.prog 10 #[.int .u8 a, .int .i64 i] w fun e w' => (∃ q, e = .returned (.tuple #[.pointer (some ⟨q, 0, none⟩), .int .i64 0]) ∧ IsD w' q (.slice none 0 0) (.slice none 0 0) (.slice none 0 0) (newS a i) 0 ∧ w.heap.size ≤ q) ∧ Below w.heap.size w w' := by
  have T1 := fun W => time_any i W
  have OK : Hid ((newS a i).Ok) := newS_ok a i h hi
  have h1 : 1 ≤ a ∧ a ≤ 127 := by simpa [ndB] using h
  have h2 : ¬ a < 1 := by omega
  have h3 : ¬ 127 < a := by omega
  rw [hi] at T1
  clear h hi h1
  go_enter Try.func10, Try.ntmps10
  go_wp2_with fail
  refine (T1 _).mono ?_
  rintro e w1 ⟨rfl, rfl⟩
  go_wp2_with fail
  refine bodyPost_ret (v := .tuple #[.pointer (some ⟨w1.heap.size, 0, none⟩), .int .i64 0]) (by simp [results, Try.results10, go_sem]) rfl ⟨⟨w1.heap.size, rfl, ⟨?_, own_nil _ _ _, ?_, own_nil _ _ _, OK.out, (fun q => by cases q), by decide, by decide⟩, Nat.le_refl _⟩, (by repeat (first | exact Below.refl _ _ | apply Below.drew | apply Below.al))⟩
  · exact at11 _ _ _ (by simp)
  · exact own_nil _ _ _
set_option linter.unusedSimpArgs false in
set_option maxHeartbeats 4000000 in
set_option maxRecDepth 100000 in
theorem rdue_no {w : World} {q : Nat} {sv fv wv : Value} {S : ES} {t : Int} (h : IsD w q sv fv wv S t) (h0 : S.ws = []) : Calls Try.prog 31 #[.pointer (some ⟨q, 0, none⟩)] w fun e w' => e = .returned (.tuple #[.int .i64 0, .bool false]) ∧ w' = w := by
  have k4 := h.cell 4 wv rfl
  obtain ⟨a, cap, rfl⟩ := h.ws.form
  rw [h0] at k4
  simp only [List.length_nil] at k4
  clear h h0
  go_enter Try.func31, Try.ntmps31
  go_wp2_with fail
  go_ret2
  exact ⟨rfl, rfl⟩
set_option linter.unusedSimpArgs false in
set_option maxHeartbeats 4000000 in
set_option maxRecDepth 100000 in
theorem rdue_yes {w : World} {q : Nat} {sv fv wv : Value} {S : ES} {t : Int} (h : IsD w q sv fv wv S t) (h0 : S.ws ≠ []) : Calls Try.prog 31 #[.pointer (some ⟨q, 0, none⟩)] w fun e w' => e = .returned (.tuple #[.int .i64 S.due, .bool true]) ∧ Below w.heap.size w w' := by
  have k4 := h.cell 4 wv rfl
  have k5 := h.c5
  have k6 := h.c6
  have k1 := h.c1
  have dt := h.dt
  have dn := h.ok.dn
  obtain ⟨a, cap, rfl⟩ := h.ws.form
  obtain ⟨N, hN⟩ : ∃ N, N = S.ws.length := ⟨_, rfl⟩
  rw [← hN] at k4
  have n0 : ¬ (N : Int) = 0 := by intro e; apply h0; apply List.eq_nil_of_length_eq_zero; omega
  have r1 : 0 ≤ t ∧ t ≤ 1099511627776 ∧ 0 ≤ S.I ∧ S.I ≤ 1099511627776 := ⟨h.a0, h.a1, h.ok.i0, h.ok.i1⟩
  obtain ⟨td, htd⟩ : ∃ td, td = S.told := ⟨_, rfl⟩
  obtain ⟨du, hdu⟩ : ∃ du, du = S.due := ⟨_, rfl⟩
  rw [← htd] at k5 dt dn
  rw [← hdu] at dt dn ⊢
  clear h h0 hN htd hdu
  cases td with
  | false =>
    obtain rfl := dn rfl
    clear dt dn
    go_enter Try.func31, Try.ntmps31
    go_wp2_with fail
    go_ret2
    exact ⟨rfl, (by repeat (first | exact Below.refl _ _ | apply Below.drew | apply Below.al))⟩
  | true =>
    have e := dt rfl
    have wI : IntKind.i64.wrap (t + S.I) = du := by rw [e]; exact w64 _ (by omega) (by omega)
    clear dt dn e r1
    go_enter Try.func31, Try.ntmps31
    go_wp2_with fail
    go_quiet (fail)
    go_wp2_with fail
    go_ret2
    exact ⟨rfl, below_drewN (Below.refl _ _) _⟩
/-- None stands, none waits. -/
def ES.reset (S : ES) : ES := { S with st := [], ws := [], told := false, due := 0 }
theorem reset_ok {S : ES} (h : S.Ok) : S.reset.Ok := ⟨h.a0, h.a1, h.i0, h.i1, by simp [ES.reset], by simp [ES.reset], h.h16, h.l16, by simp [ES.reset], by simp [ES.reset], by simp [ES.reset], by simp [ES.reset], fun _ => rfl⟩
set_option linter.unusedSimpArgs false in
set_option maxHeartbeats 4000000 in
set_option maxRecDepth 100000 in
theorem rreset_any {w : World} {q : Nat} {sv fv wv : Value} {S : ES} {t : Int} (h : IsD w q sv fv wv S t) : Calls Try.prog 29 #[.pointer (some ⟨q, 0, none⟩)] w fun e w' => e = .returned (.tuple #[]) ∧ DPost w w' q sv fv wv S.reset := by
  have k2 := h.cell 2 sv rfl
  have k4 := h.cell 4 wv rfl
  have k5 := h.c5
  have k6 := h.c6
  have z2 := h.fz 2
  have z4 := h.fz 4
  have z5 := h.fz 5
  have z6 := h.fz 6
  have HH : Hid (IsD w q sv fv wv S t) := h
  have lq := h.lt
  clear h
  go_enter Try.func29, Try.ntmps29
  go_wp2_with fail
  go_end0
  have e1 := heap_setCell_same _ _ 6 _ _ (.int .i64 0) (heap_setCell_same _ _ 5 _ _ (.bool false) (heap_setCell_same _ _ 4 _ _ (.slice none 0 0) (heap_setCell_same w q 2 _ _ (.slice none 0 0) HH.out.head)))
  have KK : Kp [q] w ((((w.setCell ⟨q, 2, none⟩ (.slice none 0 0)).setCell ⟨q, 4, none⟩ (.slice none 0 0)).setCell ⟨q, 5, none⟩ (.bool false)).setCell ⟨q, 6, none⟩ (.int .i64 0)) := ((((Kp.refl _ _).set _ _ (.inl (by simp))).set _ _ (.inl (by simp))).set _ _ (.inl (by simp))).set _ _ (.inl (by simp))
  refine ⟨rfl, .slice none 0 0, fv, .slice none 0 0, 0, ⟨e1, own_nil _ _ _, ?_, own_nil _ _ _, reset_ok HH.out.ok, (fun q => by cases q), by decide, by decide⟩, ?_, KK.more (by simp)⟩
  · exact HH.out.fs.kp KK (fun g hg => by have := HH.out.fs.ne HH.out.head (by decide); rw [hg] at this; simpa using this)
  · intro g hg
    left
    simp [Value.ownBlock] at hg ⊢
    rcases hg with hg | hg
    · exact .inl hg
    · exact .inr (.inr (.inl hg))
/-- One more waits. -/
theorem IsD.push {w w' : World} {q : Nat} {sv fv wv : Value} {S : ES} {t : Int} (h : IsD w q sv fv wv S t) (x : Wt) (hx : x.Ok) (hl : S.ws.length < 16) (hk : Kp wv.ownBlock.toList w w') {g o cap : Nat} (hO : OwnAt w' 40 11 g o (S.ws.length + 1) cap (flw S.A S.ws ++ x.L S.A)) :
    IsD (w'.setCell ⟨q, 4, none⟩ (.slice (some ⟨g, o, none⟩) (S.ws.length + 1) cap)) q sv fv (.slice (some ⟨g, o, none⟩) (S.ws.length + 1) cap) (S.tell x) t := by
  have hq : w'.heap[q]? = some (.cells #[.int .u8 S.A, .int .i64 S.I, sv, fv, wv, .bool S.told, .int .i64 t] 69 (0, 0)) := hk.at (by have := h.ws.ne h.head (by decide); simpa using this) h.head
  have hgq : g ≠ q := by
    rintro rfl
    obtain ⟨cur, c1, _⟩ := hO.cur
    have := c1.symm.trans hq
    simp at this
  have kk : Kp (q :: wv.ownBlock.toList) w (w'.setCell ⟨q, 4, none⟩ (.slice (some ⟨g, o, none⟩) (S.ws.length + 1) cap)) := (hk.more (by intro k hk; simp at hk ⊢; simp [hk])).set _ _ (.inl (by simp))
  refine ⟨?_, ?_, ?_, ?_, ?_, h.dt, h.a0, h.a1⟩
  · exact heap_setCell_same _ _ 4 _ _ _ hq
  · exact h.st.kp kk (fun b hb => by
      have h1 := h.st.ne h.head (by decide)
      have h2 := h.st.apart h.ws (by decide) b hb
      rw [hb] at h1
      simp at h1 ⊢
      exact ⟨h1, h2⟩)
  · exact h.fs.kp kk (fun b hb => by
      have h1 := h.fs.ne h.head (by decide)
      have h2 := h.fs.apart h.ws (by decide) b hb
      rw [hb] at h1
      simp at h1 ⊢
      exact ⟨h1, h2⟩)
  · have e : (S.tell x).ws.length = S.ws.length + 1 := by simp [ES.tell]
    show Own _ 40 11 _ (S.tell x).ws.length (flw S.A (S.ws ++ [x]))
    rw [e, flw_app, flw_one]
    exact Own.at_of (hO.same (Below.heap_setCell _ _ _ _ hgq))
  · obtain ⟨a0, a1, i0, i1, s16, bit, h16, l16, w16, wok, d0, d1, dn⟩ := h.ok
    exact ⟨a0, a1, i0, i1, s16, bit, h16, l16, by simp [ES.tell]; omega, fun y hy => by
      rcases List.mem_append.1 hy with hy | hy
      · exact wok y hy
      · rw [List.mem_singleton.1 hy]; exact hx, d0, d1, dn⟩
/-- What wait leaves, the document's. -/
def WdPost (w w' : World) (q : Nat) (sv fv wv : Value) (S : ES) (t : Int) (x : Wt) : Prop := ∃ wv', IsD w' q sv fv wv' (S.tell x) t ∧ (∀ g, wv'.ownBlock = some g → wv.ownBlock = some g ∨ w.heap.size ≤ g) ∧ Kp (q :: wv.ownBlock.toList) w w'
#print axioms IsD.push
theorem store8 (w : World) (B : Nat) (i n e0 e1 e2 e3 e4 e5 e6 e7 d0 d1 d2 d3 d4 d5 d6 d7 : Int) (r : Bool) (h : w.heap[B]? = some (.cells (frC i n e0 e1 e2 e3 e4 e5 e6 e7 r) 40 (0, 0))) : (storeVar 38 ⟨B, 2, none⟩ (arr8 d0 d1 d2 d3 d4 d5 d6 d7)).run Try.prog w = .ok () (w.setRow B (frC i n d0 d1 d2 d3 d4 d5 d6 d7 r)) :=
  store_part 38 8 (by kernel_rfl) w B 2 _ 40 h [.int .u8 d0, .int .u8 d1, .int .u8 d2, .int .u8 d3, .int .u8 d4, .int .u8 d5, .int .u8 d6, .int .u8 d7] rfl (by simp) (by simp [Value.oneCell'])
set_option linter.unusedSimpArgs false in
set_option maxHeartbeats 4000000 in
set_option maxRecDepth 100000 in
theorem rwait_any {w : World} {q : Nat} {sv fv wv : Value} {S : ES} {t : Int} (h : IsD w q sv fv wv S t) (hl : S.ws.length < 16) (c i0 i1 i2 i3 i4 : Int) (c0 : 0 ≤ c ∧ c < 65536) (ho : Oct [i0, i1, i2, i3, i4]) :
    Calls Try.prog 41 #[.pointer (some ⟨q, 0, none⟩), .int .u16 c, arr5 i0 i1 i2 i3 i4] w fun e w' => e = .returned (.tuple #[]) ∧ WdPost w w' q sv fv wv S t ⟨c, S.reg, i0, i1, i2, i3, i4⟩ := by
  obtain ⟨rg, hrg⟩ : ∃ rg : Int, Hid (rg = (S.reg : Int)) := ⟨_, rfl⟩
  rw [← hrg.out]
  have XO : Hid ((⟨c, rg, i0, i1, i2, i3, i4⟩ : Wt).Ok) := ⟨c0.1, c0.2, by rw [hrg.out]; exact Int.natCast_nonneg _, by show rg < 256; rw [hrg.out]; have := S.reg_lt h.ok; omega, ho⟩
  obtain ⟨x, hx⟩ : ∃ x : Wt, Hid (x = ⟨c, rg, i0, i1, i2, i3, i4⟩) := ⟨_, rfl⟩
  rw [← hx.out] at XO ⊢
  obtain ⟨d0, hd0⟩ : ∃ d, Hid (d = x.c % 256) := ⟨_, rfl⟩
  obtain ⟨d1, hd1⟩ : ∃ d, Hid (d = x.c / 256) := ⟨_, rfl⟩
  have XL : Hid (x.L S.A = (frC (128 + S.A) 8 d0 d1 rg i0 i1 i2 i3 i4 false).toList) := by show _ = _; unfold Wt.L; rw [hd0.out, hd1.out, hx.out]
  have RG : Hid (∀ W, Below w.heap.size w W → Calls Try.prog 32 #[.pointer (some ⟨q, 0, none⟩)] W fun e w' => e = .returned (.int .u8 rg) ∧ w' = W) := fun W hW => by rw [hrg.out]; exact rregister_any (h.next hW)
  have V1 : IntKind.u8.wrap c = d0 := by rw [hd0.out, hx.out, IntKind.wrap_u8]
  have V2 : IntKind.u8.wrap (c / 256) = d1 := by rw [hd1.out, hx.out, IntKind.wrap_u8]; show c / 256 % 256 = c / 256; omega
  have V2' : IntKind.u16.wrap (c / 256) = c / 256 := by rw [IntKind.wrap_u16]; omega
  have V3 : IntKind.u16.wrap S.A = S.A := by rw [IntKind.wrap_u16]; have := h.ok.a0; have := h.ok.a1; omega
  have V4 : IntKind.u16.wrap (128 + S.A) = 128 + S.A := by rw [IntKind.wrap_u16]; have := h.ok.a0; have := h.ok.a1; omega
  have HE : Hid (IsD w q sv fv wv S t) := h
  have HL : Hid (S.ws.length < 16) := hl
  have k0 : w.cell? ⟨q, 0, none⟩ = some (.int .u8 S.A) := h.cell 0 _ rfl
  have lq := h.lt
  clear h hl ho c0
  go_enter Try.func41, Try.ntmps41
  have bI := at11 w (row5 i0 i1 i2 i3 i4) w.heap.size rfl
  have bF := at11 (w.alloc (row5 i0 i1 i2 i3 i4)) (.cells (frC 0 0 0 0 0 0 0 0 0 0 false) 40) (w.heap.size + 1) (by simp)
  go_wp2_with (first | refine wpList_store_row rfl 40 _ _ rfl (w.heap.size + 1) (frC (128 + S.A) 8 0 0 0 0 0 0 0 0 false) rfl rfl 40 _ bF infoF rfl (frC_one _ _ _ _ _ _ _ _ _ _ _) ?_ | fail)
  have bF2 := setRow_heap _ _ _ (frC (128 + S.A) 8 0 0 0 0 0 0 0 0 false) _ _ bF
  have bI2 := sh11 (B := w.heap.size + 1) (C := frC (128 + S.A) 8 0 0 0 0 0 0 0 0 false) (by omega) (ext11 (o := (.cells (frC 0 0 0 0 0 0 0 0 0 0 false) 40)) bI)
  have K0 : Below w.heap.size w (((w.alloc (row5 i0 i1 i2 i3 i4)).alloc (.cells (frC 0 0 0 0 0 0 0 0 0 0 false) 40)).setRow (w.heap.size + 1) (frC (128 + S.A) 8 0 0 0 0 0 0 0 0 false)) := below_setRow (by repeat (first | exact Below.refl _ _ | apply Below.drew | apply Below.al)) (by omega) _
  generalize hy : (((w.alloc (row5 i0 i1 i2 i3 i4)).alloc (.cells (frC 0 0 0 0 0 0 0 0 0 0 false) 40)).setRow (w.heap.size + 1) (frC (128 + S.A) 8 0 0 0 0 0 0 0 0 false) : World) = y at bI2 bF2 K0 ⊢
  clear hy bI bF
  obtain ⟨BF, hBF⟩ : ∃ b, Hid (b = w.heap.size + 1) := ⟨_, rfl⟩
  have LF : Hid (w.heap.size + 1 ≤ BF) := by show _ ≤ _; rw [hBF.out]; exact Nat.le_refl _
  rw [← hBF.out] at bF2 ⊢
  clear hBF k0
  have kI0 : y.cell? ⟨w.heap.size, 0, none⟩ = some (.int .u8 i0) := by rw [cell_of_row y _ 0 _ _ _ bI2]; rfl
  have kI1 : y.cell? ⟨w.heap.size, 1, none⟩ = some (.int .u8 i1) := by rw [cell_of_row y _ 1 _ _ _ bI2]; rfl
  have kI2 : y.cell? ⟨w.heap.size, 2, none⟩ = some (.int .u8 i2) := by rw [cell_of_row y _ 2 _ _ _ bI2]; rfl
  have kI3 : y.cell? ⟨w.heap.size, 3, none⟩ = some (.int .u8 i3) := by rw [cell_of_row y _ 3 _ _ _ bI2]; rfl
  have kI4 : y.cell? ⟨w.heap.size, 4, none⟩ = some (.int .u8 i4) := by rw [cell_of_row y _ 4 _ _ _ bI2]; rfl
  clear bI2
  have HY : Hid (Below w.heap.size w y) := K0
  clear K0
  refine wp_region_held_drew (S := fun x1 => Kp [BF] y x1) (by kernel_rfl) (Kp.drew (Kp.refl _ _)) (fun hHeld => ?_)
  refine tk 0 (.int .u16 c) rfl (.inl ⟨by rfl, ?_⟩) ?_
  · intro w9 hSw
    try dsimp only at hSw
    go_simp
    all_goals try decide
    all_goals try assumption
    all_goals try omega
  try simp only [Act.put, gA, gS, gZ, sA, sZ, sS]
  refine tk 1 (.int .u8 d0) rfl (.inl ⟨by rfl, ?_⟩) ?_
  · intro w9 hSw
    try dsimp only at hSw
    go_simp
    all_goals try decide
    all_goals try assumption
    all_goals try omega
  try simp only [Act.put, gA, gS, gZ, sA, sZ, sS]
  refine tk 2 (.int .u16 c) rfl (.inl ⟨by rfl, ?_⟩) ?_
  · intro w9 hSw
    try dsimp only at hSw
    go_simp
    all_goals try decide
    all_goals try assumption
    all_goals try omega
  try simp only [Act.put, gA, gS, gZ, sA, sZ, sS]
  refine tk 3 (.int .u16 (c / 256)) rfl (.inl ⟨by rfl, ?_⟩) ?_
  · intro w9 hSw
    try dsimp only at hSw
    go_simp
    all_goals try decide
    all_goals try assumption
    all_goals try omega
  try simp only [Act.put, gA, gS, gZ, sA, sZ, sS]
  refine tk 4 (.int .u8 d1) rfl (.inl ⟨by rfl, ?_⟩) ?_
  · intro w9 hSw
    try dsimp only at hSw
    go_simp
    all_goals try decide
    all_goals try assumption
    all_goals try omega
  try simp only [Act.put, gA, gS, gZ, sA, sZ, sS]
  refine tk 5 (.pointer (some ⟨q, 0, none⟩)) rfl (.inl ⟨by rfl, ?_⟩) ?_
  · intro w9 hSw
    try dsimp only at hSw
    go_simp
    all_goals try decide
    all_goals try assumption
    all_goals try omega
  try simp only [Act.put, gA, gS, gZ, sA, sZ, sS]
  refine tk 7 (.pointer (some ⟨w.heap.size, 0, none⟩)) rfl (.inl ⟨by rfl, ?_⟩) ?_
  · intro w9 hSw
    try dsimp only at hSw
    go_simp
    all_goals try decide
    all_goals try assumption
    all_goals try omega
  try simp only [Act.put, gA, gS, gZ, sA, sZ, sS]
  refine tk 8 (.int .u8 i0) rfl (.inl ⟨by rfl, ?_⟩) ?_
  · intro w9 hSw
    try dsimp only at hSw
    have hc9 := Kp.cell hSw kI0 (by have := LF.out; simp; omega)
    go_simp
    all_goals try decide
    all_goals try assumption
    all_goals try omega
  try simp only [Act.put, gA, gS, gZ, sA, sZ, sS]
  refine tk 9 (.pointer (some ⟨w.heap.size, 1, none⟩)) rfl (.inl ⟨by rfl, ?_⟩) ?_
  · intro w9 hSw
    try dsimp only at hSw
    go_simp
    all_goals try decide
    all_goals try assumption
    all_goals try omega
  try simp only [Act.put, gA, gS, gZ, sA, sZ, sS]
  refine tk 10 (.int .u8 i1) rfl (.inl ⟨by rfl, ?_⟩) ?_
  · intro w9 hSw
    try dsimp only at hSw
    have hc9 := Kp.cell hSw kI1 (by have := LF.out; simp; omega)
    go_simp
    all_goals try decide
    all_goals try assumption
    all_goals try omega
  try simp only [Act.put, gA, gS, gZ, sA, sZ, sS]
  refine tk 11 (.pointer (some ⟨w.heap.size, 2, none⟩)) rfl (.inl ⟨by rfl, ?_⟩) ?_
  · intro w9 hSw
    try dsimp only at hSw
    go_simp
    all_goals try decide
    all_goals try assumption
    all_goals try omega
  try simp only [Act.put, gA, gS, gZ, sA, sZ, sS]
  refine tk 12 (.int .u8 i2) rfl (.inl ⟨by rfl, ?_⟩) ?_
  · intro w9 hSw
    try dsimp only at hSw
    have hc9 := Kp.cell hSw kI2 (by have := LF.out; simp; omega)
    go_simp
    all_goals try decide
    all_goals try assumption
    all_goals try omega
  try simp only [Act.put, gA, gS, gZ, sA, sZ, sS]
  refine tk 13 (.pointer (some ⟨w.heap.size, 3, none⟩)) rfl (.inl ⟨by rfl, ?_⟩) ?_
  · intro w9 hSw
    try dsimp only at hSw
    go_simp
    all_goals try decide
    all_goals try assumption
    all_goals try omega
  try simp only [Act.put, gA, gS, gZ, sA, sZ, sS]
  refine tk 14 (.int .u8 i3) rfl (.inl ⟨by rfl, ?_⟩) ?_
  · intro w9 hSw
    try dsimp only at hSw
    have hc9 := Kp.cell hSw kI3 (by have := LF.out; simp; omega)
    go_simp
    all_goals try decide
    all_goals try assumption
    all_goals try omega
  try simp only [Act.put, gA, gS, gZ, sA, sZ, sS]
  refine tk 15 (.pointer (some ⟨w.heap.size, 4, none⟩)) rfl (.inl ⟨by rfl, ?_⟩) ?_
  · intro w9 hSw
    try dsimp only at hSw
    go_simp
    all_goals try decide
    all_goals try assumption
    all_goals try omega
  try simp only [Act.put, gA, gS, gZ, sA, sZ, sS]
  refine tk 16 (.int .u8 i4) rfl (.inl ⟨by rfl, ?_⟩) ?_
  · intro w9 hSw
    try dsimp only at hSw
    have hc9 := Kp.cell hSw kI4 (by have := LF.out; simp; omega)
    go_simp
    all_goals try decide
    all_goals try assumption
    all_goals try omega
  try simp only [Act.put, gA, gS, gZ, sA, sZ, sS]
  refine wpAnyH_ready (rs := [6]) (by kernel_rfl) (by simp) ?_
  refine AllReadyH.cons rfl (fun K' hK => ?_) AllReadyH.nil
  rw [if_pos (by rfl)]
  simp only [gA, gS, gZ]
  have S0 := hHeld
  go_wp2_with fail
  refine (RG.out _ (Below.drew HY.out)).mono ?_
  rintro e wr ⟨rfl, rfl⟩
  try go_wp2_with fail
  refine hK.out _ _ (S0) (fun hHeld => ?_)
  clear hK K'
  try simp only [Act.put, gA, gS, gZ, sA, sZ, sS]
  refine tk 17 (arr8 d0 d1 rg i0 i1 i2 i3 i4) rfl (.inl ⟨by rfl, ?_⟩) ?_
  · intro w9 hSw
    try dsimp only at hSw
    go_simp
    all_goals try decide
    all_goals try assumption
    all_goals try omega
  try simp only [Act.put, gA, gS, gZ, sA, sZ, sS]
  refine tk 18 (.pointer (some ⟨BF, 2, none⟩)) rfl (.inl ⟨by rfl, ?_⟩) ?_
  · intro w9 hSw
    try dsimp only at hSw
    go_simp
    all_goals try decide
    all_goals try assumption
    all_goals try omega
  try simp only [Act.put, gA, gS, gZ, sA, sZ, sS]
  refine wpAnyH_ready (rs := [19]) (by kernel_rfl) (by simp) ?_
  refine AllReadyH.cons rfl (fun K' hK => ?_) AllReadyH.nil
  rw [if_pos (by rfl)]
  simp only [gA, gS, gZ]
  have S0 := hHeld
  refine wp_store_by 38 _ _ rfl ⟨BF, 2, none⟩ _ rfl rfl (store8 _ _ _ _ _ _ _ _ _ _ _ _ d0 d1 rg i0 i1 i2 i3 i4 _ bF2) ?_
  refine hK.out _ _ (S0.row _ _ (.inl (by simp))) (fun hHeld => ?_)
  clear hK K'
  try simp only [Act.put, gA, gS, gZ, sA, sZ, sS]
  refine wpAnyH_done (by kernel_rfl) ?_ _
  have fG : (y.drew.setRow BF (frC (128 + S.A) 8 d0 d1 rg i0 i1 i2 i3 i4 false)).heap[BF]? = some (.cells (frC (128 + S.A) 8 d0 d1 rg i0 i1 i2 i3 i4 false) 40 (0, 0)) := setRow_heap _ _ _ _ _ _ bF2
  have KZ : Hid (Below w.heap.size w (y.drew.setRow BF (frC (128 + S.A) 8 d0 d1 rg i0 i1 i2 i3 i4 false))) := below_setRow (Below.drew HY.out) (by have := LF.out; omega) _
  clear hHeld
  generalize hz : ((y.drew.setRow BF (frC (128 + S.A) 8 d0 d1 rg i0 i1 i2 i3 i4 false)) : World) = z at fG KZ ⊢
  have HZ : Hid (IsD z q sv fv wv S t) := HE.out.next KZ.out
  clear hz bF2 kI0 kI1 kI2 kI3 kI4 V1 V2 V2' V3 V4 RG
  go_wp2_with fail
  have z20 := HZ.out.cell 4 wv rfl
  have lz := HZ.out.lt
  obtain ⟨i9, hi9, hz9, hy9, hb9⟩ := info_parts infoFr
  refine wp_region_held_drew (S := fun x1 => Kp (q :: wv.ownBlock.toList) z x1) (by kernel_rfl) (Kp.drew (Kp.refl _ _)) (fun hHeld => ?_)
  refine tk 0 (.pointer (some ⟨q, 0, none⟩)) rfl (.inl ⟨by rfl, ?_⟩) ?_
  · intro w9 hSw
    try dsimp only at hSw
    go_simp
    all_goals try decide
    all_goals try assumption
    all_goals try omega
  try simp only [Act.put, gA, gS, gZ, sA, sZ, sS]
  refine tk 1 (.pointer (some ⟨q, 0, none⟩)) rfl (.inl ⟨by rfl, ?_⟩) ?_
  · intro w9 hSw
    try dsimp only at hSw
    go_simp
    all_goals try decide
    all_goals try assumption
    all_goals try omega
  try simp only [Act.put, gA, gS, gZ, sA, sZ, sS]
  refine tk 2 (.pointer (some ⟨q, 0, none⟩)) rfl (.inl ⟨by rfl, ?_⟩) ?_
  · intro w9 hSw
    try dsimp only at hSw
    go_simp
    all_goals try decide
    all_goals try assumption
    all_goals try omega
  try simp only [Act.put, gA, gS, gZ, sA, sZ, sS]
  refine tk 3 (.pointer (some ⟨q, 4, none⟩)) rfl (.inl ⟨by rfl, ?_⟩) ?_
  · intro w9 hSw
    try dsimp only at hSw
    go_simp
    all_goals try decide
    all_goals try assumption
    all_goals try omega
  try simp only [Act.put, gA, gS, gZ, sA, sZ, sS]
  refine tk 5 (frV (128 + S.A) 8 d0 d1 rg i0 i1 i2 i3 i4 false) rfl (.inl ⟨by rfl, ?_⟩) ?_
  · intro w9 hSw
    try dsimp only at hSw
    exact ex_load_by 40 (.tmp 6) rfl _ _ rfl (loadF _ _ _ _ _ _ _ _ _ _ _ _ _ (Kp.at hSw (by intro hm; have := HE.out.inh BF (by simp at hm ⊢; rcases hm with hm | hm <;> simp [hm]); have := LF.out; omega) fG))
  try simp only [Act.put, gA, gS, gZ, sA, sZ, sS]
  refine wpAnyH_ready (rs := [4, 6]) (by kernel_rfl) (by simp) ?_
  refine AllReadyH.cons rfl (fun K' hK => ?_) (AllReadyH.cons rfl (fun K' hK => ?_) AllReadyH.nil)
  · rw [if_pos (by rfl)]
    simp only [gA, gS, gZ]
    have S0 := hHeld
    go_wp2_with fail
    refine hK.out _ _ (S0) (fun hHeld => ?_)
    clear hK K'
    try simp only [Act.put, gA, gS, gZ, sA, sZ, sS]
    clear S0
    refine wpAnyH_ready (rs := [6]) (by kernel_rfl) (by simp) ?_
    refine AllReadyH.cons rfl (fun K' hK => ?_) AllReadyH.nil
    rw [if_pos (by rfl)]
    simp only [gA, gS, gZ]
    have S0 := hHeld
    go_wp2_with fail
    refine hK.out _ _ (Kp.al S0 _) (fun hHeld => ?_)
    clear hK K'
    try simp only [Act.put, gA, gS, gZ, sA, sZ, sS]
    refine wpAnyH_ready (rs := [7]) (by kernel_rfl) (by simp) ?_
    refine AllReadyH.cons rfl (fun K' hK => ?_) AllReadyH.nil
    rw [if_pos (by rfl)]
    simp only [gA, gS, gZ]
    have S0 := hHeld
    have fB : ((z.alloc (.cells (frC (128 + S.A) 8 d0 d1 rg i0 i1 i2 i3 i4 false) 40)).drew).heap[z.heap.size]? = some (.cells (frC (128 + S.A) 8 d0 d1 rg i0 i1 i2 i3 i4 false) 40 (0, 0)) := at11 _ _ _ rfl
    obtain ⟨g, o, cap, w2, rr, hO, hg, hk⟩ := Own.append (w := (z.alloc (.cells (frC (128 + S.A) 8 d0 d1 rg i0 i1 i2 i3 i4 false) 40)).drew) (ty := 64) Try.underlying64 hi9 hz9 hy9 hb9 rfl (by decide) ((HZ.out.ws).same (fun g hg => (Below.heap_alloc _ _ _ ((HZ.out.ws).lt g hg)))) ⟨z.heap.size, 0, none⟩ 1 1 (x.L S.A) rfl (fun j u hu => by rw [add_at, Nat.zero_add, cell_of_row _ _ j _ _ _ fB]; rw [XL.out] at hu; simpa using hu) (fun u hu => by rw [XL.out] at hu; exact (Array.all_eq_true_iff_forall_mem.1 (frC_one (128 + S.A) 8 d0 d1 rg i0 i1 i2 i3 i4 false)) u (by simpa using hu)) (by decide) (by have := HL.out; omega) (by decide)
    refine wp_app_by _ _ _ rfl _ _ rfl rfl _ rr ?_
    have k2 : Kp wv.ownBlock.toList z w2 := (Kp.drew (Kp.al (Kp.refl _ _) _)).trans hk
    have g2 : wv.ownBlock = some g ∨ z.heap.size ≤ g := hg.imp id (fun e => by rw [e]; simp)
    refine hK.out _ _ (k2.more (by intro k hk; simp at hk ⊢; simp [hk])) (fun hHeld => ?_)
    clear hK K'
    try simp only [Act.put, gA, gS, gZ, sA, sZ, sS]
    clear hg hk rr fB S0
    refine tk 8 (.pointer (some ⟨q, 0, none⟩)) rfl (.inl ⟨by rfl, ?_⟩) ?_
    · intro w9 hSw
      try dsimp only at hSw
      go_simp
      all_goals try decide
      all_goals try assumption
      all_goals try omega
    try simp only [Act.put, gA, gS, gZ, sA, sZ, sS]
    refine tk 9 (.pointer (some ⟨q, 4, none⟩)) rfl (.inl ⟨by rfl, ?_⟩) ?_
    · intro w9 hSw
      try dsimp only at hSw
      go_simp
      all_goals try decide
      all_goals try assumption
      all_goals try omega
    try simp only [Act.put, gA, gS, gZ, sA, sZ, sS]
    refine wpAnyH_ready (rs := [10]) (by kernel_rfl) (by simp) ?_
    refine AllReadyH.cons rfl (fun K' hK => ?_) AllReadyH.nil
    rw [if_pos (by rfl)]
    simp only [gA, gS, gZ]
    have S0 := hHeld
    have PU : Hid _ := HZ.out.push x XO.out HL.out k2 hO
    have c9 : w2.cell? ⟨q, 4, none⟩ = some wv := Kp.cell k2 z20 (by have := HZ.out.ws.ne HZ.out.head (by decide); simpa using this)
    have f9 : w2.frozen? ⟨q, 4, none⟩ = false := froz11 _ _ _ _ _ (k2.at (by have := HZ.out.ws.ne HZ.out.head (by decide); simpa using this) HZ.out.head)
    go_wp2_with fail
    refine hK.out _ _ (S0.set _ _ (.inl (by simp))) (fun hHeld => ?_)
    clear hK K'
    try simp only [Act.put, gA, gS, gZ, sA, sZ, sS]
    refine wpAnyH_done (by kernel_rfl) ?_ _
    have kx := hHeld
    clear hHeld
    go_wp2_with fail
    go_end0
    refine ⟨rfl, _, PU.out, ?_, ?_⟩
    · intro q hq
      cases hq
      exact g2.imp id (fun e => by show w.heap.size ≤ g; have := KZ.out.size; omega)
    · exact (Kp.of KZ.out).trans kx
  · rw [if_pos (by rfl)]
    simp only [gA, gS, gZ]
    have S0 := hHeld
    go_wp2_with fail
    refine hK.out _ _ (Kp.al S0 _) (fun hHeld => ?_)
    clear hK K'
    try simp only [Act.put, gA, gS, gZ, sA, sZ, sS]
    refine wpAnyH_ready (rs := [4]) (by kernel_rfl) (by simp) ?_
    refine AllReadyH.cons rfl (fun K' hK => ?_) AllReadyH.nil
    rw [if_pos (by rfl)]
    simp only [gA, gS, gZ]
    have S0 := hHeld
    go_wp2_with fail
    refine hK.out _ _ (S0) (fun hHeld => ?_)
    clear hK K'
    try simp only [Act.put, gA, gS, gZ, sA, sZ, sS]
    clear S0
    refine wpAnyH_ready (rs := [7]) (by kernel_rfl) (by simp) ?_
    refine AllReadyH.cons rfl (fun K' hK => ?_) AllReadyH.nil
    rw [if_pos (by rfl)]
    simp only [gA, gS, gZ]
    have S0 := hHeld
    have fB : ((z.alloc (.cells (frC (128 + S.A) 8 d0 d1 rg i0 i1 i2 i3 i4 false) 40)).drew).heap[z.heap.size]? = some (.cells (frC (128 + S.A) 8 d0 d1 rg i0 i1 i2 i3 i4 false) 40 (0, 0)) := at11 _ _ _ rfl
    obtain ⟨g, o, cap, w2, rr, hO, hg, hk⟩ := Own.append (w := (z.alloc (.cells (frC (128 + S.A) 8 d0 d1 rg i0 i1 i2 i3 i4 false) 40)).drew) (ty := 64) Try.underlying64 hi9 hz9 hy9 hb9 rfl (by decide) ((HZ.out.ws).same (fun g hg => (Below.heap_alloc _ _ _ ((HZ.out.ws).lt g hg)))) ⟨z.heap.size, 0, none⟩ 1 1 (x.L S.A) rfl (fun j u hu => by rw [add_at, Nat.zero_add, cell_of_row _ _ j _ _ _ fB]; rw [XL.out] at hu; simpa using hu) (fun u hu => by rw [XL.out] at hu; exact (Array.all_eq_true_iff_forall_mem.1 (frC_one (128 + S.A) 8 d0 d1 rg i0 i1 i2 i3 i4 false)) u (by simpa using hu)) (by decide) (by have := HL.out; omega) (by decide)
    refine wp_app_by _ _ _ rfl _ _ rfl rfl _ rr ?_
    have k2 : Kp wv.ownBlock.toList z w2 := (Kp.drew (Kp.al (Kp.refl _ _) _)).trans hk
    have g2 : wv.ownBlock = some g ∨ z.heap.size ≤ g := hg.imp id (fun e => by rw [e]; simp)
    refine hK.out _ _ (k2.more (by intro k hk; simp at hk ⊢; simp [hk])) (fun hHeld => ?_)
    clear hK K'
    try simp only [Act.put, gA, gS, gZ, sA, sZ, sS]
    clear hg hk rr fB S0
    refine tk 8 (.pointer (some ⟨q, 0, none⟩)) rfl (.inl ⟨by rfl, ?_⟩) ?_
    · intro w9 hSw
      try dsimp only at hSw
      go_simp
      all_goals try decide
      all_goals try assumption
      all_goals try omega
    try simp only [Act.put, gA, gS, gZ, sA, sZ, sS]
    refine tk 9 (.pointer (some ⟨q, 4, none⟩)) rfl (.inl ⟨by rfl, ?_⟩) ?_
    · intro w9 hSw
      try dsimp only at hSw
      go_simp
      all_goals try decide
      all_goals try assumption
      all_goals try omega
    try simp only [Act.put, gA, gS, gZ, sA, sZ, sS]
    refine wpAnyH_ready (rs := [10]) (by kernel_rfl) (by simp) ?_
    refine AllReadyH.cons rfl (fun K' hK => ?_) AllReadyH.nil
    rw [if_pos (by rfl)]
    simp only [gA, gS, gZ]
    have S0 := hHeld
    have PU : Hid _ := HZ.out.push x XO.out HL.out k2 hO
    have c9 : w2.cell? ⟨q, 4, none⟩ = some wv := Kp.cell k2 z20 (by have := HZ.out.ws.ne HZ.out.head (by decide); simpa using this)
    have f9 : w2.frozen? ⟨q, 4, none⟩ = false := froz11 _ _ _ _ _ (k2.at (by have := HZ.out.ws.ne HZ.out.head (by decide); simpa using this) HZ.out.head)
    go_wp2_with fail
    refine hK.out _ _ (S0.set _ _ (.inl (by simp))) (fun hHeld => ?_)
    clear hK K'
    try simp only [Act.put, gA, gS, gZ, sA, sZ, sS]
    refine wpAnyH_done (by kernel_rfl) ?_ _
    have kx := hHeld
    clear hHeld
    go_wp2_with fail
    go_end0
    refine ⟨rfl, _, PU.out, ?_, ?_⟩
    · intro q hq
      cases hq
      exact g2.imp id (fun e => by show w.heap.size ≤ g; have := KZ.out.size; omega)
    · exact (Kp.of KZ.out).trans kx
#print axioms rwait_any
end Go.Proofs.Ytnbdnmfnmnboiaa
