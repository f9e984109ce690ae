/-
  ShortSegments returns true.
-/
import Derived.Test.YtchelanikhoogaaZa
import Derived.Test.YtchelanikhoogaaZb
namespace Go.Proofs.Ytchelanikhoogaa
open Go.RowKit

theorem and128 (z : Int) (h : 0 ≤ z ∧ z < 256) : bits .andNot .u8 z 128 = z % 128 := by
  rw [u8_andNot z 128 h.1 h.2 (by decide) (by decide)]
  have : z.toNat &&& (255 - (128 : Int).toNat) = z.toNat % 128 := Nat.and_two_pow_sub_one_eq_mod z.toNat 7
  rw [this]; omega
theorem bt128 (z : Int) (h : 0 ≤ z ∧ z < 256) : bt z 128 = decide (128 ≤ z) := by
  obtain ⟨n, rfl⟩ := Int.eq_ofNat_of_zero_le h.1
  have hn : n < 256 := by omega
  unfold bt
  rw [u8_and (n : Int) 128 (by omega) (by omega) (by decide) (by decide)]
  have : ∀ m : Nat, m < 256 → (((m &&& 128 : Nat) : Int) != 0) = decide (128 ≤ m) := by decide +kernel
  have e := this n hn
  simp only [Int.toNat_natCast] at *
  rw [show ((128 : Int).toNat) = 128 from rfl, e]
  simp only [decide_eq_decide]
  omega
theorem segP_ok (seq : Int) (last : Bool) (zs : List Int) (ho : Oct zs) (x : B8) (h : segP seq last zs = some x) : x.Ok := by
  unfold segP at h
  split at h
  · rename_i hk
    simp only [Option.some.injEq] at h
    subst h
    simp only [segOk, Bool.and_eq_true, decide_eq_true_eq] at hk
    refine ⟨?_, ho.getD 0, ho.getD 1, ho.getD 2, ho.getD 3, ho.getD 4, ho.getD 5, ho.getD 6⟩
    cases last <;> simp [bitn] <;> omega
  · cases h
theorem same_self (a0 a1 a2 a3 a4 a5 a6 a7 : Int) : same8 a0 a1 a2 a3 a4 a5 a6 a7 a0 a1 a2 a3 a4 a5 a6 a7 = true := by simp [same8]
#print axioms bt128
#print axioms and128

set_option linter.unusedSimpArgs false in
set_option maxHeartbeats 4000000 in
set_option maxRecDepth 100000 in
theorem shortSegments_any (seq : Int) (last : Bool) (a : Option Addr) (len cap : Nat) (zs : List Int) (y : B8) (ok : y.Ok) (w : World) (hr : Row w a len zs) :
    Calls Try.prog 6 #[.int .i64 seq, .bool last, .slice a len cap, arr8 y.b0 y.b1 y.b2 y.b3 y.b4 y.b5 y.b6 y.b7] w fun e w' => e = .returned (.bool true) ∧ Below w.heap.size w w' := by
  obtain ⟨b0, b1, b2, b3, b4, b5, b6, b7⟩ := y
  obtain ⟨okb0, okb1, okb2, okb3, okb4, okb5, okb6, okb7⟩ := ok
  dsimp only at *
  by_cases hl : 100 < (len : Int)
  · clear hr
    go_enter Try.func6, Try.ntmps6
    go_wp2_with fail
    go_ret
    exact ⟨rfl, (by repeat (first | exact Below.refl _ _ | apply Below.drew | apply Below.al))⟩
  have hl' : len ≤ 100 := by omega
  have S1 : Hid (∀ W, Below w.heap.size w W → Calls Try.prog 19 #[.int .i64 seq, .bool last, .slice a len cap] W (BPost W (segP seq last zs))) := fun W hb => segment_any seq last a len cap zs W (hr.next hb)
  have S2 : Hid (∀ W, Below w.heap.size w W → Calls Try.prog 20 #[.int .i64 seq, .bool last, .slice a len cap] W (BPost W (segP seq last zs))) := fun W hb => refSegment_any seq last a len cap zs hl' W (hr.next hb)
  obtain ⟨O, hO⟩ : ∃ O, segP seq last zs = O := ⟨_, rfl⟩
  have hok : ∀ x, O = some x → x.Ok := fun x hx => segP_ok seq last zs hr.oct x (hO.trans hx)
  rw [hO] at S1 S2
  clear hr hO
  have hn8 := neq8
  obtain ⟨x0, x1, x2, x3, x4, x5, x6, x7, ec, HP, ⟨okx0, okx1, okx2, okx3, okx4, okx5, okx6, okx7⟩⟩ : ∃ x0 x1 x2 x3 x4 x5 x6 x7 ec, Hid (∀ W r w', BPost W O r w' → r = .returned (.tuple #[arr8 x0 x1 x2 x3 x4 x5 x6 x7, .int .i64 ec]) ∧ Below W.heap.size W w') ∧ (⟨x0, x1, x2, x3, x4, x5, x6, x7⟩ : B8).Ok := by
    cases O with
    | none => exact ⟨0, 0, 0, 0, 0, 0, 0, 0, 2, fun W r w' h => h, by constructor <;> decide⟩
    | some x => exact ⟨x.b0, x.b1, x.b2, x.b3, x.b4, x.b5, x.b6, x.b7, 0, fun W r w' h => h, hok x rfl⟩
  dsimp only at okx0 okx1 okx2 okx3 okx4 okx5 okx6 okx7
  have hss := same_self x0 x1 x2 x3 x4 x5 x6 x7
  clear hok
  go_enter Try.func6, Try.ntmps6
  go_wp2_with fail
  with_reducible refine (S1.out _ (by repeat (first | exact Below.refl _ _ | apply Below.drew | apply Below.al))).mono ?_
  intro r w1 h1
  obtain ⟨rfl, hb1⟩ := HP.out _ _ _ h1
  have B1 : Hid (Below w.heap.size w w1) := Below.andThen (by repeat (first | exact Below.refl _ _ | apply Below.drew | apply Below.al)) hb1
  have HX1 : Hid (w1.heap[w.heap.size]? = some (.cells (ar8 b0 b1 b2 b3 b4 b5 b6 b7) 31 (0, 0))) := (hb1.block _ (by simp)).trans (heap_new _ _)
  clear hb1 h1
  go_wp2_with fail
  with_reducible refine (S2.out _ (Below.al B1.out _)).mono ?_
  intro r w2 h2
  obtain ⟨rfl, hb2⟩ := HP.out _ _ _ h2
  have B2 : Hid (Below w.heap.size w w2) := Below.andThen (Below.al B1.out _) hb2
  have hx2 : w2.heap[w.heap.size]? = some (.cells (ar8 b0 b1 b2 b3 b4 b5 b6 b7) 31 (0, 0)) := (hb2.block _ (by simp; have := (Array.getElem?_eq_some_iff.1 HX1.out).1; omega)).trans ((Below.heap_alloc _ _ _ (Array.getElem?_eq_some_iff.1 HX1.out).1).trans HX1.out)
  have hy2 : w2.heap[w1.heap.size]? = some (.cells (ar8 x0 x1 x2 x3 x4 x5 x6 x7) 31 (0, 0)) := (hb2.block _ (by simp)).trans (heap_new _ _)
  have p0 : w2.cell? ⟨w.heap.size, 0, none⟩ = some (.int .u8 b0) := by rw [cell_of_row w2 _ 0 _ _ _ hx2]; rfl
  have q0 : w2.cell? ⟨w1.heap.size, 0, none⟩ = some (.int .u8 x0) := by rw [cell_of_row w2 _ 0 _ _ _ hy2]; rfl
  have p1 : w2.cell? ⟨w.heap.size, 1, none⟩ = some (.int .u8 b1) := by rw [cell_of_row w2 _ 1 _ _ _ hx2]; rfl
  have q1 : w2.cell? ⟨w1.heap.size, 1, none⟩ = some (.int .u8 x1) := by rw [cell_of_row w2 _ 1 _ _ _ hy2]; rfl
  have p2 : w2.cell? ⟨w.heap.size, 2, none⟩ = some (.int .u8 b2) := by rw [cell_of_row w2 _ 2 _ _ _ hx2]; rfl
  have q2 : w2.cell? ⟨w1.heap.size, 2, none⟩ = some (.int .u8 x2) := by rw [cell_of_row w2 _ 2 _ _ _ hy2]; rfl
  have p3 : w2.cell? ⟨w.heap.size, 3, none⟩ = some (.int .u8 b3) := by rw [cell_of_row w2 _ 3 _ _ _ hx2]; rfl
  have q3 : w2.cell? ⟨w1.heap.size, 3, none⟩ = some (.int .u8 x3) := by rw [cell_of_row w2 _ 3 _ _ _ hy2]; rfl
  have p4 : w2.cell? ⟨w.heap.size, 4, none⟩ = some (.int .u8 b4) := by rw [cell_of_row w2 _ 4 _ _ _ hx2]; rfl
  have q4 : w2.cell? ⟨w1.heap.size, 4, none⟩ = some (.int .u8 x4) := by rw [cell_of_row w2 _ 4 _ _ _ hy2]; rfl
  have p5 : w2.cell? ⟨w.heap.size, 5, none⟩ = some (.int .u8 b5) := by rw [cell_of_row w2 _ 5 _ _ _ hx2]; rfl
  have q5 : w2.cell? ⟨w1.heap.size, 5, none⟩ = some (.int .u8 x5) := by rw [cell_of_row w2 _ 5 _ _ _ hy2]; rfl
  have p6 : w2.cell? ⟨w.heap.size, 6, none⟩ = some (.int .u8 b6) := by rw [cell_of_row w2 _ 6 _ _ _ hx2]; rfl
  have q6 : w2.cell? ⟨w1.heap.size, 6, none⟩ = some (.int .u8 x6) := by rw [cell_of_row w2 _ 6 _ _ _ hy2]; rfl
  have p7 : w2.cell? ⟨w.heap.size, 7, none⟩ = some (.int .u8 b7) := by rw [cell_of_row w2 _ 7 _ _ _ hx2]; rfl
  have q7 : w2.cell? ⟨w1.heap.size, 7, none⟩ = some (.int .u8 x7) := by rw [cell_of_row w2 _ 7 _ _ _ hy2]; rfl
  have sx2 : w.heap.size < w2.heap.size := (Array.getElem?_eq_some_iff.1 hx2).1
  have sy2 : w1.heap.size < w2.heap.size := (Array.getElem?_eq_some_iff.1 hy2).1
  clear hb2 h2 hx2 hy2 S1 S2 HP
  go_wp2_with fail
  go_loopw [49] (fun iv wr => (iv = .int .i64 0 ∨ iv = .int .i64 1 ∨ iv = .int .i64 2) ∧ Hid (Below w.heap.size w wr) ∧ Hid (wr.heap[w2.heap.size + 1]? = some (.cells #[.int .u8 x0, .int .u8 x1, .int .u8 x2, .int .u8 x3, .int .u8 x4, .int .u8 x5, .int .u8 x6, .int .u8 x7, .int .u8 b0, .int .u8 b1, .int .u8 b2, .int .u8 b3, .int .u8 b4, .int .u8 b5, .int .u8 b6, .int .u8 b7] 31 (0, 0)))) (fun iv _ => 2 - (intOf iv).toNat)
  case atStart => exact ⟨.inl rfl, Below.al (Below.al B2.out _) _, heap_at _ _ _ (by simp)⟩
  case round =>
    obtain ⟨hi, hB, hG⟩ := hrel
    clear p0 p1 p2 p3 p4 p5 p6 p7 q0 q1 q2 q3 q4 q5 q6 q7
    rcases hi with rfl | rfl | rfl
    · have g0 : wr.cell? ⟨w2.heap.size + 1, 0, none⟩ = some (.int .u8 x0) := by rw [cell_of_row wr _ 0 _ _ _ hG.out]; rfl
      have g1 : wr.cell? ⟨w2.heap.size + 1, 1, none⟩ = some (.int .u8 x1) := by rw [cell_of_row wr _ 1 _ _ _ hG.out]; rfl
      have g2 : wr.cell? ⟨w2.heap.size + 1, 2, none⟩ = some (.int .u8 x2) := by rw [cell_of_row wr _ 2 _ _ _ hG.out]; rfl
      have g3 : wr.cell? ⟨w2.heap.size + 1, 3, none⟩ = some (.int .u8 x3) := by rw [cell_of_row wr _ 3 _ _ _ hG.out]; rfl
      have g4 : wr.cell? ⟨w2.heap.size + 1, 4, none⟩ = some (.int .u8 x4) := by rw [cell_of_row wr _ 4 _ _ _ hG.out]; rfl
      have g5 : wr.cell? ⟨w2.heap.size + 1, 5, none⟩ = some (.int .u8 x5) := by rw [cell_of_row wr _ 5 _ _ _ hG.out]; rfl
      have g6 : wr.cell? ⟨w2.heap.size + 1, 6, none⟩ = some (.int .u8 x6) := by rw [cell_of_row wr _ 6 _ _ _ hG.out]; rfl
      have g7 : wr.cell? ⟨w2.heap.size + 1, 7, none⟩ = some (.int .u8 x7) := by rw [cell_of_row wr _ 7 _ _ _ hG.out]; rfl
      have szG : w2.heap.size + 1 < wr.heap.size := (Array.getElem?_eq_some_iff.1 hG.out).1
      have SG : Hid (∀ W, Calls Try.prog 21 #[arr8 x0 x1 x2 x3 x4 x5 x6 x7] W (SPost W ⟨x0, x1, x2, x3, x4, x5, x6, x7⟩)) := fun W => segmented_any x0 x1 x2 x3 x4 x5 x6 x7 okx1 okx2 okx3 okx4 okx5 okx6 okx7 W
      have hE : Hid (bits .andNot .u8 x0 128 = x0 % 128) := and128 x0 okx0
      have hQ : Hid (bt x0 128 = decide (128 ≤ x0)) := bt128 x0 okx0
      have zl := okx0.1
      have zh := okx0.2
      have htm : Int.tmod x0 128 = x0 % 128 := Int.tmod_eq_emod_of_nonneg zl
      have e64 : IntKind.i64.wrap x0 = x0 := by simp [IntKind.wrap, IntKind.bits, IntKind.signed]; omega
      go_wp2_with fail
      with_reducible refine (SG.out _).mono ?_
      rintro r w4 ⟨a4, cap4, hr4, hb4⟩
      dsimp only at hr4
      rw [hE.out, hQ.out] at hr4
      have B4 : Hid (Below w.heap.size w w4) := Below.andThen (Below.al hB.out _) hb4
      have G4 : Hid (w4.heap[w2.heap.size + 1]? = some (.cells #[.int .u8 x0, .int .u8 x1, .int .u8 x2, .int .u8 x3, .int .u8 x4, .int .u8 x5, .int .u8 x6, .int .u8 x7, .int .u8 b0, .int .u8 b1, .int .u8 b2, .int .u8 b3, .int .u8 b4, .int .u8 b5, .int .u8 b6, .int .u8 b7] 31 (0, 0))) := (hb4.block _ (by simp; omega)).trans ((Below.heap_alloc _ _ _ szG).trans hG.out)
      have hz4 : w4.heap[wr.heap.size]? = some (.cells (ar8 x0 x1 x2 x3 x4 x5 x6 x7) 31 (0, 0)) := (hb4.block _ (by simp)).trans (heap_new _ _)
      have zc0 : w4.cell? ⟨wr.heap.size, 0, none⟩ = some (.int .u8 x0) := by rw [cell_of_row w4 _ 0 _ _ _ hz4]; rfl
      have hrz : Hid (Row w4 (some ⟨wr.heap.size, 1, none⟩) 7 [x1, x2, x3, x4, x5, x6, x7]) := row_1 w4 wr.heap.size 0 x0 x1 x2 x3 x4 x5 x6 x7 _ okx1 okx2 okx3 okx4 okx5 okx6 okx7 hz4
      clear hb4 hz4 SG hE hQ
      by_cases hm : x0 % 128 = 0
      · rw [if_pos hm] at hr4
        subst hr4
        clear hrz
        go_wp2_with fail
        exact ⟨⟨by simp, B4, G4⟩, by decide⟩
      · rw [if_neg hm] at hr4
        obtain ⟨rfl, ht4⟩ := hr4
        have hmb : (x0 % 128 == 0) = false := by simpa using hm
        have SB : Hid (Calls Try.prog 13 #[.slice a4 7 cap4, .slice (some ⟨wr.heap.size, 1, none⟩) 7 7] w4 fun e w' => e = .returned (.bool true) ∧ w' = w4) := (same_bytes _ _ _ _ _ _ _ _ w4 ht4.row hrz.out).mono (fun e w' h => ⟨h.1.trans (by rw [beq_self_eq_true]), h.2⟩)
        have hsl := fun W => sl_7 wr.heap.size W
        clear ht4 hrz
        by_cases hq : 128 ≤ x0
        · rw [decide_eq_true hq]
          go_wp2_with fail
          with_reducible refine SB.out.mono ?_
          rintro r w5 ⟨rfl, rfl⟩
          go_wp2_with fail
          exact ⟨⟨by simp, B4, G4⟩, by decide⟩
        · rw [decide_eq_false hq]
          go_wp2_with fail
          with_reducible refine SB.out.mono ?_
          rintro r w5 ⟨rfl, rfl⟩
          go_wp2_with fail
          exact ⟨⟨by simp, B4, G4⟩, by decide⟩
    · have g0 : wr.cell? ⟨w2.heap.size + 1, 8, none⟩ = some (.int .u8 b0) := by rw [cell_of_row wr _ 8 _ _ _ hG.out]; rfl
      have g1 : wr.cell? ⟨w2.heap.size + 1, 9, none⟩ = some (.int .u8 b1) := by rw [cell_of_row wr _ 9 _ _ _ hG.out]; rfl
      have g2 : wr.cell? ⟨w2.heap.size + 1, 10, none⟩ = some (.int .u8 b2) := by rw [cell_of_row wr _ 10 _ _ _ hG.out]; rfl
      have g3 : wr.cell? ⟨w2.heap.size + 1, 11, none⟩ = some (.int .u8 b3) := by rw [cell_of_row wr _ 11 _ _ _ hG.out]; rfl
      have g4 : wr.cell? ⟨w2.heap.size + 1, 12, none⟩ = some (.int .u8 b4) := by rw [cell_of_row wr _ 12 _ _ _ hG.out]; rfl
      have g5 : wr.cell? ⟨w2.heap.size + 1, 13, none⟩ = some (.int .u8 b5) := by rw [cell_of_row wr _ 13 _ _ _ hG.out]; rfl
      have g6 : wr.cell? ⟨w2.heap.size + 1, 14, none⟩ = some (.int .u8 b6) := by rw [cell_of_row wr _ 14 _ _ _ hG.out]; rfl
      have g7 : wr.cell? ⟨w2.heap.size + 1, 15, none⟩ = some (.int .u8 b7) := by rw [cell_of_row wr _ 15 _ _ _ hG.out]; rfl
      have szG : w2.heap.size + 1 < wr.heap.size := (Array.getElem?_eq_some_iff.1 hG.out).1
      have SG : Hid (∀ W, Calls Try.prog 21 #[arr8 b0 b1 b2 b3 b4 b5 b6 b7] W (SPost W ⟨b0, b1, b2, b3, b4, b5, b6, b7⟩)) := fun W => segmented_any b0 b1 b2 b3 b4 b5 b6 b7 okb1 okb2 okb3 okb4 okb5 okb6 okb7 W
      have hE : Hid (bits .andNot .u8 b0 128 = b0 % 128) := and128 b0 okb0
      have hQ : Hid (bt b0 128 = decide (128 ≤ b0)) := bt128 b0 okb0
      have zl := okb0.1
      have zh := okb0.2
      have htm : Int.tmod b0 128 = b0 % 128 := Int.tmod_eq_emod_of_nonneg zl
      have e64 : IntKind.i64.wrap b0 = b0 := by simp [IntKind.wrap, IntKind.bits, IntKind.signed]; omega
      go_wp2_with fail
      with_reducible refine (SG.out _).mono ?_
      rintro r w4 ⟨a4, cap4, hr4, hb4⟩
      dsimp only at hr4
      rw [hE.out, hQ.out] at hr4
      have B4 : Hid (Below w.heap.size w w4) := Below.andThen (Below.al hB.out _) hb4
      have G4 : Hid (w4.heap[w2.heap.size + 1]? = some (.cells #[.int .u8 x0, .int .u8 x1, .int .u8 x2, .int .u8 x3, .int .u8 x4, .int .u8 x5, .int .u8 x6, .int .u8 x7, .int .u8 b0, .int .u8 b1, .int .u8 b2, .int .u8 b3, .int .u8 b4, .int .u8 b5, .int .u8 b6, .int .u8 b7] 31 (0, 0))) := (hb4.block _ (by simp; omega)).trans ((Below.heap_alloc _ _ _ szG).trans hG.out)
      have hz4 : w4.heap[wr.heap.size]? = some (.cells (ar8 b0 b1 b2 b3 b4 b5 b6 b7) 31 (0, 0)) := (hb4.block _ (by simp)).trans (heap_new _ _)
      have zc0 : w4.cell? ⟨wr.heap.size, 0, none⟩ = some (.int .u8 b0) := by rw [cell_of_row w4 _ 0 _ _ _ hz4]; rfl
      have hrz : Hid (Row w4 (some ⟨wr.heap.size, 1, none⟩) 7 [b1, b2, b3, b4, b5, b6, b7]) := row_1 w4 wr.heap.size 0 b0 b1 b2 b3 b4 b5 b6 b7 _ okb1 okb2 okb3 okb4 okb5 okb6 okb7 hz4
      clear hb4 hz4 SG hE hQ
      by_cases hm : b0 % 128 = 0
      · rw [if_pos hm] at hr4
        subst hr4
        clear hrz
        go_wp2_with fail
        exact ⟨⟨by simp, B4, G4⟩, by decide⟩
      · rw [if_neg hm] at hr4
        obtain ⟨rfl, ht4⟩ := hr4
        have hmb : (b0 % 128 == 0) = false := by simpa using hm
        have SB : Hid (Calls Try.prog 13 #[.slice a4 7 cap4, .slice (some ⟨wr.heap.size, 1, none⟩) 7 7] w4 fun e w' => e = .returned (.bool true) ∧ w' = w4) := (same_bytes _ _ _ _ _ _ _ _ w4 ht4.row hrz.out).mono (fun e w' h => ⟨h.1.trans (by rw [beq_self_eq_true]), h.2⟩)
        have hsl := fun W => sl_7 wr.heap.size W
        clear ht4 hrz
        by_cases hq : 128 ≤ b0
        · rw [decide_eq_true hq]
          go_wp2_with fail
          with_reducible refine SB.out.mono ?_
          rintro r w5 ⟨rfl, rfl⟩
          go_wp2_with fail
          exact ⟨⟨by simp, B4, G4⟩, by decide⟩
        · rw [decide_eq_false hq]
          go_wp2_with fail
          with_reducible refine SB.out.mono ?_
          rintro r w5 ⟨rfl, rfl⟩
          go_wp2_with fail
          exact ⟨⟨by simp, B4, G4⟩, by decide⟩
    · go_wp2_with fail
      with_reducible refine (works_any _).mono ?_
      rintro r w9 ⟨rfl, hb9⟩
      have B9 : Below w.heap.size w w9 := Below.andThen hB.out hb9
      go_wp2_with fail
      go_ret
      exact ⟨rfl, B9⟩
#print axioms shortSegments_any
end Go.Proofs.Ytchelanikhoogaa
