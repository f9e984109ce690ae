/-
  The walk of BusPlays.
-/
import Derived.Test.YtndlpjfofjikeaaCz4
import Derived.Test.YtndlpjfofjikeaaBw4
namespace Go.Proofs.Ytndlpjfofjikeaa
open Go.RowKit

/-- How often a step sends, less one. -/
def pickS (s : St) : Nat := (pickN s.tm 600).toNat
theorem pickS_is (s : St) : (pickS s : Int) = pickN s.tm 600 := by have := (pickN_in s.tm 600 (by decide)).1; unfold pickS; omega
theorem pickS_lt (s : St) : pickS s < 600 := by have := (pickN_in s.tm 600 (by decide)).2; have := pickS_is s; omega
/-- The sum of the first ones. -/
def sumS (ss : List St) (i : Nat) : Nat := ((ss.take i).map pickS).sum
theorem sumS_succ (ss : List St) (i : Nat) (s : St) (h : ss[i]? = some s) : sumS ss (i + 1) = sumS ss i + pickS s := by
  obtain ⟨hi, he⟩ := List.getElem?_eq_some_iff.1 h
  unfold sumS
  rw [List.take_succ_eq_append_getElem hi, List.map_append, List.sum_append, he]
  simp
theorem sumS_succ_le (ss : List St) (i : Nat) : sumS ss (i + 1) ≤ sumS ss i + 600 := by
  rcases Nat.lt_or_ge i ss.length with h | h
  · rw [sumS_succ ss i _ (List.getElem?_eq_getElem h)]
    have := pickS_lt ss[i]
    omega
  · unfold sumS
    rw [List.take_of_length_le (by omega), List.take_of_length_le h]
    omega
theorem sumS_le (ss : List St) (i : Nat) : sumS ss i ≤ sumS ss ss.length := by
  unfold sumS
  rw [List.take_length]
  conv => rhs; rw [← List.take_append_drop i ss, List.map_append, List.sum_append]
  omega
theorem sumS_b (ss : List St) : ∀ (i : Nat), sumS ss i ≤ i * 600
  | 0 => Nat.le_refl _
  | i + 1 => by have := sumS_b ss i; have := sumS_succ_le ss i; omega

set_option linter.unusedSimpArgs false in
set_option maxHeartbeats 40000000 in
set_option maxRecDepth 100000 in
theorem busPlays_any {w0 : World} {sa : Option Addr} {slen scap : Nat} {ss : List St} (hS : IsSt w0 sa slen ss) :
    Calls Try.prog 3 #[.slice sa slen scap] w0 fun e w' => e = .returned (.bool true) ∧ Below w0.heap.size w0 w' := by
  have hsl := hS.size
  go_enter Try.func3, Try.ntmps3
  go_wp2_with fail
  go_loopw [3, 4] (fun u3 u4 vr => ∃ i : Nat, u3 = .int .i64 ((sumS ss i : Nat) : Int) ∧ u4 = .int .i64 (i : Int) ∧ i ≤ slen ∧ i ≤ 61 ∧ w0 = vr) (fun _ u4 _ => 62 - (intOf u4).toNat)
  case atStart => exact ⟨0, rfl, rfl, Nat.zero_le _, by omega, rfl⟩
  case round =>
    obtain ⟨i, rfl, rfl, hi, hi6, rfl⟩ := hrel
    have hsb := sumS_b ss i
    by_cases hlt : i < slen
    · have gi : (i : Int) < (slen : Int) := by omega
      by_cases h60 : i ≤ 60
      · have g6 : (i : Int) ≤ 60 := by omega
        obtain ⟨b, off, s, rfl, hs, ho, hcell, _⟩ := hS.at1 (Below.refl _ _) i hlt
        have c13 := hcell 13 _ rfl
        have wi : IntKind.i64.wrap ((i : Int) + 1) = ((i + 1 : Nat) : Int) := by rw [IntKind.wrap_i64]; omega
        obtain ⟨A, hA⟩ : ∃ A, Hid (A = sumS ss i) := ⟨_, rfl⟩
        obtain ⟨B, hB⟩ : ∃ B, Hid (B = sumS ss (i + 1)) := ⟨_, rfl⟩
        have wadd : IntKind.i64.wrap ((A : Int) + pickN s.tm 600) = (B : Int) := by
          have e1 := sumS_succ ss i s hs
          have e2 := pickS_is s
          have e3 := pickS_lt s
          have := hA.out; have := hB.out
          rw [IntKind.wrap_i64]
          omega
        rw [← hA.out]
        have PK : Calls Try.prog 7 #[.int .i64 s.tm, .int .i64 600] w0 fun e w' => e = .returned (.int .i64 (pickN s.tm 600)) ∧ w0 = w' := (pick_any s.tm 600 (by decide) (by decide) w0).mono (fun e w' h => ⟨h.1, h.2.symm⟩)
        generalize pickN s.tm 600 = P at *
        clear hcell hs ho
        go_wp2_with fail
        refine PK.mono ?_
        rintro e z ⟨rfl, rfl⟩
        clear PK
        go_wp2_with fail
        rw [← hA.out] at *
        exact ⟨⟨i + 1, by rw [hB.out], rfl, by omega, by omega, by first | rfl | trivial⟩, by simp [intOf]; omega⟩
      · have g6 : ¬ (i : Int) ≤ 60 := by omega
        have g7 : (slen : Int) > 60 := by omega
        have g8 : (60 : Int) < (slen : Int) := by omega
        go_wp2_with fail
        refine (works_any w0).mono ?_
        rintro e z ⟨rfl, bz⟩
        go_wp2_with fail
        go_ret
        exact ⟨rfl, bz⟩
    · have gi : ¬ (i : Int) < (slen : Int) := by omega
      have eis : Hid (i = slen) := by show i = slen; omega
      by_cases h60 : 60 < slen
      · have g7 : (slen : Int) > 60 := by omega
        have g8 : (60 : Int) < (slen : Int) := by omega
        go_wp2_with fail
        refine (works_any w0).mono ?_
        rintro e z ⟨rfl, bz⟩
        go_wp2_with fail
        go_ret
        exact ⟨rfl, bz⟩
      · have g7 : ¬ (slen : Int) > 60 := by omega
        have g8 : ¬ (60 : Int) < (slen : Int) := by omega
        by_cases h15 : 1500 < sumS ss i
        · have g9 : ((sumS ss i : Nat) : Int) > 1500 := by omega
          have g10 : (1500 : Int) < ((sumS ss i : Nat) : Int) := by omega
          go_wp2_with fail
          refine (works_any w0).mono ?_
          rintro e z ⟨rfl, bz⟩
          go_wp2_with fail
          go_ret
          exact ⟨rfl, bz⟩
        · have g9 : ¬ ((sumS ss i : Nat) : Int) > 1500 := by omega
          have g10 : ¬ (1500 : Int) < ((sumS ss i : Nat) : Int) := by omega
          have hbnd : sumS ss ss.length ≤ 1500 ∧ ss.length ≤ 60 := by rw [hsl, ← eis.out]; have := eis.out; omega
          clear gi hi hi6 hsb
          have NW := new_any w0
          go_wp2_with fail
          refine NW.mono ?_
          rintro e w1 ⟨rfl, E1⟩
          have STA0 : Hid (Sta w0 (w1.alloc (.cells #[.slice none 0 0, .int .i64 0] 36)) w0.heap.size w1.heap.size w0.heap.size w1.heap.size 0) := by
            have b1 := Below.al (Below.refl w1.heap.size w1) (.cells #[.slice none 0 0, .int .i64 0] 36)
            have E2 := E1.next b1
            have hP : Pl (w1.alloc (.cells #[.slice none 0 0, .int .i64 0] 36)) w0.heap.size (.slice none 0 0) w1.heap.size (.slice none 0 0) [] [] 0 := ⟨⟨E2.b.head, World.ownsRow.le1 E2.b.own (Nat.zero_le _), trivial⟩, ⟨heap_alloc_last w1 _, ⟨.inl ⟨rfl, rfl⟩⟩⟩, Two.zero, fun k _ hk => by simp at hk⟩
            exact ⟨⟨_, _, _, _, 0, _, _, _, _, 0, hP, hP, Nat.le_refl _, Nat.le_refl _, Nat.le_refl _, E1.bel.size, fun j hj => by simp [Value.ownBlock] at hj, .inl ⟨rfl, rfl, rfl⟩⟩, E2.bel⟩
          clear NW E1
          go_wp2_with fail
          go_loopw [5, 6, 7, 8, 9] (fun u5 u6 u7 u8 u9 vr => ∃ (i pa pb qa qb : Nat), u5 = .pointer (some ⟨pa, 0, none⟩) ∧ u6 = .pointer (some ⟨pb, 0, none⟩) ∧ u7 = .pointer (some ⟨qa, 0, none⟩) ∧ u8 = .pointer (some ⟨qb, 0, none⟩) ∧ u9 = .int .i64 (i : Int) ∧ i ≤ slen ∧ Sta w0 vr pa pb qa qb (sumS ss i + i)) (fun _ _ _ _ u9 _ => slen - (intOf u9).toNat)
          case atStart => exact ⟨0, _, _, _, _, rfl, rfl, rfl, rfl, rfl, Nat.zero_le _, STA0.out⟩
          case round =>
            clear STA0
            obtain ⟨i, pa, pb, qa, qb, rfl, rfl, rfl, rfl, rfl, hi, hsta⟩ := hrel
            have STA : Hid _ := hsta
            clear hsta
            have HSB : Hid (sumS ss i + i ≤ 1560 ∧ sumS ss (i + 1) + (i + 1) ≤ 1561 + 600) := ⟨by have := sumS_le ss i; have := hbnd.1; have := hbnd.2; omega, by have := sumS_le ss i; have := sumS_succ_le ss i; have := hbnd.1; have := hbnd.2; omega⟩
            have hsb1 := HSB.out.1
            by_cases hlt : i < slen
            · have gi : (i : Int) < (slen : Int) := by omega
              have wi : IntKind.i64.wrap ((i : Int) + 1) = ((i + 1 : Nat) : Int) := by rw [IntKind.wrap_i64]; omega
              obtain ⟨b, off, s, rfl, hs, ho, hcell, _⟩ := hS.at1 (Below.refl _ _) i hlt
              have HC : Hid (∀ z, Below w0.heap.size w0 z → ∀ j v, s.L[j]? = some v → z.cell? ⟨b, off + i * 14 + j, none⟩ = some v) := fun z hz j v hv => by rw [hz.cell (p := ⟨b, off + i * 14 + j, none⟩) (lt_of_cell (hcell j v hv))]; exact hcell j v hv
              have HSU : Hid (sumS ss (i + 1) = sumS ss i + pickS s) := sumS_succ ss i s hs
              have HPS : Hid ((pickS s : Int) = pickN s.tm 600) := pickS_is s
              have sk := HC.out wr STA.out.bel 0 _ rfl
              rw [Nat.add_zero] at sk
              have PK : Calls Try.prog 7 #[.int .i64 s.kd, .int .i64 6] wr fun e w' => e = .returned (.int .i64 (pickN s.kd 6)) ∧ wr = w' := (pick_any s.kd 6 (by decide) (by decide) wr).mono (fun e w' h => ⟨h.1, h.2.symm⟩)
              obtain ⟨q6, hq6⟩ : ∃ q6, Hid (q6 = pickN s.kd 6) := ⟨_, rfl⟩
              rw [← hq6.out] at PK
              clear hcell hs
              go_wp2_with fail
              refine PK.mono ?_
              rintro e z ⟨rfl, rfl⟩
              clear PK sk
              by_cases c5 : q6 = 5
              · 
                obtain ⟨v, u, l, L, n, x, y, m, M, k, h1, h2, h3, h4, h5, h6, h7, h8⟩ := STA.out.ex
                have hb0 : Hid _ := STA.out.bel
                have hln := h1.t.less
                have CY := copy_any h1.b (by omega)
                have RC : Hid (∀ z, IsD z pb u L (n : Int) → Calls Try.prog 11 #[.pointer (some ⟨pb, 0, none⟩)] z fun e w' => e = .returned (.pointer (some ⟨z.heap.size, 0, none⟩)) ∧ (∃ v', IsD w' z.heap.size v' L (n : Int)) ∧ Below z.heap.size z w') := fun z hz => by
                  by_cases hL : L = []
                  · subst hL; exact rcopy_none hz
                  · exact rcopy_some hz hL (by have := h1.t.len; omega)
                have HP1 : Hid _ := h1
                have H37 : Hid ((n ≤ sumS ss i + i) ∧ w0.heap.size ≤ pa ∧ w0.heap.size ≤ pb) := ⟨h3, h5, h6⟩
                clear STA h1 h2 h7 h8
                go_wp2_with fail
                refine CY.mono ?_
                rintro e z1 ⟨⟨pa2, v2, rfl, q1, q2, q3, q4⟩, b1⟩
                have R1 := RC.out z1 (HP1.out.d.next b1)
                clear CY RC
                go_wp2_with fail
                refine R1.mono ?_
                rintro e z2 ⟨rfl, ⟨u2, D2⟩, b2⟩
                obtain ⟨pb2, hpb2⟩ : ∃ pb2, Hid (pb2 = z1.heap.size) := ⟨_, rfl⟩
                rw [← hpb2.out] at D2 ⊢
                have STA : Hid (Sta w0 z2 pa2 pb2 pa pb (sumS ss i + i)) := by
                  have hP := HP1.out
                  have hbs := hb0.out.size
                  have hs1 := b1.size
                  have B2 : IsB z2 0 pa2 v2 l (n : Int) := ⟨(b2.block pa2 (lt_of_heap q3)).trans q3, World.ownsRow.le1 (isL_same q4 (fun j hj => b2.block j (q4.lt j hj).2)) (Nat.zero_le _), trivial⟩
                  have hold : Pl z2 pa v pb u l L n := (hP.next b1).next b2
                  exact ⟨⟨v2, u2, l, L, n, v, u, l, L, n, ⟨B2, D2, hP.t, hP.hh⟩, hold, H37.out.1, H37.out.1, by omega, by rw [hpb2.out]; omega, fun j hj => by have := q2 j hj; omega, .inr ⟨by have := lt_of_heap hP.b.head; omega, by rw [hpb2.out]; have := lt_of_heap hP.d.head; omega, fun j hj e => by have := q2 j hj; have := (hP.b.own.lt j e).2; omega⟩⟩, Below.andThen (Below.andThen hb0.out b1) b2⟩
                clear q1 q2 q3 q4 b1 b2 D2 R1 HP1 H37 hpb2 hb0
                obtain ⟨v, u, l, L, n, x, y, m, M, k, h1, h2, h3, h4, h5, h6, h7, h8⟩ := STA.out.ex
                have hb0 : Hid _ := STA.out.bel
                have hln := h1.t.less
                have OA := one_any h1 (by omega) (by omega) s.kd s.tm s.y ho
                have BWX := hb0.out
                have sc0 : z2.cell? ⟨b, off + i * 14, none⟩ = some (.int .i64 s.kd) := HC.out z2 BWX 0 _ rfl
                have sc1 : z2.cell? ⟨b, off + i * 14 + 1, none⟩ = some (.int .i64 s.y.nd) := HC.out z2 BWX 1 _ rfl
                have sc2 : z2.cell? ⟨b, off + i * 14 + 2, none⟩ = some (.int .u16 s.y.i) := HC.out z2 BWX 2 _ rfl
                have sc3 : z2.cell? ⟨b, off + i * 14 + 3, none⟩ = some (.int .i64 s.y.n) := HC.out z2 BWX 3 _ rfl
                have sc4 : z2.cell? ⟨b, off + i * 14 + 4, none⟩ = some (.int .u8 s.y.d0) := HC.out z2 BWX 4 _ rfl
                have sc5 : z2.cell? ⟨b, off + i * 14 + 5, none⟩ = some (.int .u8 s.y.d1) := HC.out z2 BWX 5 _ rfl
                have sc6 : z2.cell? ⟨b, off + i * 14 + 6, none⟩ = some (.int .u8 s.y.d2) := HC.out z2 BWX 6 _ rfl
                have sc7 : z2.cell? ⟨b, off + i * 14 + 7, none⟩ = some (.int .u8 s.y.d3) := HC.out z2 BWX 7 _ rfl
                have sc8 : z2.cell? ⟨b, off + i * 14 + 8, none⟩ = some (.int .u8 s.y.d4) := HC.out z2 BWX 8 _ rfl
                have sc9 : z2.cell? ⟨b, off + i * 14 + 9, none⟩ = some (.int .u8 s.y.d5) := HC.out z2 BWX 9 _ rfl
                have sc10 : z2.cell? ⟨b, off + i * 14 + 10, none⟩ = some (.int .u8 s.y.d6) := HC.out z2 BWX 10 _ rfl
                have sc11 : z2.cell? ⟨b, off + i * 14 + 11, none⟩ = some (.int .u8 s.y.d7) := HC.out z2 BWX 11 _ rfl
                have sc12 : z2.cell? ⟨b, off + i * 14 + 12, none⟩ = some (.bool s.y.r) := HC.out z2 BWX 12 _ rfl
                have sc13 : z2.cell? ⟨b, off + i * 14 + 13, none⟩ = some (.int .i64 s.tm) := HC.out z2 BWX 13 _ rfl
                have HS1 : Hid (∀ z v' u' l' L' n', Pl z pa2 v' pb2 u' l' L' n' → (n' : Int) ≤ (n : Int) + (if pickN s.kd 6 < 2 then pickN s.tm 600 + 1 else 0) → Kv pa2 v v' pb2 z2 z → Sta w0 z pa2 pb2 pa pb (sumS ss (i + 1) + (i + 1)) ∧ Calls Try.prog 13 #[.pointer (some ⟨pa2, 0, none⟩), .pointer (some ⟨pb2, 0, none⟩)] z fun e w' => e = .returned (.bool true) ∧ Below z.heap.size z w') := fun z v' u' l' L' n' hP hn hK => by
                  have e1 := HSU.out
                  have e2 := HPS.out
                  have hn' : n' ≤ sumS ss (i + 1) + (i + 1) := by
                    split at hn <;> omega
                  refine ⟨sta_one h1 h2 h4 h5 h6 h7 h8 hb0.out hP hK (by omega) hn', same_any hP.b hP.d hP.t ?_⟩
                  have := hP.t.less
                  have := HSB.out
                  omega
                clear STA h1 h2 h7 h8 BWX
                go_wp2_with fail
                refine OA.mono ?_
                rintro e z8 ⟨rfl, v8, u8, l8, L8, n8, hP8, hn8, hK8⟩
                obtain ⟨S8, C8⟩ := HS1.out z8 v8 u8 l8 L8 n8 hP8 hn8 hK8
                have HS8 : Hid _ := S8
                clear OA HS1 hP8 hn8 hK8 S8 hb0 sc0 sc1 sc2 sc3 sc4 sc5 sc6 sc7 sc8 sc9 sc10 sc11 sc12 sc13
                go_wp2_with fail
                refine C8.mono ?_
                rintro e z9 ⟨rfl, b9⟩
                have S9 : Hid _ := HS8.out.next b9
                clear C8 HS8 b9
                go_wp2_with fail
                first
                  | exact ⟨⟨i + 1, pa2, pb2, pa, pb, rfl, rfl, rfl, rfl, rfl, by omega, S9.out⟩, by simp [intOf]; omega⟩
                  | (trace_state; sorry)
              · 
                obtain ⟨v, u, l, L, n, x, y, m, M, k, h1, h2, h3, h4, h5, h6, h7, h8⟩ := STA.out.ex
                have hb0 : Hid _ := STA.out.bel
                have hln := h1.t.less
                have OA := one_any h1 (by omega) (by omega) s.kd s.tm s.y ho
                have BWX := hb0.out
                have sc0 : wr.cell? ⟨b, off + i * 14, none⟩ = some (.int .i64 s.kd) := HC.out wr BWX 0 _ rfl
                have sc1 : wr.cell? ⟨b, off + i * 14 + 1, none⟩ = some (.int .i64 s.y.nd) := HC.out wr BWX 1 _ rfl
                have sc2 : wr.cell? ⟨b, off + i * 14 + 2, none⟩ = some (.int .u16 s.y.i) := HC.out wr BWX 2 _ rfl
                have sc3 : wr.cell? ⟨b, off + i * 14 + 3, none⟩ = some (.int .i64 s.y.n) := HC.out wr BWX 3 _ rfl
                have sc4 : wr.cell? ⟨b, off + i * 14 + 4, none⟩ = some (.int .u8 s.y.d0) := HC.out wr BWX 4 _ rfl
                have sc5 : wr.cell? ⟨b, off + i * 14 + 5, none⟩ = some (.int .u8 s.y.d1) := HC.out wr BWX 5 _ rfl
                have sc6 : wr.cell? ⟨b, off + i * 14 + 6, none⟩ = some (.int .u8 s.y.d2) := HC.out wr BWX 6 _ rfl
                have sc7 : wr.cell? ⟨b, off + i * 14 + 7, none⟩ = some (.int .u8 s.y.d3) := HC.out wr BWX 7 _ rfl
                have sc8 : wr.cell? ⟨b, off + i * 14 + 8, none⟩ = some (.int .u8 s.y.d4) := HC.out wr BWX 8 _ rfl
                have sc9 : wr.cell? ⟨b, off + i * 14 + 9, none⟩ = some (.int .u8 s.y.d5) := HC.out wr BWX 9 _ rfl
                have sc10 : wr.cell? ⟨b, off + i * 14 + 10, none⟩ = some (.int .u8 s.y.d6) := HC.out wr BWX 10 _ rfl
                have sc11 : wr.cell? ⟨b, off + i * 14 + 11, none⟩ = some (.int .u8 s.y.d7) := HC.out wr BWX 11 _ rfl
                have sc12 : wr.cell? ⟨b, off + i * 14 + 12, none⟩ = some (.bool s.y.r) := HC.out wr BWX 12 _ rfl
                have sc13 : wr.cell? ⟨b, off + i * 14 + 13, none⟩ = some (.int .i64 s.tm) := HC.out wr BWX 13 _ rfl
                have HS1 : Hid (∀ z v' u' l' L' n', Pl z pa v' pb u' l' L' n' → (n' : Int) ≤ (n : Int) + (if pickN s.kd 6 < 2 then pickN s.tm 600 + 1 else 0) → Kv pa v v' pb wr z → Sta w0 z pa pb qa qb (sumS ss (i + 1) + (i + 1)) ∧ Calls Try.prog 13 #[.pointer (some ⟨pa, 0, none⟩), .pointer (some ⟨pb, 0, none⟩)] z fun e w' => e = .returned (.bool true) ∧ Below z.heap.size z w') := fun z v' u' l' L' n' hP hn hK => by
                  have e1 := HSU.out
                  have e2 := HPS.out
                  have hn' : n' ≤ sumS ss (i + 1) + (i + 1) := by
                    split at hn <;> omega
                  refine ⟨sta_one h1 h2 h4 h5 h6 h7 h8 hb0.out hP hK (by omega) hn', same_any hP.b hP.d hP.t ?_⟩
                  have := hP.t.less
                  have := HSB.out
                  omega
                clear STA h1 h2 h7 h8 BWX
                go_wp2_with fail
                refine OA.mono ?_
                rintro e z8 ⟨rfl, v8, u8, l8, L8, n8, hP8, hn8, hK8⟩
                obtain ⟨S8, C8⟩ := HS1.out z8 v8 u8 l8 L8 n8 hP8 hn8 hK8
                have HS8 : Hid _ := S8
                clear OA HS1 hP8 hn8 hK8 S8 hb0 sc0 sc1 sc2 sc3 sc4 sc5 sc6 sc7 sc8 sc9 sc10 sc11 sc12 sc13
                go_wp2_with fail
                refine C8.mono ?_
                rintro e z9 ⟨rfl, b9⟩
                have S9 : Hid _ := HS8.out.next b9
                clear C8 HS8 b9
                go_wp2_with fail
                first
                  | exact ⟨⟨i + 1, pa, pb, qa, qb, rfl, rfl, rfl, rfl, rfl, by omega, S9.out⟩, by simp [intOf]; omega⟩
                  | (trace_state; sorry)
            · have gi : ¬ (i : Int) < (slen : Int) := by omega
              obtain ⟨v, u, l, L, n, x, y, m, M, k, h1, h2, h3, h4, _⟩ := STA.out.ex
              have hlk := h2.t.less
              have SM := same_any h2.b h2.d h2.t (by omega)
              have HB : Hid _ := STA.out.bel
              clear STA h1 h2
              go_wp2_with fail
              refine SM.mono ?_
              rintro e z1 ⟨rfl, b1⟩
              have WK := works_any z1
              have HB2 : Hid _ := Below.andThen HB.out b1
              clear SM b1 HB
              go_wp2_with fail
              refine WK.mono ?_
              rintro e z2 ⟨rfl, b2⟩
              have HB3 : Hid _ := Below.andThen HB2.out b2
              clear WK b2 HB2
              go_wp2_with fail
              go_ret
              exact ⟨rfl, HB3.out⟩
#print axioms busPlays_any
end Go.Proofs.Ytndlpjfofjikeaa
