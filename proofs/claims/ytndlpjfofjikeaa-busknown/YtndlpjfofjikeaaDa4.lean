/-
  The walk of BusPlays.
  The walk of BusKnown.
-/
import Derived.Test.YtndlpjfofjikeaaCy4
import Derived.Test.YtndlpjfofjikeaaBw4
import Derived.Test.YtndlpjfofjikeaaCe4
import Derived.Great.BuildSlice
namespace Go.Proofs.Ytndlpjfofjikeaa
open Go.RowKit

/-- How often a step sends, less one. -/
def pickS (s : St) : Nat := (pickN s.tm 600).toNat
theorem pickS_is (s : St) : (pickS s : Int) = pickN s.tm 600 := by have := (pickN_in s.tm 600 (by decide)).1; unfold pickS; omega
theorem pickS_lt (s : St) : pickS s < 600 := by have := (pickN_in s.tm 600 (by decide)).2; have := pickS_is s; omega
/-- The sum of the first ones. -/
def sumS (ss : List St) (i : Nat) : Nat := ((ss.take i).map pickS).sum
theorem sumS_succ (ss : List St) (i : Nat) (s : St) (h : ss[i]? = some s) : sumS ss (i + 1) = sumS ss i + pickS s := by
  obtain ⟨hi, he⟩ := List.getElem?_eq_some_iff.1 h
  unfold sumS
  rw [List.take_succ_eq_append_getElem hi, List.map_append, List.sum_append, he]
  simp
theorem sumS_succ_le (ss : List St) (i : Nat) : sumS ss (i + 1) ≤ sumS ss i + 600 := by
  rcases Nat.lt_or_ge i ss.length with h | h
  · rw [sumS_succ ss i _ (List.getElem?_eq_getElem h)]
    have := pickS_lt ss[i]
    omega
  · unfold sumS
    rw [List.take_of_length_le (by omega), List.take_of_length_le h]
    omega
theorem sumS_le (ss : List St) (i : Nat) : sumS ss i ≤ sumS ss ss.length := by
  unfold sumS
  rw [List.take_length]
  conv => rhs; rw [← List.take_append_drop i ss, List.map_append, List.sum_append]
  omega
theorem sumS_b (ss : List St) : ∀ (i : Nat), sumS ss i ≤ i * 600
  | 0 => Nat.le_refl _
  | i + 1 => by have := sumS_b ss i; have := sumS_succ_le ss i; omega

set_option linter.unusedSimpArgs false in
set_option maxHeartbeats 40000000 in
set_option maxRecDepth 100000 in
theorem busPlays_any {w0 : World} {sa : Option Addr} {slen scap : Nat} {ss : List St} (hS : IsSt w0 sa slen ss) :
    Calls Try.prog 3 #[.slice sa slen scap] w0 fun e w' => e = .returned (.bool true) ∧ Below w0.heap.size w0 w' := by
  have hsl := hS.size
  go_enter Try.func3, Try.ntmps3
  go_wp2_with fail
  go_loopw [3, 4] (fun u3 u4 vr => ∃ i : Nat, u3 = .int .i64 ((sumS ss i : Nat) : Int) ∧ u4 = .int .i64 (i : Int) ∧ i ≤ slen ∧ i ≤ 61 ∧ w0 = vr) (fun _ u4 _ => 62 - (intOf u4).toNat)
  case atStart => exact ⟨0, rfl, rfl, Nat.zero_le _, by omega, rfl⟩
  case round =>
    obtain ⟨i, rfl, rfl, hi, hi6, rfl⟩ := hrel
    have hsb := sumS_b ss i
    by_cases hlt : i < slen
    · have gi : (i : Int) < (slen : Int) := by omega
      by_cases h60 : i ≤ 60
      · have g6 : (i : Int) ≤ 60 := by omega
        obtain ⟨b, off, s, rfl, hs, ho, hcell, _⟩ := hS.at1 (Below.refl _ _) i hlt
        have c13 := hcell 13 _ rfl
        have wi : IntKind.i64.wrap ((i : Int) + 1) = ((i + 1 : Nat) : Int) := by rw [IntKind.wrap_i64]; omega
        obtain ⟨A, hA⟩ : ∃ A, Hid (A = sumS ss i) := ⟨_, rfl⟩
        obtain ⟨B, hB⟩ : ∃ B, Hid (B = sumS ss (i + 1)) := ⟨_, rfl⟩
        have wadd : IntKind.i64.wrap ((A : Int) + pickN s.tm 600) = (B : Int) := by
          have e1 := sumS_succ ss i s hs
          have e2 := pickS_is s
          have e3 := pickS_lt s
          have := hA.out; have := hB.out
          rw [IntKind.wrap_i64]
          omega
        rw [← hA.out]
        have PK : Calls Try.prog 7 #[.int .i64 s.tm, .int .i64 600] w0 fun e w' => e = .returned (.int .i64 (pickN s.tm 600)) ∧ w0 = w' := (pick_any s.tm 600 (by decide) (by decide) w0).mono (fun e w' h => ⟨h.1, h.2.symm⟩)
        generalize pickN s.tm 600 = P at *
        clear hcell hs ho
        go_wp2_with fail
        refine PK.mono ?_
        rintro e z ⟨rfl, rfl⟩
        clear PK
        go_wp2_with fail
        rw [← hA.out] at *
        exact ⟨⟨i + 1, by rw [hB.out], rfl, by omega, by omega, by first | rfl | trivial⟩, by simp [intOf]; omega⟩
      · have g6 : ¬ (i : Int) ≤ 60 := by omega
        have g7 : (slen : Int) > 60 := by omega
        have g8 : (60 : Int) < (slen : Int) := by omega
        go_wp2_with fail
        refine (works_any w0).mono ?_
        rintro e z ⟨rfl, bz⟩
        go_wp2_with fail
        go_ret
        exact ⟨rfl, bz⟩
    · have gi : ¬ (i : Int) < (slen : Int) := by omega
      have eis : Hid (i = slen) := by show i = slen; omega
      by_cases h60 : 60 < slen
      · have g7 : (slen : Int) > 60 := by omega
        have g8 : (60 : Int) < (slen : Int) := by omega
        go_wp2_with fail
        refine (works_any w0).mono ?_
        rintro e z ⟨rfl, bz⟩
        go_wp2_with fail
        go_ret
        exact ⟨rfl, bz⟩
      · have g7 : ¬ (slen : Int) > 60 := by omega
        have g8 : ¬ (60 : Int) < (slen : Int) := by omega
        by_cases h15 : 1500 < sumS ss i
        · have g9 : ((sumS ss i : Nat) : Int) > 1500 := by omega
          have g10 : (1500 : Int) < ((sumS ss i : Nat) : Int) := by omega
          go_wp2_with fail
          refine (works_any w0).mono ?_
          rintro e z ⟨rfl, bz⟩
          go_wp2_with fail
          go_ret
          exact ⟨rfl, bz⟩
        · have g9 : ¬ ((sumS ss i : Nat) : Int) > 1500 := by omega
          have g10 : ¬ (1500 : Int) < ((sumS ss i : Nat) : Int) := by omega
          have hbnd : sumS ss ss.length ≤ 1500 ∧ ss.length ≤ 60 := by rw [hsl, ← eis.out]; have := eis.out; omega
          clear gi hi hi6 hsb
          have NW := new_any w0
          go_wp2_with fail
          refine NW.mono ?_
          rintro e w1 ⟨rfl, E1⟩
          have STA0 : Hid (Sta w0 (w1.alloc (.cells #[.slice none 0 0, .int .i64 0] 36)) w0.heap.size w1.heap.size w0.heap.size w1.heap.size 0) := by
            have b1 := Below.al (Below.refl w1.heap.size w1) (.cells #[.slice none 0 0, .int .i64 0] 36)
            have E2 := E1.next b1
            have hP : Pl (w1.alloc (.cells #[.slice none 0 0, .int .i64 0] 36)) w0.heap.size (.slice none 0 0) w1.heap.size (.slice none 0 0) [] [] 0 := ⟨⟨E2.b.head, World.ownsRow.le1 E2.b.own (Nat.zero_le _), trivial⟩, ⟨heap_alloc_last w1 _, ⟨.inl ⟨rfl, rfl⟩⟩⟩, Two.zero, fun k _ hk => by simp at hk⟩
            exact ⟨⟨_, _, _, _, 0, _, _, _, _, 0, hP, hP, Nat.le_refl _, Nat.le_refl _, Nat.le_refl _, E1.bel.size, fun j hj => by simp [Value.ownBlock] at hj, .inl ⟨rfl, rfl, rfl⟩⟩, E2.bel⟩
          clear NW E1
          go_wp2_with fail
          go_loopw [5, 6, 7, 8, 9] (fun u5 u6 u7 u8 u9 vr => ∃ (i pa pb qa qb : Nat), u5 = .pointer (some ⟨pa, 0, none⟩) ∧ u6 = .pointer (some ⟨pb, 0, none⟩) ∧ u7 = .pointer (some ⟨qa, 0, none⟩) ∧ u8 = .pointer (some ⟨qb, 0, none⟩) ∧ u9 = .int .i64 (i : Int) ∧ i ≤ slen ∧ Sta w0 vr pa pb qa qb (sumS ss i + i)) (fun _ _ _ _ u9 _ => slen - (intOf u9).toNat)
          case atStart => exact ⟨0, _, _, _, _, rfl, rfl, rfl, rfl, rfl, Nat.zero_le _, STA0.out⟩
          case round =>
            clear STA0
            obtain ⟨i, pa, pb, qa, qb, rfl, rfl, rfl, rfl, rfl, hi, hsta⟩ := hrel
            have STA : Hid _ := hsta
            clear hsta
            have HSB : Hid (sumS ss i + i ≤ 1560 ∧ sumS ss (i + 1) + (i + 1) ≤ 1561 + 600) := ⟨by have := sumS_le ss i; have := hbnd.1; have := hbnd.2; omega, by have := sumS_le ss i; have := sumS_succ_le ss i; have := hbnd.1; have := hbnd.2; omega⟩
            have hsb1 := HSB.out.1
            by_cases hlt : i < slen
            · have gi : (i : Int) < (slen : Int) := by omega
              have wi : IntKind.i64.wrap ((i : Int) + 1) = ((i + 1 : Nat) : Int) := by rw [IntKind.wrap_i64]; omega
              obtain ⟨b, off, s, rfl, hs, ho, hcell, _⟩ := hS.at1 (Below.refl _ _) i hlt
              have HC : Hid (∀ z, Below w0.heap.size w0 z → ∀ j v, s.L[j]? = some v → z.cell? ⟨b, off + i * 14 + j, none⟩ = some v) := fun z hz j v hv => by rw [hz.cell (p := ⟨b, off + i * 14 + j, none⟩) (lt_of_cell (hcell j v hv))]; exact hcell j v hv
              have HSU : Hid (sumS ss (i + 1) = sumS ss i + pickS s) := sumS_succ ss i s hs
              have HPS : Hid ((pickS s : Int) = pickN s.tm 600) := pickS_is s
              have sk := HC.out wr STA.out.bel 0 _ rfl
              rw [Nat.add_zero] at sk
              have PK : Calls Try.prog 7 #[.int .i64 s.kd, .int .i64 6] wr fun e w' => e = .returned (.int .i64 (pickN s.kd 6)) ∧ wr = w' := (pick_any s.kd 6 (by decide) (by decide) wr).mono (fun e w' h => ⟨h.1, h.2.symm⟩)
              obtain ⟨q6, hq6⟩ : ∃ q6, Hid (q6 = pickN s.kd 6) := ⟨_, rfl⟩
              rw [← hq6.out] at PK
              clear hcell hs
              go_wp2_with fail
              refine PK.mono ?_
              rintro e z ⟨rfl, rfl⟩
              clear PK sk
              by_cases c5 : q6 = 5
              · 
                obtain ⟨v, u, l, L, n, x, y, m, M, k, h1, h2, h3, h4, h5, h6, h7, h8⟩ := STA.out.ex
                have hb0 : Hid _ := STA.out.bel
                have hln := h1.t.less
                have CY := copy_any h1.b (by omega)
                have RC : Hid (∀ z, IsD z pb u L (n : Int) → Calls Try.prog 11 #[.pointer (some ⟨pb, 0, none⟩)] z fun e w' => e = .returned (.pointer (some ⟨z.heap.size, 0, none⟩)) ∧ (∃ v', IsD w' z.heap.size v' L (n : Int)) ∧ Below z.heap.size z w') := fun z hz => by
                  by_cases hL : L = []
                  · subst hL; exact rcopy_none hz
                  · exact rcopy_some hz hL (by have := h1.t.len; omega)
                have HP1 : Hid _ := h1
                have H37 : Hid ((n ≤ sumS ss i + i) ∧ w0.heap.size ≤ pa ∧ w0.heap.size ≤ pb) := ⟨h3, h5, h6⟩
                clear STA h1 h2 h7 h8
                go_wp2_with fail
                refine CY.mono ?_
                rintro e z1 ⟨⟨pa2, v2, rfl, q1, q2, q3, q4⟩, b1⟩
                have R1 := RC.out z1 (HP1.out.d.next b1)
                clear CY RC
                go_wp2_with fail
                refine R1.mono ?_
                rintro e z2 ⟨rfl, ⟨u2, D2⟩, b2⟩
                obtain ⟨pb2, hpb2⟩ : ∃ pb2, Hid (pb2 = z1.heap.size) := ⟨_, rfl⟩
                rw [← hpb2.out] at D2 ⊢
                have STA : Hid (Sta w0 z2 pa2 pb2 pa pb (sumS ss i + i)) := by
                  have hP := HP1.out
                  have hbs := hb0.out.size
                  have hs1 := b1.size
                  have B2 : IsB z2 0 pa2 v2 l (n : Int) := ⟨(b2.block pa2 (lt_of_heap q3)).trans q3, World.ownsRow.le1 (isL_same q4 (fun j hj => b2.block j (q4.lt j hj).2)) (Nat.zero_le _), trivial⟩
                  have hold : Pl z2 pa v pb u l L n := (hP.next b1).next b2
                  exact ⟨⟨v2, u2, l, L, n, v, u, l, L, n, ⟨B2, D2, hP.t, hP.hh⟩, hold, H37.out.1, H37.out.1, by omega, by rw [hpb2.out]; omega, fun j hj => by have := q2 j hj; omega, .inr ⟨by have := lt_of_heap hP.b.head; omega, by rw [hpb2.out]; have := lt_of_heap hP.d.head; omega, fun j hj e => by have := q2 j hj; have := (hP.b.own.lt j e).2; omega⟩⟩, Below.andThen (Below.andThen hb0.out b1) b2⟩
                clear q1 q2 q3 q4 b1 b2 D2 R1 HP1 H37 hpb2 hb0
                obtain ⟨v, u, l, L, n, x, y, m, M, k, h1, h2, h3, h4, h5, h6, h7, h8⟩ := STA.out.ex
                have hb0 : Hid _ := STA.out.bel
                have hln := h1.t.less
                have OA := one_any h1 (by omega) (by omega) s.kd s.tm s.y ho
                have BWX := hb0.out
                have sc0 : z2.cell? ⟨b, off + i * 14, none⟩ = some (.int .i64 s.kd) := HC.out z2 BWX 0 _ rfl
                have sc1 : z2.cell? ⟨b, off + i * 14 + 1, none⟩ = some (.int .i64 s.y.nd) := HC.out z2 BWX 1 _ rfl
                have sc2 : z2.cell? ⟨b, off + i * 14 + 2, none⟩ = some (.int .u16 s.y.i) := HC.out z2 BWX 2 _ rfl
                have sc3 : z2.cell? ⟨b, off + i * 14 + 3, none⟩ = some (.int .i64 s.y.n) := HC.out z2 BWX 3 _ rfl
                have sc4 : z2.cell? ⟨b, off + i * 14 + 4, none⟩ = some (.int .u8 s.y.d0) := HC.out z2 BWX 4 _ rfl
                have sc5 : z2.cell? ⟨b, off + i * 14 + 5, none⟩ = some (.int .u8 s.y.d1) := HC.out z2 BWX 5 _ rfl
                have sc6 : z2.cell? ⟨b, off + i * 14 + 6, none⟩ = some (.int .u8 s.y.d2) := HC.out z2 BWX 6 _ rfl
                have sc7 : z2.cell? ⟨b, off + i * 14 + 7, none⟩ = some (.int .u8 s.y.d3) := HC.out z2 BWX 7 _ rfl
                have sc8 : z2.cell? ⟨b, off + i * 14 + 8, none⟩ = some (.int .u8 s.y.d4) := HC.out z2 BWX 8 _ rfl
                have sc9 : z2.cell? ⟨b, off + i * 14 + 9, none⟩ = some (.int .u8 s.y.d5) := HC.out z2 BWX 9 _ rfl
                have sc10 : z2.cell? ⟨b, off + i * 14 + 10, none⟩ = some (.int .u8 s.y.d6) := HC.out z2 BWX 10 _ rfl
                have sc11 : z2.cell? ⟨b, off + i * 14 + 11, none⟩ = some (.int .u8 s.y.d7) := HC.out z2 BWX 11 _ rfl
                have sc12 : z2.cell? ⟨b, off + i * 14 + 12, none⟩ = some (.bool s.y.r) := HC.out z2 BWX 12 _ rfl
                have sc13 : z2.cell? ⟨b, off + i * 14 + 13, none⟩ = some (.int .i64 s.tm) := HC.out z2 BWX 13 _ rfl
                have HS1 : Hid (∀ z v' u' l' L' n', Pl z pa2 v' pb2 u' l' L' n' → (n' : Int) ≤ (n : Int) + (if pickN s.kd 6 < 2 then pickN s.tm 600 + 1 else 0) → Kv pa2 v v' pb2 z2 z → Sta w0 z pa2 pb2 pa pb (sumS ss (i + 1) + (i + 1)) ∧ Calls Try.prog 13 #[.pointer (some ⟨pa2, 0, none⟩), .pointer (some ⟨pb2, 0, none⟩)] z fun e w' => e = .returned (.bool true) ∧ Below z.heap.size z w') := fun z v' u' l' L' n' hP hn hK => by
                  have e1 := HSU.out
                  have e2 := HPS.out
                  have hn' : n' ≤ sumS ss (i + 1) + (i + 1) := by
                    split at hn <;> omega
                  refine ⟨sta_one h1 h2 h4 h5 h6 h7 h8 hb0.out hP hK (by omega) hn', same_any hP.b hP.d hP.t ?_⟩
                  have := hP.t.less
                  have := HSB.out
                  omega
                clear STA h1 h2 h7 h8 BWX
                go_wp2_with fail
                refine OA.mono ?_
                rintro e z8 ⟨rfl, v8, u8, l8, L8, n8, hP8, hn8, hK8⟩
                obtain ⟨S8, C8⟩ := HS1.out z8 v8 u8 l8 L8 n8 hP8 hn8 hK8
                have HS8 : Hid _ := S8
                clear OA HS1 hP8 hn8 hK8 S8 hb0 sc0 sc1 sc2 sc3 sc4 sc5 sc6 sc7 sc8 sc9 sc10 sc11 sc12 sc13
                go_wp2_with fail
                refine C8.mono ?_
                rintro e z9 ⟨rfl, b9⟩
                have S9 : Hid _ := HS8.out.next b9
                clear C8 HS8 b9
                go_wp2_with fail
                first
                  | exact ⟨⟨i + 1, pa2, pb2, pa, pb, rfl, rfl, rfl, rfl, rfl, by omega, S9.out⟩, by simp [intOf]; omega⟩
                  | (trace_state; sorry)
              · 
                obtain ⟨v, u, l, L, n, x, y, m, M, k, h1, h2, h3, h4, h5, h6, h7, h8⟩ := STA.out.ex
                have hb0 : Hid _ := STA.out.bel
                have hln := h1.t.less
                have OA := one_any h1 (by omega) (by omega) s.kd s.tm s.y ho
                have BWX := hb0.out
                have sc0 : wr.cell? ⟨b, off + i * 14, none⟩ = some (.int .i64 s.kd) := HC.out wr BWX 0 _ rfl
                have sc1 : wr.cell? ⟨b, off + i * 14 + 1, none⟩ = some (.int .i64 s.y.nd) := HC.out wr BWX 1 _ rfl
                have sc2 : wr.cell? ⟨b, off + i * 14 + 2, none⟩ = some (.int .u16 s.y.i) := HC.out wr BWX 2 _ rfl
                have sc3 : wr.cell? ⟨b, off + i * 14 + 3, none⟩ = some (.int .i64 s.y.n) := HC.out wr BWX 3 _ rfl
                have sc4 : wr.cell? ⟨b, off + i * 14 + 4, none⟩ = some (.int .u8 s.y.d0) := HC.out wr BWX 4 _ rfl
                have sc5 : wr.cell? ⟨b, off + i * 14 + 5, none⟩ = some (.int .u8 s.y.d1) := HC.out wr BWX 5 _ rfl
                have sc6 : wr.cell? ⟨b, off + i * 14 + 6, none⟩ = some (.int .u8 s.y.d2) := HC.out wr BWX 6 _ rfl
                have sc7 : wr.cell? ⟨b, off + i * 14 + 7, none⟩ = some (.int .u8 s.y.d3) := HC.out wr BWX 7 _ rfl
                have sc8 : wr.cell? ⟨b, off + i * 14 + 8, none⟩ = some (.int .u8 s.y.d4) := HC.out wr BWX 8 _ rfl
                have sc9 : wr.cell? ⟨b, off + i * 14 + 9, none⟩ = some (.int .u8 s.y.d5) := HC.out wr BWX 9 _ rfl
                have sc10 : wr.cell? ⟨b, off + i * 14 + 10, none⟩ = some (.int .u8 s.y.d6) := HC.out wr BWX 10 _ rfl
                have sc11 : wr.cell? ⟨b, off + i * 14 + 11, none⟩ = some (.int .u8 s.y.d7) := HC.out wr BWX 11 _ rfl
                have sc12 : wr.cell? ⟨b, off + i * 14 + 12, none⟩ = some (.bool s.y.r) := HC.out wr BWX 12 _ rfl
                have sc13 : wr.cell? ⟨b, off + i * 14 + 13, none⟩ = some (.int .i64 s.tm) := HC.out wr BWX 13 _ rfl
                have HS1 : Hid (∀ z v' u' l' L' n', Pl z pa v' pb u' l' L' n' → (n' : Int) ≤ (n : Int) + (if pickN s.kd 6 < 2 then pickN s.tm 600 + 1 else 0) → Kv pa v v' pb wr z → Sta w0 z pa pb qa qb (sumS ss (i + 1) + (i + 1)) ∧ Calls Try.prog 13 #[.pointer (some ⟨pa, 0, none⟩), .pointer (some ⟨pb, 0, none⟩)] z fun e w' => e = .returned (.bool true) ∧ Below z.heap.size z w') := fun z v' u' l' L' n' hP hn hK => by
                  have e1 := HSU.out
                  have e2 := HPS.out
                  have hn' : n' ≤ sumS ss (i + 1) + (i + 1) := by
                    split at hn <;> omega
                  refine ⟨sta_one h1 h2 h4 h5 h6 h7 h8 hb0.out hP hK (by omega) hn', same_any hP.b hP.d hP.t ?_⟩
                  have := hP.t.less
                  have := HSB.out
                  omega
                clear STA h1 h2 h7 h8 BWX
                go_wp2_with fail
                refine OA.mono ?_
                rintro e z8 ⟨rfl, v8, u8, l8, L8, n8, hP8, hn8, hK8⟩
                obtain ⟨S8, C8⟩ := HS1.out z8 v8 u8 l8 L8 n8 hP8 hn8 hK8
                have HS8 : Hid _ := S8
                clear OA HS1 hP8 hn8 hK8 S8 hb0 sc0 sc1 sc2 sc3 sc4 sc5 sc6 sc7 sc8 sc9 sc10 sc11 sc12 sc13
                go_wp2_with fail
                refine C8.mono ?_
                rintro e z9 ⟨rfl, b9⟩
                have S9 : Hid _ := HS8.out.next b9
                clear C8 HS8 b9
                go_wp2_with fail
                first
                  | exact ⟨⟨i + 1, pa, pb, qa, qb, rfl, rfl, rfl, rfl, rfl, by omega, S9.out⟩, by simp [intOf]; omega⟩
                  | (trace_state; sorry)
            · have gi : ¬ (i : Int) < (slen : Int) := by omega
              obtain ⟨v, u, l, L, n, x, y, m, M, k, h1, h2, h3, h4, _⟩ := STA.out.ex
              have hlk := h2.t.less
              have SM := same_any h2.b h2.d h2.t (by omega)
              have HB : Hid _ := STA.out.bel
              clear STA h1 h2
              go_wp2_with fail
              refine SM.mono ?_
              rintro e z1 ⟨rfl, b1⟩
              have WK := works_any z1
              have HB2 : Hid _ := Below.andThen HB.out b1
              clear SM b1 HB
              go_wp2_with fail
              refine WK.mono ?_
              rintro e z2 ⟨rfl, b2⟩
              have HB3 : Hid _ := Below.andThen HB2.out b2
              clear WK b2 HB2
              go_wp2_with fail
              go_ret
              exact ⟨rfl, HB3.out⟩
#print axioms busPlays_any
end Go.Proofs.Ytndlpjfofjikeaa
namespace Go.Proofs.Ytndlpjfofjikeaa
open Go.RowKit

theorem infoP : (Try.prog.info? 29).map (fun i => (i.zero, i.size, i.bytes)) = some (some (.agg #[.int .i64 0, .int .i64 0, .int .u16 0, .int .i64 0, .int .u8 0, .int .u8 0, .int .u8 0, .int .u8 0, .int .u8 0, .int .u8 0, .int .u8 0, .int .u8 0, .bool false, .int .i64 0]), 14, 56) := by kernel_rfl
theorem infoFr : (Try.prog.info? 27).map (fun i => (i.zero, i.size, i.bytes)) = some (some (.agg #[.int .u16 0, .int .i64 0, .int .u8 0, .int .u8 0, .int .u8 0, .int .u8 0, .int .u8 0, .int .u8 0, .int .u8 0, .int .u8 0, .bool false]), 11, 32) := by kernel_rfl
theorem infoIn : (Try.prog.info? 3).map (fun i => (i.zero, i.size, i.bytes)) = some (some (.int .i64 0), 1, 8) := by kernel_rfl
theorem flatS_at : ∀ (ss : List St) (i : Nat) (s : St) (j : Nat), ss[i]? = some s → j < 14 → (ss.flatMap St.L)[i * 14 + j]? = s.L[j]?
  | [], i, s, j, h, _ => by simp at h
  | x :: ss, 0, s, j, h, hj => by
    simp at h
    subst h
    rw [List.flatMap_cons, List.getElem?_append_left (by simp [St.L]; omega), Nat.zero_mul, Nat.zero_add]
  | x :: ss, i + 1, s, j, h, hj => by
    rw [List.getElem?_cons_succ] at h
    have hl : (St.L x).length = 14 := rfl
    rw [List.flatMap_cons, List.getElem?_append_right (by rw [hl]; omega), hl, show (i + 1) * 14 + j - 14 = i * 14 + j from by omega]
    exact flatS_at ss i s j h hj
theorem flatF_at : ∀ (fs : List Sn) (i : Nat) (s : Sn) (j : Nat), fs[i]? = some s → j < 11 → (fs.flatMap Sn.F)[i * 11 + j]? = s.F[j]?
  | [], i, s, j, h, _ => by simp at h
  | x :: ss, 0, s, j, h, hj => by
    simp at h
    subst h
    rw [List.flatMap_cons, List.getElem?_append_left (by simp [Sn.F]; omega), Nat.zero_mul, Nat.zero_add]
  | x :: ss, i + 1, s, j, h, hj => by
    rw [List.getElem?_cons_succ] at h
    have hl : (Sn.F x).length = 11 := rfl
    rw [List.flatMap_cons, List.getElem?_append_right (by rw [hl]; omega), hl, show (i + 1) * 11 + j - 11 = i * 11 + j from by omega]
    exact flatF_at ss i s j h hj
theorem isSt_lit {w : World} {b : Nat} {C : Array Value} {T : TypeId} (ss : List St) (hb : w.heap[b]? = some (.cells C T (0, 0))) (hC : C.toList = ss.flatMap St.L) (ho : ∀ s ∈ ss, Oct [s.y.d0, s.y.d1, s.y.d2, s.y.d3, s.y.d4, s.y.d5, s.y.d6, s.y.d7]) : IsSt w (some ⟨b, 0, none⟩) ss.length ss := ⟨rfl, ho, fun _ => ⟨b, 0, rfl, fun i s hs j v hv => by
  have hj : j < 14 := (List.getElem?_eq_some_iff.1 hv).1
  rw [cell_of_row w b _ _ _ _ hb, ← Array.getElem?_toList, hC, Nat.zero_add, flatS_at ss i s j hs hj]
  exact hv⟩⟩
theorem isFs_lit {w : World} {b : Nat} {C : Array Value} {T : TypeId} (fs : List Sn) (hb : w.heap[b]? = some (.cells C T (0, 0))) (hC : C.toList = fs.flatMap Sn.F) (ho : ∀ s ∈ fs, Oct [s.d0, s.d1, s.d2, s.d3, s.d4, s.d5, s.d6, s.d7]) : IsFs w (some ⟨b, 0, none⟩) fs.length fs := ⟨rfl, ho, fun _ => ⟨b, 0, rfl, fun i s hs j v hv => by
  have hj : j < 11 := (List.getElem?_eq_some_iff.1 hv).1
  rw [cell_of_row w b _ _ _ _ hb, ← Array.getElem?_toList, hC, Nat.zero_add, flatF_at fs i s j hs hj]
  exact hv⟩⟩
theorem isNs_lit {w : World} {b : Nat} {C : Array Value} {T : TypeId} (zs : List Int) (hb : w.heap[b]? = some (.cells C T (0, 0))) (hC : C.toList = zs.map (Value.int .i64)) : IsNs w (some ⟨b, 0, none⟩) zs.length zs := ⟨rfl, fun _ => ⟨b, 0, rfl, fun i hi => by
  rw [cell_of_row w b _ _ _ _ hb, ← Array.getElem?_toList, hC, Nat.zero_add, List.getElem?_map, List.getElem?_eq_getElem hi, List.getD_eq_getElem?_getD, List.getElem?_eq_getElem hi]
  rfl⟩⟩

set_option linter.unusedSimpArgs false in
set_option maxHeartbeats 4000000 in
set_option maxRecDepth 100000 in
theorem byteFrame_any (id x : Int) (w : World) : Calls Try.prog 19 #[.int .u16 id, .int .u8 x] w fun e w' => e = .returned (.agg #[.int .u16 id, .int .i64 1, .int .u8 x, .int .u8 0, .int .u8 0, .int .u8 0, .int .u8 0, .int .u8 0, .int .u8 0, .int .u8 0, .bool false]) ∧ Below w.heap.size w w' := by
  go_enter Try.func19, Try.ntmps19
  go_wp2_with fail
  exact bodyPost_ret (v := .agg #[.int .u16 id, .int .i64 1, .int .u8 x, .int .u8 0, .int .u8 0, .int .u8 0, .int .u8 0, .int .u8 0, .int .u8 0, .int .u8 0, .bool false]) (by simp [results, Try.results19, go_sem]) rfl ⟨rfl, Below.al (Below.al (Below.refl _ _) _) _⟩
#print axioms byteFrame_any

set_option linter.unusedSimpArgs false in
set_option maxHeartbeats 40000000 in
set_option maxRecDepth 100000 in
theorem busKnown_any (w : World) : Calls Try.prog 6 #[] w fun e w' => e = .returned (.bool true) ∧ Below w.heap.size w w' := by
  have BF := byteFrame_any 385 1 w
  obtain ⟨ieP, hiP, hzP0, hzP1, _⟩ := info_parts infoP
  obtain ⟨ieF, hiF, hzF0, hzF1, _⟩ := info_parts infoFr
  obtain ⟨ieI, hiI, hzI0, hzI1, _⟩ := info_parts infoIn
  go_enter Try.func6, Try.ntmps6
  go_wp2_with fail
  refine BF.mono ?_
  rintro e z ⟨rfl, bz⟩
  clear BF
  obtain ⟨fb, hfb⟩ : ∃ fb, Hid (fb = z.heap.size) := ⟨_, rfl⟩
  have BZ : Below w.heap.size w (z.alloc (.cells #[.int .u16 385, .int .i64 1, .int .u8 1, .int .u8 0, .int .u8 0, .int .u8 0, .int .u8 0, .int .u8 0, .int .u8 0, .int .u8 0, .bool false] 27)).drew := Below.drew (Below.al bz _)
  have KS : Hid (∀ x, Below (z.alloc (.cells #[.int .u16 385, .int .i64 1, .int .u8 1, .int .u8 0, .int .u8 0, .int .u8 0, .int .u8 0, .int .u8 0, .int .u8 0, .int .u8 0, .bool false] 27)).drew.heap.size (z.alloc (.cells #[.int .u16 385, .int .i64 1, .int .u8 1, .int .u8 0, .int .u8 0, .int .u8 0, .int .u8 0, .int .u8 0, .int .u8 0, .int .u8 0, .bool false] 27)).drew x → x.cell? ⟨fb, 0, none⟩ = some (.int .u16 385) ∧ x.cell? ⟨fb, 1, none⟩ = some (.int .i64 1) ∧ x.cell? ⟨fb, 2, none⟩ = some (.int .u8 1) ∧ x.cell? ⟨fb, 3, none⟩ = some (.int .u8 0) ∧ x.cell? ⟨fb, 4, none⟩ = some (.int .u8 0) ∧ x.cell? ⟨fb, 5, none⟩ = some (.int .u8 0) ∧ x.cell? ⟨fb, 6, none⟩ = some (.int .u8 0) ∧ x.cell? ⟨fb, 7, none⟩ = some (.int .u8 0) ∧ x.cell? ⟨fb, 8, none⟩ = some (.int .u8 0) ∧ x.cell? ⟨fb, 9, none⟩ = some (.int .u8 0) ∧ x.cell? ⟨fb, 10, none⟩ = some (.bool false)) := fun x hx => by
    have hb : x.heap[fb]? = some (.cells #[.int .u16 385, .int .i64 1, .int .u8 1, .int .u8 0, .int .u8 0, .int .u8 0, .int .u8 0, .int .u8 0, .int .u8 0, .int .u8 0, .bool false] 27 (0, 0)) := by rw [hfb.out]; exact (hx.block z.heap.size (by simp)).trans (heap_alloc_last z _)
    exact ⟨by rw [cell_of_row x _ 0 _ _ _ hb]; rfl, by rw [cell_of_row x _ 1 _ _ _ hb]; rfl, by rw [cell_of_row x _ 2 _ _ _ hb]; rfl, by rw [cell_of_row x _ 3 _ _ _ hb]; rfl, by rw [cell_of_row x _ 4 _ _ _ hb]; rfl, by rw [cell_of_row x _ 5 _ _ _ hb]; rfl, by rw [cell_of_row x _ 6 _ _ _ hb]; rfl, by rw [cell_of_row x _ 7 _ _ _ hb]; rfl, by rw [cell_of_row x _ 8 _ _ _ hb]; rfl, by rw [cell_of_row x _ 9 _ _ _ hb]; rfl, by rw [cell_of_row x _ 10 _ _ _ hb]; rfl⟩
  clear bz
  go_wp2_with fail
  rw [← hfb.out]
  refine wp_region_held_drew (S := fun x => x.cell? ⟨fb, 0, none⟩ = some (.int .u16 385) ∧ x.cell? ⟨fb, 1, none⟩ = some (.int .i64 1) ∧ x.cell? ⟨fb, 2, none⟩ = some (.int .u8 1) ∧ x.cell? ⟨fb, 3, none⟩ = some (.int .u8 0) ∧ x.cell? ⟨fb, 4, none⟩ = some (.int .u8 0) ∧ x.cell? ⟨fb, 5, none⟩ = some (.int .u8 0) ∧ x.cell? ⟨fb, 6, none⟩ = some (.int .u8 0) ∧ x.cell? ⟨fb, 7, none⟩ = some (.int .u8 0) ∧ x.cell? ⟨fb, 8, none⟩ = some (.int .u8 0) ∧ x.cell? ⟨fb, 9, none⟩ = some (.int .u8 0) ∧ x.cell? ⟨fb, 10, none⟩ = some (.bool false)) (by kernel_rfl) (KS.out _ (Below.refl _ _)) (fun hHeld => ?_)
  refine wpAnyH_take (i := 0) (v := (.agg #[.int .u16 385, .int .i64 1, .int .u8 1, .int .u8 0, .int .u8 0, .int .u8 0, .int .u8 0, .int .u8 0, .int .u8 0, .int .u8 0, .bool false])) rfl (by kernel_rfl) (by kernel_rfl) (by kernel_rfl) (fun _ _ _ h => h) (Or.inl ⟨by rfl, ?_⟩) (by assumption) ?_
  · intro w9 hSw
    try dsimp only at hSw
    go_simp
    all_goals try decide
    all_goals try assumption
  try simp only [Act.put, List.getElem_toArray, List.getElem_cons_succ, List.getElem_cons_zero, List.setIfInBounds_toArray, List.set_cons_zero, List.set_cons_succ]
  refine wpAnyH_take (i := 1) (v := (.agg #[.int .i64 0, .int .i64 1, .int .u16 385, .int .i64 1, .int .u8 1, .int .u8 0, .int .u8 0, .int .u8 0, .int .u8 0, .int .u8 0, .int .u8 0, .int .u8 0, .bool false, .int .i64 0])) rfl (by kernel_rfl) (by kernel_rfl) (by kernel_rfl) (fun _ _ _ h => h) (Or.inl ⟨by rfl, ?_⟩) (by assumption) ?_
  · intro w9 hSw
    try dsimp only at hSw
    go_simp
    all_goals try decide
    all_goals try assumption
  try simp only [Act.put, List.getElem_toArray, List.getElem_cons_succ, List.getElem_cons_zero, List.setIfInBounds_toArray, List.set_cons_zero, List.set_cons_succ]
  refine wpAnyH_take (i := 2) (v := (.agg #[.int .u16 128, .int .i64 0, .int .u8 0, .int .u8 0, .int .u8 0, .int .u8 0, .int .u8 0, .int .u8 0, .int .u8 0, .int .u8 0, .bool false])) rfl (by kernel_rfl) (by kernel_rfl) (by kernel_rfl) (fun _ _ _ h => h) (Or.inl ⟨by rfl, ?_⟩) (by assumption) ?_
  · intro w9 hSw
    try dsimp only at hSw
    go_simp
    all_goals try decide
    all_goals try assumption
  try simp only [Act.put, List.getElem_toArray, List.getElem_cons_succ, List.getElem_cons_zero, List.setIfInBounds_toArray, List.set_cons_zero, List.set_cons_succ]
  refine wpAnyH_take (i := 3) (v := (.agg #[.int .i64 0, .int .i64 2, .int .u16 128, .int .i64 0, .int .u8 0, .int .u8 0, .int .u8 0, .int .u8 0, .int .u8 0, .int .u8 0, .int .u8 0, .int .u8 0, .bool false, .int .i64 0])) rfl (by kernel_rfl) (by kernel_rfl) (by kernel_rfl) (fun _ _ _ h => h) (Or.inl ⟨by rfl, ?_⟩) (by assumption) ?_
  · intro w9 hSw
    try dsimp only at hSw
    go_simp
    all_goals try decide
    all_goals try assumption
  try simp only [Act.put, List.getElem_toArray, List.getElem_cons_succ, List.getElem_cons_zero, List.setIfInBounds_toArray, List.set_cons_zero, List.set_cons_succ]
  refine wpAnyH_take (i := 6) (v := (.agg #[.int .i64 5, .int .i64 0, .int .u16 0, .int .i64 0, .int .u8 0, .int .u8 0, .int .u8 0, .int .u8 0, .int .u8 0, .int .u8 0, .int .u8 0, .int .u8 0, .bool false, .int .i64 0])) rfl (by kernel_rfl) (by kernel_rfl) (by kernel_rfl) (fun _ _ _ h => h) (Or.inl ⟨by rfl, ?_⟩) (by assumption) ?_
  · intro w9 hSw
    try dsimp only at hSw
    go_simp
    all_goals try decide
    all_goals try assumption
  try simp only [Act.put, List.getElem_toArray, List.getElem_cons_succ, List.getElem_cons_zero, List.setIfInBounds_toArray, List.set_cons_zero, List.set_cons_succ]
  refine wpAnyH_take (i := 7) (v := (.agg #[.int .i64 2, .int .i64 0, .int .u16 0, .int .i64 0, .int .u8 0, .int .u8 0, .int .u8 0, .int .u8 0, .int .u8 0, .int .u8 0, .int .u8 0, .int .u8 0, .bool false, .int .i64 0])) rfl (by kernel_rfl) (by kernel_rfl) (by kernel_rfl) (fun _ _ _ h => h) (Or.inl ⟨by rfl, ?_⟩) (by assumption) ?_
  · intro w9 hSw
    try dsimp only at hSw
    go_simp
    all_goals try decide
    all_goals try assumption
  try simp only [Act.put, List.getElem_toArray, List.getElem_cons_succ, List.getElem_cons_zero, List.setIfInBounds_toArray, List.set_cons_zero, List.set_cons_succ]
  refine wpAnyH_take (i := 8) (v := (.agg #[.int .i64 2, .int .i64 0, .int .u16 0, .int .i64 0, .int .u8 0, .int .u8 0, .int .u8 0, .int .u8 0, .int .u8 0, .int .u8 0, .int .u8 0, .int .u8 0, .bool false, .int .i64 0])) rfl (by kernel_rfl) (by kernel_rfl) (by kernel_rfl) (fun _ _ _ h => h) (Or.inl ⟨by rfl, ?_⟩) (by assumption) ?_
  · intro w9 hSw
    try dsimp only at hSw
    go_simp
    all_goals try decide
    all_goals try assumption
  try simp only [Act.put, List.getElem_toArray, List.getElem_cons_succ, List.getElem_cons_zero, List.setIfInBounds_toArray, List.set_cons_zero, List.set_cons_succ]
  refine wpAnyH_take (i := 9) (v := (.agg #[.int .i64 2, .int .i64 0, .int .u16 0, .int .i64 0, .int .u8 0, .int .u8 0, .int .u8 0, .int .u8 0, .int .u8 0, .int .u8 0, .int .u8 0, .int .u8 0, .bool false, .int .i64 0])) rfl (by kernel_rfl) (by kernel_rfl) (by kernel_rfl) (fun _ _ _ h => h) (Or.inl ⟨by rfl, ?_⟩) (by assumption) ?_
  · intro w9 hSw
    try dsimp only at hSw
    go_simp
    all_goals try decide
    all_goals try assumption
  try simp only [Act.put, List.getElem_toArray, List.getElem_cons_succ, List.getElem_cons_zero, List.setIfInBounds_toArray, List.set_cons_zero, List.set_cons_succ]
  refine wpAnyH_take (i := 10) (v := (.agg #[.int .i64 2, .int .i64 0, .int .u16 0, .int .i64 0, .int .u8 0, .int .u8 0, .int .u8 0, .int .u8 0, .int .u8 0, .int .u8 0, .int .u8 0, .int .u8 0, .bool false, .int .i64 0])) rfl (by kernel_rfl) (by kernel_rfl) (by kernel_rfl) (fun _ _ _ h => h) (Or.inl ⟨by rfl, ?_⟩) (by assumption) ?_
  · intro w9 hSw
    try dsimp only at hSw
    go_simp
    all_goals try decide
    all_goals try assumption
  try simp only [Act.put, List.getElem_toArray, List.getElem_cons_succ, List.getElem_cons_zero, List.setIfInBounds_toArray, List.set_cons_zero, List.set_cons_succ]
  refine wpAnyH_take (i := 11) (v := (.agg #[.int .u16 385, .int .i64 0, .int .u8 0, .int .u8 0, .int .u8 0, .int .u8 0, .int .u8 0, .int .u8 0, .int .u8 0, .int .u8 0, .bool true])) rfl (by kernel_rfl) (by kernel_rfl) (by kernel_rfl) (fun _ _ _ h => h) (Or.inl ⟨by rfl, ?_⟩) (by assumption) ?_
  · intro w9 hSw
    try dsimp only at hSw
    go_simp
    all_goals try decide
    all_goals try assumption
  try simp only [Act.put, List.getElem_toArray, List.getElem_cons_succ, List.getElem_cons_zero, List.setIfInBounds_toArray, List.set_cons_zero, List.set_cons_succ]
  refine wpAnyH_take (i := 12) (v := (.agg #[.int .i64 0, .int .i64 1, .int .u16 385, .int .i64 0, .int .u8 0, .int .u8 0, .int .u8 0, .int .u8 0, .int .u8 0, .int .u8 0, .int .u8 0, .int .u8 0, .bool true, .int .i64 0])) rfl (by kernel_rfl) (by kernel_rfl) (by kernel_rfl) (fun _ _ _ h => h) (Or.inl ⟨by rfl, ?_⟩) (by assumption) ?_
  · intro w9 hSw
    try dsimp only at hSw
    go_simp
    all_goals try decide
    all_goals try assumption
  try simp only [Act.put, List.getElem_toArray, List.getElem_cons_succ, List.getElem_cons_zero, List.setIfInBounds_toArray, List.set_cons_zero, List.set_cons_succ]
  refine wpAnyH_take (i := 13) (v := (.agg #[.int .u16 385, .int .i64 1, .int .u8 1, .int .u8 0, .int .u8 0, .int .u8 0, .int .u8 0, .int .u8 0, .int .u8 0, .int .u8 0, .bool false])) rfl (by kernel_rfl) (by kernel_rfl) (by kernel_rfl) (fun _ _ _ h => h) (Or.inl ⟨by rfl, ?_⟩) (by assumption) ?_
  · intro w9 hSw
    try dsimp only at hSw
    go_simp
    all_goals try decide
    all_goals try assumption
  try simp only [Act.put, List.getElem_toArray, List.getElem_cons_succ, List.getElem_cons_zero, List.setIfInBounds_toArray, List.set_cons_zero, List.set_cons_succ]
  refine wpAnyH_take (i := 14) (v := (.agg #[.int .i64 0, .int .i64 3, .int .u16 385, .int .i64 1, .int .u8 1, .int .u8 0, .int .u8 0, .int .u8 0, .int .u8 0, .int .u8 0, .int .u8 0, .int .u8 0, .bool false, .int .i64 0])) rfl (by kernel_rfl) (by kernel_rfl) (by kernel_rfl) (fun _ _ _ h => h) (Or.inl ⟨by rfl, ?_⟩) (by assumption) ?_
  · intro w9 hSw
    try dsimp only at hSw
    go_simp
    all_goals try decide
    all_goals try assumption
  try simp only [Act.put, List.getElem_toArray, List.getElem_cons_succ, List.getElem_cons_zero, List.setIfInBounds_toArray, List.set_cons_zero, List.set_cons_succ]
  refine wpAnyH_take (i := 15) (v := (.agg #[.int .i64 2, .int .i64 0, .int .u16 0, .int .i64 0, .int .u8 0, .int .u8 0, .int .u8 0, .int .u8 0, .int .u8 0, .int .u8 0, .int .u8 0, .int .u8 0, .bool false, .int .i64 0])) rfl (by kernel_rfl) (by kernel_rfl) (by kernel_rfl) (fun _ _ _ h => h) (Or.inl ⟨by rfl, ?_⟩) (by assumption) ?_
  · intro w9 hSw
    try dsimp only at hSw
    go_simp
    all_goals try decide
    all_goals try assumption
  try simp only [Act.put, List.getElem_toArray, List.getElem_cons_succ, List.getElem_cons_zero, List.setIfInBounds_toArray, List.set_cons_zero, List.set_cons_succ]
  refine wpAnyH_take (i := 16) (v := (.agg #[.int .i64 4, .int .i64 1, .int .u16 0, .int .i64 0, .int .u8 0, .int .u8 0, .int .u8 0, .int .u8 0, .int .u8 0, .int .u8 0, .int .u8 0, .int .u8 0, .bool false, .int .i64 0])) rfl (by kernel_rfl) (by kernel_rfl) (by kernel_rfl) (fun _ _ _ h => h) (Or.inl ⟨by rfl, ?_⟩) (by assumption) ?_
  · intro w9 hSw
    try dsimp only at hSw
    go_simp
    all_goals try decide
    all_goals try assumption
  try simp only [Act.put, List.getElem_toArray, List.getElem_cons_succ, List.getElem_cons_zero, List.setIfInBounds_toArray, List.set_cons_zero, List.set_cons_succ]
  refine wpAnyH_take (i := 17) (v := (.agg #[.int .i64 4, .int .i64 1, .int .u16 0, .int .i64 0, .int .u8 0, .int .u8 0, .int .u8 0, .int .u8 0, .int .u8 0, .int .u8 0, .int .u8 0, .int .u8 0, .bool false, .int .i64 0])) rfl (by kernel_rfl) (by kernel_rfl) (by kernel_rfl) (fun _ _ _ h => h) (Or.inl ⟨by rfl, ?_⟩) (by assumption) ?_
  · intro w9 hSw
    try dsimp only at hSw
    go_simp
    all_goals try decide
    all_goals try assumption
  try simp only [Act.put, List.getElem_toArray, List.getElem_cons_succ, List.getElem_cons_zero, List.setIfInBounds_toArray, List.set_cons_zero, List.set_cons_succ]
  refine wpAnyH_take (i := 18) (v := (.agg #[.int .u16 385, .int .i64 1, .int .u8 1, .int .u8 0, .int .u8 0, .int .u8 0, .int .u8 0, .int .u8 0, .int .u8 0, .int .u8 0, .bool false])) rfl (by kernel_rfl) (by kernel_rfl) (by kernel_rfl) (fun _ _ _ h => h) (Or.inl ⟨by rfl, ?_⟩) (by assumption) ?_
  · intro w9 hSw
    try dsimp only at hSw
    go_simp
    all_goals try decide
    all_goals try assumption
  try simp only [Act.put, List.getElem_toArray, List.getElem_cons_succ, List.getElem_cons_zero, List.setIfInBounds_toArray, List.set_cons_zero, List.set_cons_succ]
  refine wpAnyH_take (i := 19) (v := (.agg #[.int .i64 0, .int .i64 (-1), .int .u16 385, .int .i64 1, .int .u8 1, .int .u8 0, .int .u8 0, .int .u8 0, .int .u8 0, .int .u8 0, .int .u8 0, .int .u8 0, .bool false, .int .i64 0])) rfl (by kernel_rfl) (by kernel_rfl) (by kernel_rfl) (fun _ _ _ h => h) (Or.inl ⟨by rfl, ?_⟩) (by assumption) ?_
  · intro w9 hSw
    try dsimp only at hSw
    go_simp
    all_goals try decide
    all_goals try assumption
  try simp only [Act.put, List.getElem_toArray, List.getElem_cons_succ, List.getElem_cons_zero, List.setIfInBounds_toArray, List.set_cons_zero, List.set_cons_succ]
  refine wpAnyH_take (i := 20) (v := (.agg #[.int .u16 2048, .int .i64 0, .int .u8 0, .int .u8 0, .int .u8 0, .int .u8 0, .int .u8 0, .int .u8 0, .int .u8 0, .int .u8 0, .bool false])) rfl (by kernel_rfl) (by kernel_rfl) (by kernel_rfl) (fun _ _ _ h => h) (Or.inl ⟨by rfl, ?_⟩) (by assumption) ?_
  · intro w9 hSw
    try dsimp only at hSw
    go_simp
    all_goals try decide
    all_goals try assumption
  try simp only [Act.put, List.getElem_toArray, List.getElem_cons_succ, List.getElem_cons_zero, List.setIfInBounds_toArray, List.set_cons_zero, List.set_cons_succ]
  refine wpAnyH_take (i := 21) (v := (.agg #[.int .i64 0, .int .i64 1, .int .u16 2048, .int .i64 0, .int .u8 0, .int .u8 0, .int .u8 0, .int .u8 0, .int .u8 0, .int .u8 0, .int .u8 0, .int .u8 0, .bool false, .int .i64 0])) rfl (by kernel_rfl) (by kernel_rfl) (by kernel_rfl) (fun _ _ _ h => h) (Or.inl ⟨by rfl, ?_⟩) (by assumption) ?_
  · intro w9 hSw
    try dsimp only at hSw
    go_simp
    all_goals try decide
    all_goals try assumption
  try simp only [Act.put, List.getElem_toArray, List.getElem_cons_succ, List.getElem_cons_zero, List.setIfInBounds_toArray, List.set_cons_zero, List.set_cons_succ]
  refine wpAnyH_take (i := 22) (v := (.agg #[.int .u16 2048, .int .i64 0, .int .u8 0, .int .u8 0, .int .u8 0, .int .u8 0, .int .u8 0, .int .u8 0, .int .u8 0, .int .u8 0, .bool false])) rfl (by kernel_rfl) (by kernel_rfl) (by kernel_rfl) (fun _ _ _ h => h) (Or.inl ⟨by rfl, ?_⟩) (by assumption) ?_
  · intro w9 hSw
    try dsimp only at hSw
    go_simp
    all_goals try decide
    all_goals try assumption
  try simp only [Act.put, List.getElem_toArray, List.getElem_cons_succ, List.getElem_cons_zero, List.setIfInBounds_toArray, List.set_cons_zero, List.set_cons_succ]
  refine wpAnyH_take (i := 23) (v := (.agg #[.int .i64 0, .int .i64 (-1), .int .u16 2048, .int .i64 0, .int .u8 0, .int .u8 0, .int .u8 0, .int .u8 0, .int .u8 0, .int .u8 0, .int .u8 0, .int .u8 0, .bool false, .int .i64 0])) rfl (by kernel_rfl) (by kernel_rfl) (by kernel_rfl) (fun _ _ _ h => h) (Or.inl ⟨by rfl, ?_⟩) (by assumption) ?_
  · intro w9 hSw
    try dsimp only at hSw
    go_simp
    all_goals try decide
    all_goals try assumption
  try simp only [Act.put, List.getElem_toArray, List.getElem_cons_succ, List.getElem_cons_zero, List.setIfInBounds_toArray, List.set_cons_zero, List.set_cons_succ]
  refine wpAnyH_take (i := 24) (v := (.agg #[.int .u16 385, .int .i64 1, .int .u8 1, .int .u8 0, .int .u8 0, .int .u8 0, .int .u8 0, .int .u8 0, .int .u8 0, .int .u8 0, .bool false])) rfl (by kernel_rfl) (by kernel_rfl) (by kernel_rfl) (fun _ _ _ h => h) (Or.inl ⟨by rfl, ?_⟩) (by assumption) ?_
  · intro w9 hSw
    try dsimp only at hSw
    go_simp
    all_goals try decide
    all_goals try assumption
  try simp only [Act.put, List.getElem_toArray, List.getElem_cons_succ, List.getElem_cons_zero, List.setIfInBounds_toArray, List.set_cons_zero, List.set_cons_succ]
  refine wpAnyH_take (i := 25) (v := (.agg #[.int .i64 0, .int .i64 9223372036854775807, .int .u16 385, .int .i64 1, .int .u8 1, .int .u8 0, .int .u8 0, .int .u8 0, .int .u8 0, .int .u8 0, .int .u8 0, .int .u8 0, .bool false, .int .i64 510])) rfl (by kernel_rfl) (by kernel_rfl) (by kernel_rfl) (fun _ _ _ h => h) (Or.inl ⟨by rfl, ?_⟩) (by assumption) ?_
  · intro w9 hSw
    try dsimp only at hSw
    go_simp
    all_goals try decide
    all_goals try assumption
  try simp only [Act.put, List.getElem_toArray, List.getElem_cons_succ, List.getElem_cons_zero, List.setIfInBounds_toArray, List.set_cons_zero, List.set_cons_succ]
  refine wpAnyH_take (i := 26) (v := (.agg #[.int .u16 385, .int .i64 1, .int .u8 1, .int .u8 0, .int .u8 0, .int .u8 0, .int .u8 0, .int .u8 0, .int .u8 0, .int .u8 0, .bool false])) rfl (by kernel_rfl) (by kernel_rfl) (by kernel_rfl) (fun _ _ _ h => h) (Or.inl ⟨by rfl, ?_⟩) (by assumption) ?_
  · intro w9 hSw
    try dsimp only at hSw
    go_simp
    all_goals try decide
    all_goals try assumption
  try simp only [Act.put, List.getElem_toArray, List.getElem_cons_succ, List.getElem_cons_zero, List.setIfInBounds_toArray, List.set_cons_zero, List.set_cons_succ]
  refine wpAnyH_take (i := 27) (v := (.agg #[.int .i64 0, .int .i64 1, .int .u16 385, .int .i64 1, .int .u8 1, .int .u8 0, .int .u8 0, .int .u8 0, .int .u8 0, .int .u8 0, .int .u8 0, .int .u8 0, .bool false, .int .i64 0])) rfl (by kernel_rfl) (by kernel_rfl) (by kernel_rfl) (fun _ _ _ h => h) (Or.inl ⟨by rfl, ?_⟩) (by assumption) ?_
  · intro w9 hSw
    try dsimp only at hSw
    go_simp
    all_goals try decide
    all_goals try assumption
  try simp only [Act.put, List.getElem_toArray, List.getElem_cons_succ, List.getElem_cons_zero, List.setIfInBounds_toArray, List.set_cons_zero, List.set_cons_succ]
  refine wpAnyH_take (i := 28) (v := (.agg #[.int .u16 385, .int .i64 1, .int .u8 1, .int .u8 0, .int .u8 0, .int .u8 0, .int .u8 0, .int .u8 0, .int .u8 0, .int .u8 0, .bool false])) rfl (by kernel_rfl) (by kernel_rfl) (by kernel_rfl) (fun _ _ _ h => h) (Or.inl ⟨by rfl, ?_⟩) (by assumption) ?_
  · intro w9 hSw
    try dsimp only at hSw
    go_simp
    all_goals try decide
    all_goals try assumption
  try simp only [Act.put, List.getElem_toArray, List.getElem_cons_succ, List.getElem_cons_zero, List.setIfInBounds_toArray, List.set_cons_zero, List.set_cons_succ]
  refine wpAnyH_take (i := 29) (v := (.agg #[.int .i64 0, .int .i64 1, .int .u16 385, .int .i64 1, .int .u8 1, .int .u8 0, .int .u8 0, .int .u8 0, .int .u8 0, .int .u8 0, .int .u8 0, .int .u8 0, .bool false, .int .i64 0])) rfl (by kernel_rfl) (by kernel_rfl) (by kernel_rfl) (fun _ _ _ h => h) (Or.inl ⟨by rfl, ?_⟩) (by assumption) ?_
  · intro w9 hSw
    try dsimp only at hSw
    go_simp
    all_goals try decide
    all_goals try assumption
  try simp only [Act.put, List.getElem_toArray, List.getElem_cons_succ, List.getElem_cons_zero, List.setIfInBounds_toArray, List.set_cons_zero, List.set_cons_succ]
  refine wpAnyH_take (i := 30) (v := (.agg #[.int .u16 0, .int .i64 9, .int .u8 0, .int .u8 0, .int .u8 0, .int .u8 0, .int .u8 0, .int .u8 0, .int .u8 0, .int .u8 0, .bool false])) rfl (by kernel_rfl) (by kernel_rfl) (by kernel_rfl) (fun _ _ _ h => h) (Or.inl ⟨by rfl, ?_⟩) (by assumption) ?_
  · intro w9 hSw
    try dsimp only at hSw
    go_simp
    all_goals try decide
    all_goals try assumption
  try simp only [Act.put, List.getElem_toArray, List.getElem_cons_succ, List.getElem_cons_zero, List.setIfInBounds_toArray, List.set_cons_zero, List.set_cons_succ]
  refine wpAnyH_take (i := 31) (v := (.agg #[.int .i64 0, .int .i64 1, .int .u16 0, .int .i64 9, .int .u8 0, .int .u8 0, .int .u8 0, .int .u8 0, .int .u8 0, .int .u8 0, .int .u8 0, .int .u8 0, .bool false, .int .i64 0])) rfl (by kernel_rfl) (by kernel_rfl) (by kernel_rfl) (fun _ _ _ h => h) (Or.inl ⟨by rfl, ?_⟩) (by assumption) ?_
  · intro w9 hSw
    try dsimp only at hSw
    go_simp
    all_goals try decide
    all_goals try assumption
  try simp only [Act.put, List.getElem_toArray, List.getElem_cons_succ, List.getElem_cons_zero, List.setIfInBounds_toArray, List.set_cons_zero, List.set_cons_succ]
  refine wpAnyH_take (i := 32) (v := (.agg #[.int .i64 2, .int .i64 0, .int .u16 0, .int .i64 0, .int .u8 0, .int .u8 0, .int .u8 0, .int .u8 0, .int .u8 0, .int .u8 0, .int .u8 0, .int .u8 0, .bool false, .int .i64 0])) rfl (by kernel_rfl) (by kernel_rfl) (by kernel_rfl) (fun _ _ _ h => h) (Or.inl ⟨by rfl, ?_⟩) (by assumption) ?_
  · intro w9 hSw
    try dsimp only at hSw
    go_simp
    all_goals try decide
    all_goals try assumption
  try simp only [Act.put, List.getElem_toArray, List.getElem_cons_succ, List.getElem_cons_zero, List.setIfInBounds_toArray, List.set_cons_zero, List.set_cons_succ]
  refine wpAnyH_take (i := 33) (v := (.agg #[.int .u16 385, .int .i64 1, .int .u8 1, .int .u8 0, .int .u8 0, .int .u8 0, .int .u8 0, .int .u8 0, .int .u8 0, .int .u8 0, .bool false])) rfl (by kernel_rfl) (by kernel_rfl) (by kernel_rfl) (fun _ _ _ h => h) (Or.inl ⟨by rfl, ?_⟩) (by assumption) ?_
  · intro w9 hSw
    try dsimp only at hSw
    go_simp
    all_goals try decide
    all_goals try assumption
  try simp only [Act.put, List.getElem_toArray, List.getElem_cons_succ, List.getElem_cons_zero, List.setIfInBounds_toArray, List.set_cons_zero, List.set_cons_succ]
  refine wpAnyH_take (i := 34) (v := (.agg #[.int .i64 0, .int .i64 1, .int .u16 385, .int .i64 1, .int .u8 1, .int .u8 0, .int .u8 0, .int .u8 0, .int .u8 0, .int .u8 0, .int .u8 0, .int .u8 0, .bool false, .int .i64 0])) rfl (by kernel_rfl) (by kernel_rfl) (by kernel_rfl) (fun _ _ _ h => h) (Or.inl ⟨by rfl, ?_⟩) (by assumption) ?_
  · intro w9 hSw
    try dsimp only at hSw
    go_simp
    all_goals try decide
    all_goals try assumption
  try simp only [Act.put, List.getElem_toArray, List.getElem_cons_succ, List.getElem_cons_zero, List.setIfInBounds_toArray, List.set_cons_zero, List.set_cons_succ]
  refine wpAnyH_take (i := 35) (v := (.agg #[.int .u16 385, .int .i64 1, .int .u8 1, .int .u8 0, .int .u8 0, .int .u8 0, .int .u8 0, .int .u8 0, .int .u8 0, .int .u8 0, .bool false])) rfl (by kernel_rfl) (by kernel_rfl) (by kernel_rfl) (fun _ _ _ h => h) (Or.inl ⟨by rfl, ?_⟩) (by assumption) ?_
  · intro w9 hSw
    try dsimp only at hSw
    go_simp
    all_goals try decide
    all_goals try assumption
  try simp only [Act.put, List.getElem_toArray, List.getElem_cons_succ, List.getElem_cons_zero, List.setIfInBounds_toArray, List.set_cons_zero, List.set_cons_succ]
  refine wpAnyH_take (i := 36) (v := (.agg #[.int .i64 0, .int .i64 1, .int .u16 385, .int .i64 1, .int .u8 1, .int .u8 0, .int .u8 0, .int .u8 0, .int .u8 0, .int .u8 0, .int .u8 0, .int .u8 0, .bool false, .int .i64 0])) rfl (by kernel_rfl) (by kernel_rfl) (by kernel_rfl) (fun _ _ _ h => h) (Or.inl ⟨by rfl, ?_⟩) (by assumption) ?_
  · intro w9 hSw
    try dsimp only at hSw
    go_simp
    all_goals try decide
    all_goals try assumption
  try simp only [Act.put, List.getElem_toArray, List.getElem_cons_succ, List.getElem_cons_zero, List.setIfInBounds_toArray, List.set_cons_zero, List.set_cons_succ]
  refine wpAnyH_take (i := 37) (v := (.agg #[.int .i64 4, .int .i64 9223372036854775807, .int .u16 0, .int .i64 0, .int .u8 0, .int .u8 0, .int .u8 0, .int .u8 0, .int .u8 0, .int .u8 0, .int .u8 0, .int .u8 0, .bool false, .int .i64 0])) rfl (by kernel_rfl) (by kernel_rfl) (by kernel_rfl) (fun _ _ _ h => h) (Or.inl ⟨by rfl, ?_⟩) (by assumption) ?_
  · intro w9 hSw
    try dsimp only at hSw
    go_simp
    all_goals try decide
    all_goals try assumption
  try simp only [Act.put, List.getElem_toArray, List.getElem_cons_succ, List.getElem_cons_zero, List.setIfInBounds_toArray, List.set_cons_zero, List.set_cons_succ]
  refine wpAnyH_ready (rs := [4]) (by kernel_rfl) (by simp) ?_
  refine AllReadyH.cons rfl (fun K' hK => ?_) AllReadyH.nil
  rw [if_pos (by rfl)]
  simp only [List.getElem_toArray, List.getElem_cons_succ, List.getElem_cons_zero]
  go_wp2_with fail
  refine (byteFrame_any 385 2 _).mono ?_
  rintro e z2 ⟨rfl, b2⟩
  try go_wp2_with fail
  refine hK.out _ _ (KS.out _ b2) (fun hHeld => ?_)
  clear hK K'
  try simp only [Act.put, List.getElem_toArray, List.getElem_cons_succ, List.getElem_cons_zero, List.setIfInBounds_toArray, List.set_cons_zero, List.set_cons_succ]
  refine wpAnyH_take (i := 5) (v := (.agg #[.int .i64 0, .int .i64 1, .int .u16 385, .int .i64 1, .int .u8 2, .int .u8 0, .int .u8 0, .int .u8 0, .int .u8 0, .int .u8 0, .int .u8 0, .int .u8 0, .bool false, .int .i64 0])) rfl (by kernel_rfl) (by kernel_rfl) (by kernel_rfl) (fun _ _ _ h => h) (Or.inl ⟨by rfl, ?_⟩) (by assumption) ?_
  · intro w9 hSw
    try dsimp only at hSw
    go_simp
    all_goals try decide
    all_goals try assumption
  try simp only [Act.put, List.getElem_toArray, List.getElem_cons_succ, List.getElem_cons_zero, List.setIfInBounds_toArray, List.set_cons_zero, List.set_cons_succ]
  refine wpAnyH_ready (rs := [38]) (by kernel_rfl) (by simp) ?_
  refine AllReadyH.cons rfl (fun K' hK => ?_) AllReadyH.nil
  rw [if_pos (by rfl)]
  simp only [List.getElem_toArray, List.getElem_cons_succ, List.getElem_cons_zero]
  refine wp_buildSlice 22 29 24 _ rfl #[.int .i64 0, .int .i64 1, .int .u16 385, .int .i64 1, .int .u8 1, .int .u8 0, .int .u8 0, .int .u8 0, .int .u8 0, .int .u8 0, .int .u8 0, .int .u8 0, .bool false, .int .i64 0, .int .i64 0, .int .i64 2, .int .u16 128, .int .i64 0, .int .u8 0, .int .u8 0, .int .u8 0, .int .u8 0, .int .u8 0, .int .u8 0, .int .u8 0, .int .u8 0, .bool false, .int .i64 0, .int .i64 0, .int .i64 1, .int .u16 385, .int .i64 1, .int .u8 2, .int .u8 0, .int .u8 0, .int .u8 0, .int .u8 0, .int .u8 0, .int .u8 0, .int .u8 0, .bool false, .int .i64 0, .int .i64 5, .int .i64 0, .int .u16 0, .int .i64 0, .int .u8 0, .int .u8 0, .int .u8 0, .int .u8 0, .int .u8 0, .int .u8 0, .int .u8 0, .int .u8 0, .bool false, .int .i64 0, .int .i64 2, .int .i64 0, .int .u16 0, .int .i64 0, .int .u8 0, .int .u8 0, .int .u8 0, .int .u8 0, .int .u8 0, .int .u8 0, .int .u8 0, .int .u8 0, .bool false, .int .i64 0, .int .i64 2, .int .i64 0, .int .u16 0, .int .i64 0, .int .u8 0, .int .u8 0, .int .u8 0, .int .u8 0, .int .u8 0, .int .u8 0, .int .u8 0, .int .u8 0, .bool false, .int .i64 0, .int .i64 2, .int .i64 0, .int .u16 0, .int .i64 0, .int .u8 0, .int .u8 0, .int .u8 0, .int .u8 0, .int .u8 0, .int .u8 0, .int .u8 0, .int .u8 0, .bool false, .int .i64 0, .int .i64 2, .int .i64 0, .int .u16 0, .int .i64 0, .int .u8 0, .int .u8 0, .int .u8 0, .int .u8 0, .int .u8 0, .int .u8 0, .int .u8 0, .int .u8 0, .bool false, .int .i64 0, .int .i64 0, .int .i64 1, .int .u16 385, .int .i64 0, .int .u8 0, .int .u8 0, .int .u8 0, .int .u8 0, .int .u8 0, .int .u8 0, .int .u8 0, .int .u8 0, .bool true, .int .i64 0, .int .i64 0, .int .i64 3, .int .u16 385, .int .i64 1, .int .u8 1, .int .u8 0, .int .u8 0, .int .u8 0, .int .u8 0, .int .u8 0, .int .u8 0, .int .u8 0, .bool false, .int .i64 0, .int .i64 2, .int .i64 0, .int .u16 0, .int .i64 0, .int .u8 0, .int .u8 0, .int .u8 0, .int .u8 0, .int .u8 0, .int .u8 0, .int .u8 0, .int .u8 0, .bool false, .int .i64 0, .int .i64 4, .int .i64 1, .int .u16 0, .int .i64 0, .int .u8 0, .int .u8 0, .int .u8 0, .int .u8 0, .int .u8 0, .int .u8 0, .int .u8 0, .int .u8 0, .bool false, .int .i64 0, .int .i64 4, .int .i64 1, .int .u16 0, .int .i64 0, .int .u8 0, .int .u8 0, .int .u8 0, .int .u8 0, .int .u8 0, .int .u8 0, .int .u8 0, .int .u8 0, .bool false, .int .i64 0, .int .i64 0, .int .i64 (-1), .int .u16 385, .int .i64 1, .int .u8 1, .int .u8 0, .int .u8 0, .int .u8 0, .int .u8 0, .int .u8 0, .int .u8 0, .int .u8 0, .bool false, .int .i64 0, .int .i64 0, .int .i64 1, .int .u16 2048, .int .i64 0, .int .u8 0, .int .u8 0, .int .u8 0, .int .u8 0, .int .u8 0, .int .u8 0, .int .u8 0, .int .u8 0, .bool false, .int .i64 0, .int .i64 0, .int .i64 (-1), .int .u16 2048, .int .i64 0, .int .u8 0, .int .u8 0, .int .u8 0, .int .u8 0, .int .u8 0, .int .u8 0, .int .u8 0, .int .u8 0, .bool false, .int .i64 0, .int .i64 0, .int .i64 9223372036854775807, .int .u16 385, .int .i64 1, .int .u8 1, .int .u8 0, .int .u8 0, .int .u8 0, .int .u8 0, .int .u8 0, .int .u8 0, .int .u8 0, .bool false, .int .i64 510, .int .i64 0, .int .i64 1, .int .u16 385, .int .i64 1, .int .u8 1, .int .u8 0, .int .u8 0, .int .u8 0, .int .u8 0, .int .u8 0, .int .u8 0, .int .u8 0, .bool false, .int .i64 0, .int .i64 0, .int .i64 1, .int .u16 385, .int .i64 1, .int .u8 1, .int .u8 0, .int .u8 0, .int .u8 0, .int .u8 0, .int .u8 0, .int .u8 0, .int .u8 0, .bool false, .int .i64 0, .int .i64 0, .int .i64 1, .int .u16 0, .int .i64 9, .int .u8 0, .int .u8 0, .int .u8 0, .int .u8 0, .int .u8 0, .int .u8 0, .int .u8 0, .int .u8 0, .bool false, .int .i64 0, .int .i64 2, .int .i64 0, .int .u16 0, .int .i64 0, .int .u8 0, .int .u8 0, .int .u8 0, .int .u8 0, .int .u8 0, .int .u8 0, .int .u8 0, .int .u8 0, .bool false, .int .i64 0, .int .i64 0, .int .i64 1, .int .u16 385, .int .i64 1, .int .u8 1, .int .u8 0, .int .u8 0, .int .u8 0, .int .u8 0, .int .u8 0, .int .u8 0, .int .u8 0, .bool false, .int .i64 0, .int .i64 0, .int .i64 1, .int .u16 385, .int .i64 1, .int .u8 1, .int .u8 0, .int .u8 0, .int .u8 0, .int .u8 0, .int .u8 0, .int .u8 0, .int .u8 0, .bool false, .int .i64 0, .int .i64 4, .int .i64 9223372036854775807, .int .u16 0, .int .i64 0, .int .u8 0, .int .u8 0, .int .u8 0, .int .u8 0, .int .u8 0, .int .u8 0, .int .u8 0, .int .u8 0, .bool false, .int .i64 0] ieP _ Try.underlying22 hiP hzP0 (by rw [hzP1]; decide) (by rw [hzP1]; decide) (by rw [hzP1]; kernel_rfl) ?_
  refine hK.out _ _ (KS.out _ (Below.andThen b2 (Below.al (Below.refl _ _) _))) (fun hHeld => ?_)
  clear hK K'
  try simp only [Act.put, List.getElem_toArray, List.getElem_cons_succ, List.getElem_cons_zero, List.setIfInBounds_toArray, List.set_cons_zero, List.set_cons_succ]
  refine wpAnyH_take (i := 39) (v := (.slice (some ⟨z2.heap.size, 0, none⟩) 24 24)) rfl (by kernel_rfl) (by kernel_rfl) (by kernel_rfl) (fun _ _ _ h => h) (Or.inl ⟨by rfl, ?_⟩) (by assumption) ?_
  · intro w9 hSw
    try dsimp only at hSw
    go_simp
    all_goals try decide
    all_goals try assumption
  try simp only [Act.put, List.getElem_toArray, List.getElem_cons_succ, List.getElem_cons_zero, List.setIfInBounds_toArray, List.set_cons_zero, List.set_cons_succ]
  refine wpAnyH_done (by kernel_rfl) ?_ _
  obtain ⟨z3, hz3⟩ : ∃ z3, Hid (z3 = z2.alloc (.cells #[.int .i64 0, .int .i64 1, .int .u16 385, .int .i64 1, .int .u8 1, .int .u8 0, .int .u8 0, .int .u8 0, .int .u8 0, .int .u8 0, .int .u8 0, .int .u8 0, .bool false, .int .i64 0, .int .i64 0, .int .i64 2, .int .u16 128, .int .i64 0, .int .u8 0, .int .u8 0, .int .u8 0, .int .u8 0, .int .u8 0, .int .u8 0, .int .u8 0, .int .u8 0, .bool false, .int .i64 0, .int .i64 0, .int .i64 1, .int .u16 385, .int .i64 1, .int .u8 2, .int .u8 0, .int .u8 0, .int .u8 0, .int .u8 0, .int .u8 0, .int .u8 0, .int .u8 0, .bool false, .int .i64 0, .int .i64 5, .int .i64 0, .int .u16 0, .int .i64 0, .int .u8 0, .int .u8 0, .int .u8 0, .int .u8 0, .int .u8 0, .int .u8 0, .int .u8 0, .int .u8 0, .bool false, .int .i64 0, .int .i64 2, .int .i64 0, .int .u16 0, .int .i64 0, .int .u8 0, .int .u8 0, .int .u8 0, .int .u8 0, .int .u8 0, .int .u8 0, .int .u8 0, .int .u8 0, .bool false, .int .i64 0, .int .i64 2, .int .i64 0, .int .u16 0, .int .i64 0, .int .u8 0, .int .u8 0, .int .u8 0, .int .u8 0, .int .u8 0, .int .u8 0, .int .u8 0, .int .u8 0, .bool false, .int .i64 0, .int .i64 2, .int .i64 0, .int .u16 0, .int .i64 0, .int .u8 0, .int .u8 0, .int .u8 0, .int .u8 0, .int .u8 0, .int .u8 0, .int .u8 0, .int .u8 0, .bool false, .int .i64 0, .int .i64 2, .int .i64 0, .int .u16 0, .int .i64 0, .int .u8 0, .int .u8 0, .int .u8 0, .int .u8 0, .int .u8 0, .int .u8 0, .int .u8 0, .int .u8 0, .bool false, .int .i64 0, .int .i64 0, .int .i64 1, .int .u16 385, .int .i64 0, .int .u8 0, .int .u8 0, .int .u8 0, .int .u8 0, .int .u8 0, .int .u8 0, .int .u8 0, .int .u8 0, .bool true, .int .i64 0, .int .i64 0, .int .i64 3, .int .u16 385, .int .i64 1, .int .u8 1, .int .u8 0, .int .u8 0, .int .u8 0, .int .u8 0, .int .u8 0, .int .u8 0, .int .u8 0, .bool false, .int .i64 0, .int .i64 2, .int .i64 0, .int .u16 0, .int .i64 0, .int .u8 0, .int .u8 0, .int .u8 0, .int .u8 0, .int .u8 0, .int .u8 0, .int .u8 0, .int .u8 0, .bool false, .int .i64 0, .int .i64 4, .int .i64 1, .int .u16 0, .int .i64 0, .int .u8 0, .int .u8 0, .int .u8 0, .int .u8 0, .int .u8 0, .int .u8 0, .int .u8 0, .int .u8 0, .bool false, .int .i64 0, .int .i64 4, .int .i64 1, .int .u16 0, .int .i64 0, .int .u8 0, .int .u8 0, .int .u8 0, .int .u8 0, .int .u8 0, .int .u8 0, .int .u8 0, .int .u8 0, .bool false, .int .i64 0, .int .i64 0, .int .i64 (-1), .int .u16 385, .int .i64 1, .int .u8 1, .int .u8 0, .int .u8 0, .int .u8 0, .int .u8 0, .int .u8 0, .int .u8 0, .int .u8 0, .bool false, .int .i64 0, .int .i64 0, .int .i64 1, .int .u16 2048, .int .i64 0, .int .u8 0, .int .u8 0, .int .u8 0, .int .u8 0, .int .u8 0, .int .u8 0, .int .u8 0, .int .u8 0, .bool false, .int .i64 0, .int .i64 0, .int .i64 (-1), .int .u16 2048, .int .i64 0, .int .u8 0, .int .u8 0, .int .u8 0, .int .u8 0, .int .u8 0, .int .u8 0, .int .u8 0, .int .u8 0, .bool false, .int .i64 0, .int .i64 0, .int .i64 9223372036854775807, .int .u16 385, .int .i64 1, .int .u8 1, .int .u8 0, .int .u8 0, .int .u8 0, .int .u8 0, .int .u8 0, .int .u8 0, .int .u8 0, .bool false, .int .i64 510, .int .i64 0, .int .i64 1, .int .u16 385, .int .i64 1, .int .u8 1, .int .u8 0, .int .u8 0, .int .u8 0, .int .u8 0, .int .u8 0, .int .u8 0, .int .u8 0, .bool false, .int .i64 0, .int .i64 0, .int .i64 1, .int .u16 385, .int .i64 1, .int .u8 1, .int .u8 0, .int .u8 0, .int .u8 0, .int .u8 0, .int .u8 0, .int .u8 0, .int .u8 0, .bool false, .int .i64 0, .int .i64 0, .int .i64 1, .int .u16 0, .int .i64 9, .int .u8 0, .int .u8 0, .int .u8 0, .int .u8 0, .int .u8 0, .int .u8 0, .int .u8 0, .int .u8 0, .bool false, .int .i64 0, .int .i64 2, .int .i64 0, .int .u16 0, .int .i64 0, .int .u8 0, .int .u8 0, .int .u8 0, .int .u8 0, .int .u8 0, .int .u8 0, .int .u8 0, .int .u8 0, .bool false, .int .i64 0, .int .i64 0, .int .i64 1, .int .u16 385, .int .i64 1, .int .u8 1, .int .u8 0, .int .u8 0, .int .u8 0, .int .u8 0, .int .u8 0, .int .u8 0, .int .u8 0, .bool false, .int .i64 0, .int .i64 0, .int .i64 1, .int .u16 385, .int .i64 1, .int .u8 1, .int .u8 0, .int .u8 0, .int .u8 0, .int .u8 0, .int .u8 0, .int .u8 0, .int .u8 0, .bool false, .int .i64 0, .int .i64 4, .int .i64 9223372036854775807, .int .u16 0, .int .i64 0, .int .u8 0, .int .u8 0, .int .u8 0, .int .u8 0, .int .u8 0, .int .u8 0, .int .u8 0, .int .u8 0, .bool false, .int .i64 0] 29)) := ⟨_, rfl⟩
  rw [← hz3.out]
  obtain ⟨sb, hsb⟩ : ∃ sb, Hid (sb = z2.heap.size) := ⟨_, rfl⟩
  rw [← hsb.out]
  have b3 : Below (z.alloc (.cells #[.int .u16 385, .int .i64 1, .int .u8 1, .int .u8 0, .int .u8 0, .int .u8 0, .int .u8 0, .int .u8 0, .int .u8 0, .int .u8 0, .bool false] 27)).drew.heap.size (z.alloc (.cells #[.int .u16 385, .int .i64 1, .int .u8 1, .int .u8 0, .int .u8 0, .int .u8 0, .int .u8 0, .int .u8 0, .int .u8 0, .int .u8 0, .bool false] 27)).drew z3.drew := by rw [hz3.out]; exact Below.drew (Below.andThen b2 (Below.al (Below.refl _ _) _))
  have IS3 : IsSt z3.drew (some ⟨sb, 0, none⟩) 24 ([⟨0, ⟨1, 385, 1, 1, 0, 0, 0, 0, 0, 0, 0, false, 0⟩, 0⟩, ⟨0, ⟨2, 128, 0, 0, 0, 0, 0, 0, 0, 0, 0, false, 0⟩, 0⟩, ⟨0, ⟨1, 385, 1, 2, 0, 0, 0, 0, 0, 0, 0, false, 0⟩, 0⟩, ⟨5, ⟨0, 0, 0, 0, 0, 0, 0, 0, 0, 0, 0, false, 0⟩, 0⟩, ⟨2, ⟨0, 0, 0, 0, 0, 0, 0, 0, 0, 0, 0, false, 0⟩, 0⟩, ⟨2, ⟨0, 0, 0, 0, 0, 0, 0, 0, 0, 0, 0, false, 0⟩, 0⟩, ⟨2, ⟨0, 0, 0, 0, 0, 0, 0, 0, 0, 0, 0, false, 0⟩, 0⟩, ⟨2, ⟨0, 0, 0, 0, 0, 0, 0, 0, 0, 0, 0, false, 0⟩, 0⟩, ⟨0, ⟨1, 385, 0, 0, 0, 0, 0, 0, 0, 0, 0, true, 0⟩, 0⟩, ⟨0, ⟨3, 385, 1, 1, 0, 0, 0, 0, 0, 0, 0, false, 0⟩, 0⟩, ⟨2, ⟨0, 0, 0, 0, 0, 0, 0, 0, 0, 0, 0, false, 0⟩, 0⟩, ⟨4, ⟨1, 0, 0, 0, 0, 0, 0, 0, 0, 0, 0, false, 0⟩, 0⟩, ⟨4, ⟨1, 0, 0, 0, 0, 0, 0, 0, 0, 0, 0, false, 0⟩, 0⟩, ⟨0, ⟨(-1), 385, 1, 1, 0, 0, 0, 0, 0, 0, 0, false, 0⟩, 0⟩, ⟨0, ⟨1, 2048, 0, 0, 0, 0, 0, 0, 0, 0, 0, false, 0⟩, 0⟩, ⟨0, ⟨(-1), 2048, 0, 0, 0, 0, 0, 0, 0, 0, 0, false, 0⟩, 0⟩, ⟨0, ⟨9223372036854775807, 385, 1, 1, 0, 0, 0, 0, 0, 0, 0, false, 0⟩, 510⟩, ⟨0, ⟨1, 385, 1, 1, 0, 0, 0, 0, 0, 0, 0, false, 0⟩, 0⟩, ⟨0, ⟨1, 385, 1, 1, 0, 0, 0, 0, 0, 0, 0, false, 0⟩, 0⟩, ⟨0, ⟨1, 0, 9, 0, 0, 0, 0, 0, 0, 0, 0, false, 0⟩, 0⟩, ⟨2, ⟨0, 0, 0, 0, 0, 0, 0, 0, 0, 0, 0, false, 0⟩, 0⟩, ⟨0, ⟨1, 385, 1, 1, 0, 0, 0, 0, 0, 0, 0, false, 0⟩, 0⟩, ⟨0, ⟨1, 385, 1, 1, 0, 0, 0, 0, 0, 0, 0, false, 0⟩, 0⟩, ⟨4, ⟨9223372036854775807, 0, 0, 0, 0, 0, 0, 0, 0, 0, 0, false, 0⟩, 0⟩] : List St) := isSt_lit ([⟨0, ⟨1, 385, 1, 1, 0, 0, 0, 0, 0, 0, 0, false, 0⟩, 0⟩, ⟨0, ⟨2, 128, 0, 0, 0, 0, 0, 0, 0, 0, 0, false, 0⟩, 0⟩, ⟨0, ⟨1, 385, 1, 2, 0, 0, 0, 0, 0, 0, 0, false, 0⟩, 0⟩, ⟨5, ⟨0, 0, 0, 0, 0, 0, 0, 0, 0, 0, 0, false, 0⟩, 0⟩, ⟨2, ⟨0, 0, 0, 0, 0, 0, 0, 0, 0, 0, 0, false, 0⟩, 0⟩, ⟨2, ⟨0, 0, 0, 0, 0, 0, 0, 0, 0, 0, 0, false, 0⟩, 0⟩, ⟨2, ⟨0, 0, 0, 0, 0, 0, 0, 0, 0, 0, 0, false, 0⟩, 0⟩, ⟨2, ⟨0, 0, 0, 0, 0, 0, 0, 0, 0, 0, 0, false, 0⟩, 0⟩, ⟨0, ⟨1, 385, 0, 0, 0, 0, 0, 0, 0, 0, 0, true, 0⟩, 0⟩, ⟨0, ⟨3, 385, 1, 1, 0, 0, 0, 0, 0, 0, 0, false, 0⟩, 0⟩, ⟨2, ⟨0, 0, 0, 0, 0, 0, 0, 0, 0, 0, 0, false, 0⟩, 0⟩, ⟨4, ⟨1, 0, 0, 0, 0, 0, 0, 0, 0, 0, 0, false, 0⟩, 0⟩, ⟨4, ⟨1, 0, 0, 0, 0, 0, 0, 0, 0, 0, 0, false, 0⟩, 0⟩, ⟨0, ⟨(-1), 385, 1, 1, 0, 0, 0, 0, 0, 0, 0, false, 0⟩, 0⟩, ⟨0, ⟨1, 2048, 0, 0, 0, 0, 0, 0, 0, 0, 0, false, 0⟩, 0⟩, ⟨0, ⟨(-1), 2048, 0, 0, 0, 0, 0, 0, 0, 0, 0, false, 0⟩, 0⟩, ⟨0, ⟨9223372036854775807, 385, 1, 1, 0, 0, 0, 0, 0, 0, 0, false, 0⟩, 510⟩, ⟨0, ⟨1, 385, 1, 1, 0, 0, 0, 0, 0, 0, 0, false, 0⟩, 0⟩, ⟨0, ⟨1, 385, 1, 1, 0, 0, 0, 0, 0, 0, 0, false, 0⟩, 0⟩, ⟨0, ⟨1, 0, 9, 0, 0, 0, 0, 0, 0, 0, 0, false, 0⟩, 0⟩, ⟨2, ⟨0, 0, 0, 0, 0, 0, 0, 0, 0, 0, 0, false, 0⟩, 0⟩, ⟨0, ⟨1, 385, 1, 1, 0, 0, 0, 0, 0, 0, 0, false, 0⟩, 0⟩, ⟨0, ⟨1, 385, 1, 1, 0, 0, 0, 0, 0, 0, 0, false, 0⟩, 0⟩, ⟨4, ⟨9223372036854775807, 0, 0, 0, 0, 0, 0, 0, 0, 0, 0, false, 0⟩, 0⟩] : List St) (by rw [hz3.out, hsb.out]; exact heap_alloc_last z2 _) rfl (by unfold Oct; decide)
  have K3 : Hid (∀ x, Below z3.drew.heap.size z3.drew x → x.cell? ⟨fb, 0, none⟩ = some (.int .u16 385) ∧ x.cell? ⟨fb, 1, none⟩ = some (.int .i64 1) ∧ x.cell? ⟨fb, 2, none⟩ = some (.int .u8 1) ∧ x.cell? ⟨fb, 3, none⟩ = some (.int .u8 0) ∧ x.cell? ⟨fb, 4, none⟩ = some (.int .u8 0) ∧ x.cell? ⟨fb, 5, none⟩ = some (.int .u8 0) ∧ x.cell? ⟨fb, 6, none⟩ = some (.int .u8 0) ∧ x.cell? ⟨fb, 7, none⟩ = some (.int .u8 0) ∧ x.cell? ⟨fb, 8, none⟩ = some (.int .u8 0) ∧ x.cell? ⟨fb, 9, none⟩ = some (.int .u8 0) ∧ x.cell? ⟨fb, 10, none⟩ = some (.bool false)) := fun x hx => KS.out x (Below.andThen b3 hx)
  have B3 : Hid (Below w.heap.size w z3.drew) := Below.andThen BZ b3
  clear KS b2 b3 BZ hHeld hz3 hsb
  go_wp2_with fail
  refine wp_region_held_drew (S := fun x => x.cell? ⟨fb, 0, none⟩ = some (.int .u16 385) ∧ x.cell? ⟨fb, 1, none⟩ = some (.int .i64 1) ∧ x.cell? ⟨fb, 2, none⟩ = some (.int .u8 1) ∧ x.cell? ⟨fb, 3, none⟩ = some (.int .u8 0) ∧ x.cell? ⟨fb, 4, none⟩ = some (.int .u8 0) ∧ x.cell? ⟨fb, 5, none⟩ = some (.int .u8 0) ∧ x.cell? ⟨fb, 6, none⟩ = some (.int .u8 0) ∧ x.cell? ⟨fb, 7, none⟩ = some (.int .u8 0) ∧ x.cell? ⟨fb, 8, none⟩ = some (.int .u8 0) ∧ x.cell? ⟨fb, 9, none⟩ = some (.int .u8 0) ∧ x.cell? ⟨fb, 10, none⟩ = some (.bool false)) (by kernel_rfl) (K3.out _ (Below.refl _ _)) (fun hHeld => ?_)
  refine wpAnyH_take (i := 0) (v := (.slice (some ⟨sb, 0, none⟩) 24 24)) rfl (by kernel_rfl) (by kernel_rfl) (by kernel_rfl) (fun _ _ _ h => h) (Or.inl ⟨by rfl, ?_⟩) (by assumption) ?_
  · intro w9 hSw
    try dsimp only at hSw
    go_simp
    all_goals try decide
    all_goals try assumption
  try simp only [Act.put, List.getElem_toArray, List.getElem_cons_succ, List.getElem_cons_zero, List.setIfInBounds_toArray, List.set_cons_zero, List.set_cons_succ]
  refine wpAnyH_ready (rs := [1]) (by kernel_rfl) (by simp) ?_
  refine AllReadyH.cons rfl (fun K' hK => ?_) AllReadyH.nil
  rw [if_pos (by rfl)]
  simp only [List.getElem_toArray, List.getElem_cons_succ, List.getElem_cons_zero]
  go_wp2_with fail
  refine (busPlays_any (scap := 24) IS3).mono ?_
  rintro e y1 ⟨rfl, c1⟩
  try go_wp2_with fail
  refine hK.out _ _ (K3.out _ c1) (fun hHeld => ?_)
  clear hK K'
  try simp only [Act.put, List.getElem_toArray, List.getElem_cons_succ, List.getElem_cons_zero, List.setIfInBounds_toArray, List.set_cons_zero, List.set_cons_succ]
  refine wpAnyH_take (i := 2) (v := (.bool true)) rfl (by kernel_rfl) (by kernel_rfl) (by kernel_rfl) (fun _ _ _ h => h) (Or.inl ⟨by rfl, ?_⟩) (by assumption) ?_
  · intro w9 hSw
    try dsimp only at hSw
    go_simp
    all_goals try decide
    all_goals try assumption
  try simp only [Act.put, List.getElem_toArray, List.getElem_cons_succ, List.getElem_cons_zero, List.setIfInBounds_toArray, List.set_cons_zero, List.set_cons_succ]
  refine wpAnyH_take (i := 3) (v := (.agg #[.int .u16 385, .int .i64 1, .int .u8 1, .int .u8 0, .int .u8 0, .int .u8 0, .int .u8 0, .int .u8 0, .int .u8 0, .int .u8 0, .bool false])) rfl (by kernel_rfl) (by kernel_rfl) (by kernel_rfl) (fun _ _ _ h => h) (Or.inl ⟨by rfl, ?_⟩) (by assumption) ?_
  · intro w9 hSw
    try dsimp only at hSw
    go_simp
    all_goals try decide
    all_goals try assumption
  try simp only [Act.put, List.getElem_toArray, List.getElem_cons_succ, List.getElem_cons_zero, List.setIfInBounds_toArray, List.set_cons_zero, List.set_cons_succ]
  refine wpAnyH_ready (rs := [4]) (by kernel_rfl) (by simp) ?_
  refine AllReadyH.cons rfl (fun K' hK => ?_) AllReadyH.nil
  rw [if_pos (by rfl)]
  simp only [List.getElem_toArray, List.getElem_cons_succ, List.getElem_cons_zero]
  go_wp2_with fail
  refine (busNone_any 1 385 1 1 0 0 0 0 0 0 0 false y1).mono ?_
  rintro e y2 ⟨rfl, c2⟩
  try go_wp2_with fail
  refine hK.out _ _ (K3.out _ (Below.andThen c1 c2)) (fun hHeld => ?_)
  clear hK K'
  try simp only [Act.put, List.getElem_toArray, List.getElem_cons_succ, List.getElem_cons_zero, List.setIfInBounds_toArray, List.set_cons_zero, List.set_cons_succ]
  refine wpAnyH_take (i := 5) (v := (.bool true)) rfl (by kernel_rfl) (by kernel_rfl) (by kernel_rfl) (fun _ _ _ h => h) (Or.inl ⟨by rfl, ?_⟩) (by assumption) ?_
  · intro w9 hSw
    try dsimp only at hSw
    go_simp
    all_goals try decide
    all_goals try assumption
  try simp only [Act.put, List.getElem_toArray, List.getElem_cons_succ, List.getElem_cons_zero, List.setIfInBounds_toArray, List.set_cons_zero, List.set_cons_succ]
  refine wpAnyH_take (i := 6) (v := (.bool true)) rfl (by kernel_rfl) (by kernel_rfl) (by kernel_rfl) (fun _ _ _ h => h) (Or.inl ⟨by rfl, ?_⟩) (by assumption) ?_
  · intro w9 hSw
    try dsimp only at hSw
    go_simp
    all_goals try decide
    all_goals try assumption
  try simp only [Act.put, List.getElem_toArray, List.getElem_cons_succ, List.getElem_cons_zero, List.setIfInBounds_toArray, List.set_cons_zero, List.set_cons_succ]
  refine wpAnyH_take (i := 7) (v := (.agg #[.int .u16 385, .int .i64 1, .int .u8 1, .int .u8 0, .int .u8 0, .int .u8 0, .int .u8 0, .int .u8 0, .int .u8 0, .int .u8 0, .bool false])) rfl (by kernel_rfl) (by kernel_rfl) (by kernel_rfl) (fun _ _ _ h => h) (Or.inl ⟨by rfl, ?_⟩) (by assumption) ?_
  · intro w9 hSw
    try dsimp only at hSw
    go_simp
    all_goals try decide
    all_goals try assumption
  try simp only [Act.put, List.getElem_toArray, List.getElem_cons_succ, List.getElem_cons_zero, List.setIfInBounds_toArray, List.set_cons_zero, List.set_cons_succ]
  refine wpAnyH_take (i := 8) (v := (.agg #[.int .u16 0, .int .i64 0, .int .u8 0, .int .u8 0, .int .u8 0, .int .u8 0, .int .u8 0, .int .u8 0, .int .u8 0, .int .u8 0, .bool false])) rfl (by kernel_rfl) (by kernel_rfl) (by kernel_rfl) (fun _ _ _ h => h) (Or.inl ⟨by rfl, ?_⟩) (by assumption) ?_
  · intro w9 hSw
    try dsimp only at hSw
    go_simp
    all_goals try decide
    all_goals try assumption
  try simp only [Act.put, List.getElem_toArray, List.getElem_cons_succ, List.getElem_cons_zero, List.setIfInBounds_toArray, List.set_cons_zero, List.set_cons_succ]
  refine wpAnyH_take (i := 9) (v := (.agg #[.int .u16 385, .int .i64 1, .int .u8 1, .int .u8 0, .int .u8 0, .int .u8 0, .int .u8 0, .int .u8 0, .int .u8 0, .int .u8 0, .bool false])) rfl (by kernel_rfl) (by kernel_rfl) (by kernel_rfl) (fun _ _ _ h => h) (Or.inl ⟨by rfl, ?_⟩) (by assumption) ?_
  · intro w9 hSw
    try dsimp only at hSw
    go_simp
    all_goals try decide
    all_goals try assumption
  try simp only [Act.put, List.getElem_toArray, List.getElem_cons_succ, List.getElem_cons_zero, List.setIfInBounds_toArray, List.set_cons_zero, List.set_cons_succ]
  refine wpAnyH_take (i := 10) (v := (.agg #[.int .u16 385, .int .i64 0, .int .u8 0, .int .u8 0, .int .u8 0, .int .u8 0, .int .u8 0, .int .u8 0, .int .u8 0, .int .u8 0, .bool true])) rfl (by kernel_rfl) (by kernel_rfl) (by kernel_rfl) (fun _ _ _ h => h) (Or.inl ⟨by rfl, ?_⟩) (by assumption) ?_
  · intro w9 hSw
    try dsimp only at hSw
    go_simp
    all_goals try decide
    all_goals try assumption
  try simp only [Act.put, List.getElem_toArray, List.getElem_cons_succ, List.getElem_cons_zero, List.setIfInBounds_toArray, List.set_cons_zero, List.set_cons_succ]
  refine wpAnyH_take (i := 12) (v := (.agg #[.int .u16 1, .int .i64 0, .int .u8 0, .int .u8 0, .int .u8 0, .int .u8 0, .int .u8 0, .int .u8 0, .int .u8 0, .int .u8 0, .bool false])) rfl (by kernel_rfl) (by kernel_rfl) (by kernel_rfl) (fun _ _ _ h => h) (Or.inl ⟨by rfl, ?_⟩) (by assumption) ?_
  · intro w9 hSw
    try dsimp only at hSw
    go_simp
    all_goals try decide
    all_goals try assumption
  try simp only [Act.put, List.getElem_toArray, List.getElem_cons_succ, List.getElem_cons_zero, List.setIfInBounds_toArray, List.set_cons_zero, List.set_cons_succ]
  refine wpAnyH_ready (rs := [11, 14]) (by kernel_rfl) (by simp) ?_
  refine AllReadyH.cons rfl (fun K' hK => ?_) (AllReadyH.cons rfl (fun K' hK => ?_) AllReadyH.nil)
  · rw [if_pos (by rfl)]
    simp only [List.getElem_toArray, List.getElem_cons_succ, List.getElem_cons_zero]
    go_wp2_with fail
    refine (byteFrame_any 385 9 _).mono ?_
    rintro e y3 ⟨rfl, c3⟩
    try go_wp2_with fail
    refine hK.out _ _ (K3.out _ (Below.andThen (Below.andThen c1 c2) c3)) (fun hHeld => ?_)
    clear hK K'
    try simp only [Act.put, List.getElem_toArray, List.getElem_cons_succ, List.getElem_cons_zero, List.setIfInBounds_toArray, List.set_cons_zero, List.set_cons_succ]
    have By3 : Below z3.drew.heap.size z3.drew y3 := Below.andThen (Below.andThen c1 c2) c3
    refine wpAnyH_ready (rs := [13, 14]) (by kernel_rfl) (by simp) ?_
    refine AllReadyH.cons rfl (fun K' hK => ?_) (AllReadyH.cons rfl (fun K' hK => ?_) AllReadyH.nil)
    · rw [if_pos (by rfl)]
      simp only [List.getElem_toArray, List.getElem_cons_succ, List.getElem_cons_zero]
      refine wp_buildSlice 52 27 6 _ rfl #[.int .u16 385, .int .i64 1, .int .u8 1, .int .u8 0, .int .u8 0, .int .u8 0, .int .u8 0, .int .u8 0, .int .u8 0, .int .u8 0, .bool false, .int .u16 0, .int .i64 0, .int .u8 0, .int .u8 0, .int .u8 0, .int .u8 0, .int .u8 0, .int .u8 0, .int .u8 0, .int .u8 0, .bool false, .int .u16 385, .int .i64 1, .int .u8 1, .int .u8 0, .int .u8 0, .int .u8 0, .int .u8 0, .int .u8 0, .int .u8 0, .int .u8 0, .bool false, .int .u16 385, .int .i64 0, .int .u8 0, .int .u8 0, .int .u8 0, .int .u8 0, .int .u8 0, .int .u8 0, .int .u8 0, .int .u8 0, .bool true, .int .u16 385, .int .i64 1, .int .u8 9, .int .u8 0, .int .u8 0, .int .u8 0, .int .u8 0, .int .u8 0, .int .u8 0, .int .u8 0, .bool false, .int .u16 1, .int .i64 0, .int .u8 0, .int .u8 0, .int .u8 0, .int .u8 0, .int .u8 0, .int .u8 0, .int .u8 0, .int .u8 0, .bool false] ieF _ Try.underlying52 hiF hzF0 (by rw [hzF1]; decide) (by rw [hzF1]; decide) (by rw [hzF1]; kernel_rfl) ?_
      refine hK.out _ _ (K3.out _ (Below.andThen (By3) (Below.al (Below.refl _ _) _))) (fun hHeld => ?_)
      clear hK K'
      try simp only [Act.put, List.getElem_toArray, List.getElem_cons_succ, List.getElem_cons_zero, List.setIfInBounds_toArray, List.set_cons_zero, List.set_cons_succ]
      obtain ⟨y4, hy4⟩ : ∃ q, Hid (q = y3.alloc (.cells #[.int .u16 385, .int .i64 1, .int .u8 1, .int .u8 0, .int .u8 0, .int .u8 0, .int .u8 0, .int .u8 0, .int .u8 0, .int .u8 0, .bool false, .int .u16 0, .int .i64 0, .int .u8 0, .int .u8 0, .int .u8 0, .int .u8 0, .int .u8 0, .int .u8 0, .int .u8 0, .int .u8 0, .bool false, .int .u16 385, .int .i64 1, .int .u8 1, .int .u8 0, .int .u8 0, .int .u8 0, .int .u8 0, .int .u8 0, .int .u8 0, .int .u8 0, .bool false, .int .u16 385, .int .i64 0, .int .u8 0, .int .u8 0, .int .u8 0, .int .u8 0, .int .u8 0, .int .u8 0, .int .u8 0, .int .u8 0, .bool true, .int .u16 385, .int .i64 1, .int .u8 9, .int .u8 0, .int .u8 0, .int .u8 0, .int .u8 0, .int .u8 0, .int .u8 0, .int .u8 0, .bool false, .int .u16 1, .int .i64 0, .int .u8 0, .int .u8 0, .int .u8 0, .int .u8 0, .int .u8 0, .int .u8 0, .int .u8 0, .int .u8 0, .bool false] 27)) := ⟨_, rfl⟩
      rw [← hy4.out] at hHeld ⊢
      have By4 : Below z3.drew.heap.size z3.drew y4 := by rw [hy4.out]; exact Below.andThen (By3) (Below.al (Below.refl _ _) _)
      have Fy4 : IsFs y4 (some ⟨y3.heap.size, 0, none⟩) 6 ([⟨0, 385, 1, 1, 0, 0, 0, 0, 0, 0, 0, false, 0⟩, ⟨0, 0, 0, 0, 0, 0, 0, 0, 0, 0, 0, false, 0⟩, ⟨0, 385, 1, 1, 0, 0, 0, 0, 0, 0, 0, false, 0⟩, ⟨0, 385, 0, 0, 0, 0, 0, 0, 0, 0, 0, true, 0⟩, ⟨0, 385, 1, 9, 0, 0, 0, 0, 0, 0, 0, false, 0⟩, ⟨0, 1, 0, 0, 0, 0, 0, 0, 0, 0, 0, false, 0⟩] : List Sn) := isFs_lit ([⟨0, 385, 1, 1, 0, 0, 0, 0, 0, 0, 0, false, 0⟩, ⟨0, 0, 0, 0, 0, 0, 0, 0, 0, 0, 0, false, 0⟩, ⟨0, 385, 1, 1, 0, 0, 0, 0, 0, 0, 0, false, 0⟩, ⟨0, 385, 0, 0, 0, 0, 0, 0, 0, 0, 0, true, 0⟩, ⟨0, 385, 1, 9, 0, 0, 0, 0, 0, 0, 0, false, 0⟩, ⟨0, 1, 0, 0, 0, 0, 0, 0, 0, 0, 0, false, 0⟩] : List Sn) (by rw [hy4.out]; exact heap_alloc_last _ _) rfl (by unfold Oct; decide)
      refine wpAnyH_ready (rs := [14]) (by kernel_rfl) (by simp) ?_
      refine AllReadyH.cons rfl (fun K' hK => ?_) AllReadyH.nil
      rw [if_pos (by rfl)]
      simp only [List.getElem_toArray, List.getElem_cons_succ, List.getElem_cons_zero]
      refine wp_buildSlice 53 3 4 _ rfl #[.int .i64 0, .int .i64 1, .int .i64 0, .int .i64 2] ieI _ Try.underlying53 hiI hzI0 (by rw [hzI1]; decide) (by rw [hzI1]; decide) (by rw [hzI1]; kernel_rfl) ?_
      refine hK.out _ _ (K3.out _ (Below.andThen (By4) (Below.al (Below.refl _ _) _))) (fun hHeld => ?_)
      clear hK K'
      try simp only [Act.put, List.getElem_toArray, List.getElem_cons_succ, List.getElem_cons_zero, List.setIfInBounds_toArray, List.set_cons_zero, List.set_cons_succ]
      obtain ⟨y5, hy5⟩ : ∃ q, Hid (q = y4.alloc (.cells #[.int .i64 0, .int .i64 1, .int .i64 0, .int .i64 2] 3)) := ⟨_, rfl⟩
      rw [← hy5.out] at hHeld ⊢
      have By5 : Below z3.drew.heap.size z3.drew y5 := by rw [hy5.out]; exact Below.andThen (By4) (Below.al (Below.refl _ _) _)
      have Zy5 : IsNs y5 (some ⟨y4.heap.size, 0, none⟩) 4 [0, 1, 0, 2] := isNs_lit [0, 1, 0, 2] (by rw [hy5.out]; exact heap_alloc_last _ _) rfl
      refine wpAnyH_ready (rs := [15]) (by kernel_rfl) (by simp) ?_
      refine AllReadyH.cons rfl (fun K' hK => ?_) AllReadyH.nil
      rw [if_pos (by rfl)]
      simp only [List.getElem_toArray, List.getElem_cons_succ, List.getElem_cons_zero]
      go_wp2_with fail
      refine (busOnce_any (fcap := 6) (ncap := 4) (⟨Fy4.size, Fy4.oct, fun h0 => by obtain ⟨b9, o9, e9, hc9⟩ := Fy4.at_ h0; exact ⟨b9, o9, e9, fun i s hs j v hv => by rw [(show Below _ _ _ from (by rw [hy5.out]; exact Below.al (Below.refl y4.heap.size y4) _)).cell (p := ⟨b9, o9 + i * 11 + j, none⟩) (lt_of_cell (hc9 i s hs j v hv))]; exact hc9 i s hs j v hv⟩⟩) (Zy5)).mono ?_
      rintro e y8 ⟨rfl, c8⟩
      try go_wp2_with fail
      refine hK.out _ _ (K3.out _ (Below.andThen By5 c8)) (fun hHeld => ?_)
      clear hK K'
      try simp only [Act.put, List.getElem_toArray, List.getElem_cons_succ, List.getElem_cons_zero, List.setIfInBounds_toArray, List.set_cons_zero, List.set_cons_succ]
      refine wpAnyH_take (i := 16) (v := (.bool true)) rfl (by kernel_rfl) (by kernel_rfl) (by kernel_rfl) (fun _ _ _ h => h) (Or.inl ⟨by rfl, ?_⟩) (by assumption) ?_
      · intro w9 hSw
        try dsimp only at hSw
        go_simp
        all_goals try decide
        all_goals try assumption
      try simp only [Act.put, List.getElem_toArray, List.getElem_cons_succ, List.getElem_cons_zero, List.setIfInBounds_toArray, List.set_cons_zero, List.set_cons_succ]
      refine wpAnyH_take (i := 17) (v := (.bool true)) rfl (by kernel_rfl) (by kernel_rfl) (by kernel_rfl) (fun _ _ _ h => h) (Or.inl ⟨by rfl, ?_⟩) (by assumption) ?_
      · intro w9 hSw
        try dsimp only at hSw
        go_simp
        all_goals try decide
        all_goals try assumption
      try simp only [Act.put, List.getElem_toArray, List.getElem_cons_succ, List.getElem_cons_zero, List.setIfInBounds_toArray, List.set_cons_zero, List.set_cons_succ]
      refine wpAnyH_ready (rs := [18]) (by kernel_rfl) (by simp) ?_
      refine AllReadyH.cons rfl (fun K' hK => ?_) AllReadyH.nil
      rw [if_pos (by rfl)]
      simp only [List.getElem_toArray, List.getElem_cons_succ, List.getElem_cons_zero]
      go_wp2_with fail
      refine (works_any y8).mono ?_
      rintro e y9 ⟨rfl, c9⟩
      try go_wp2_with fail
      refine hK.out _ _ (K3.out _ (Below.andThen (Below.andThen By5 c8) c9)) (fun hHeld => ?_)
      clear hK K'
      try simp only [Act.put, List.getElem_toArray, List.getElem_cons_succ, List.getElem_cons_zero, List.setIfInBounds_toArray, List.set_cons_zero, List.set_cons_succ]
      refine wpAnyH_take (i := 19) (v := (.bool true)) rfl (by kernel_rfl) (by kernel_rfl) (by kernel_rfl) (fun _ _ _ h => h) (Or.inl ⟨by rfl, ?_⟩) (by assumption) ?_
      · intro w9 hSw
        try dsimp only at hSw
        go_simp
        all_goals try decide
        all_goals try assumption
      try simp only [Act.put, List.getElem_toArray, List.getElem_cons_succ, List.getElem_cons_zero, List.setIfInBounds_toArray, List.set_cons_zero, List.set_cons_succ]
      refine wpAnyH_take (i := 20) (v := (.bool true)) rfl (by kernel_rfl) (by kernel_rfl) (by kernel_rfl) (fun _ _ _ h => h) (Or.inl ⟨by rfl, ?_⟩) (by assumption) ?_
      · intro w9 hSw
        try dsimp only at hSw
        go_simp
        all_goals try decide
        all_goals try assumption
      try simp only [Act.put, List.getElem_toArray, List.getElem_cons_succ, List.getElem_cons_zero, List.setIfInBounds_toArray, List.set_cons_zero, List.set_cons_succ]
      refine wpAnyH_done (by kernel_rfl) ?_ _
      have BE : Hid (Below w.heap.size w y9) := Below.andThen B3.out (Below.andThen (Below.andThen By5 c8) c9)
      go_wp2_with fail
      go_ret
      exact ⟨rfl, BE.out⟩
    · rw [if_pos (by rfl)]
      simp only [List.getElem_toArray, List.getElem_cons_succ, List.getElem_cons_zero]
      refine wp_buildSlice 53 3 4 _ rfl #[.int .i64 0, .int .i64 1, .int .i64 0, .int .i64 2] ieI _ Try.underlying53 hiI hzI0 (by rw [hzI1]; decide) (by rw [hzI1]; decide) (by rw [hzI1]; kernel_rfl) ?_
      refine hK.out _ _ (K3.out _ (Below.andThen (By3) (Below.al (Below.refl _ _) _))) (fun hHeld => ?_)
      clear hK K'
      try simp only [Act.put, List.getElem_toArray, List.getElem_cons_succ, List.getElem_cons_zero, List.setIfInBounds_toArray, List.set_cons_zero, List.set_cons_succ]
      obtain ⟨y4, hy4⟩ : ∃ q, Hid (q = y3.alloc (.cells #[.int .i64 0, .int .i64 1, .int .i64 0, .int .i64 2] 3)) := ⟨_, rfl⟩
      rw [← hy4.out] at hHeld ⊢
      have By4 : Below z3.drew.heap.size z3.drew y4 := by rw [hy4.out]; exact Below.andThen (By3) (Below.al (Below.refl _ _) _)
      have Zy4 : IsNs y4 (some ⟨y3.heap.size, 0, none⟩) 4 [0, 1, 0, 2] := isNs_lit [0, 1, 0, 2] (by rw [hy4.out]; exact heap_alloc_last _ _) rfl
      refine wpAnyH_ready (rs := [13]) (by kernel_rfl) (by simp) ?_
      refine AllReadyH.cons rfl (fun K' hK => ?_) AllReadyH.nil
      rw [if_pos (by rfl)]
      simp only [List.getElem_toArray, List.getElem_cons_succ, List.getElem_cons_zero]
      refine wp_buildSlice 52 27 6 _ rfl #[.int .u16 385, .int .i64 1, .int .u8 1, .int .u8 0, .int .u8 0, .int .u8 0, .int .u8 0, .int .u8 0, .int .u8 0, .int .u8 0, .bool false, .int .u16 0, .int .i64 0, .int .u8 0, .int .u8 0, .int .u8 0, .int .u8 0, .int .u8 0, .int .u8 0, .int .u8 0, .int .u8 0, .bool false, .int .u16 385, .int .i64 1, .int .u8 1, .int .u8 0, .int .u8 0, .int .u8 0, .int .u8 0, .int .u8 0, .int .u8 0, .int .u8 0, .bool false, .int .u16 385, .int .i64 0, .int .u8 0, .int .u8 0, .int .u8 0, .int .u8 0, .int .u8 0, .int .u8 0, .int .u8 0, .int .u8 0, .bool true, .int .u16 385, .int .i64 1, .int .u8 9, .int .u8 0, .int .u8 0, .int .u8 0, .int .u8 0, .int .u8 0, .int .u8 0, .int .u8 0, .bool false, .int .u16 1, .int .i64 0, .int .u8 0, .int .u8 0, .int .u8 0, .int .u8 0, .int .u8 0, .int .u8 0, .int .u8 0, .int .u8 0, .bool false] ieF _ Try.underlying52 hiF hzF0 (by rw [hzF1]; decide) (by rw [hzF1]; decide) (by rw [hzF1]; kernel_rfl) ?_
      refine hK.out _ _ (K3.out _ (Below.andThen (By4) (Below.al (Below.refl _ _) _))) (fun hHeld => ?_)
      clear hK K'
      try simp only [Act.put, List.getElem_toArray, List.getElem_cons_succ, List.getElem_cons_zero, List.setIfInBounds_toArray, List.set_cons_zero, List.set_cons_succ]
      obtain ⟨y5, hy5⟩ : ∃ q, Hid (q = y4.alloc (.cells #[.int .u16 385, .int .i64 1, .int .u8 1, .int .u8 0, .int .u8 0, .int .u8 0, .int .u8 0, .int .u8 0, .int .u8 0, .int .u8 0, .bool false, .int .u16 0, .int .i64 0, .int .u8 0, .int .u8 0, .int .u8 0, .int .u8 0, .int .u8 0, .int .u8 0, .int .u8 0, .int .u8 0, .bool false, .int .u16 385, .int .i64 1, .int .u8 1, .int .u8 0, .int .u8 0, .int .u8 0, .int .u8 0, .int .u8 0, .int .u8 0, .int .u8 0, .bool false, .int .u16 385, .int .i64 0, .int .u8 0, .int .u8 0, .int .u8 0, .int .u8 0, .int .u8 0, .int .u8 0, .int .u8 0, .int .u8 0, .bool true, .int .u16 385, .int .i64 1, .int .u8 9, .int .u8 0, .int .u8 0, .int .u8 0, .int .u8 0, .int .u8 0, .int .u8 0, .int .u8 0, .bool false, .int .u16 1, .int .i64 0, .int .u8 0, .int .u8 0, .int .u8 0, .int .u8 0, .int .u8 0, .int .u8 0, .int .u8 0, .int .u8 0, .bool false] 27)) := ⟨_, rfl⟩
      rw [← hy5.out] at hHeld ⊢
      have By5 : Below z3.drew.heap.size z3.drew y5 := by rw [hy5.out]; exact Below.andThen (By4) (Below.al (Below.refl _ _) _)
      have Fy5 : IsFs y5 (some ⟨y4.heap.size, 0, none⟩) 6 ([⟨0, 385, 1, 1, 0, 0, 0, 0, 0, 0, 0, false, 0⟩, ⟨0, 0, 0, 0, 0, 0, 0, 0, 0, 0, 0, false, 0⟩, ⟨0, 385, 1, 1, 0, 0, 0, 0, 0, 0, 0, false, 0⟩, ⟨0, 385, 0, 0, 0, 0, 0, 0, 0, 0, 0, true, 0⟩, ⟨0, 385, 1, 9, 0, 0, 0, 0, 0, 0, 0, false, 0⟩, ⟨0, 1, 0, 0, 0, 0, 0, 0, 0, 0, 0, false, 0⟩] : List Sn) := isFs_lit ([⟨0, 385, 1, 1, 0, 0, 0, 0, 0, 0, 0, false, 0⟩, ⟨0, 0, 0, 0, 0, 0, 0, 0, 0, 0, 0, false, 0⟩, ⟨0, 385, 1, 1, 0, 0, 0, 0, 0, 0, 0, false, 0⟩, ⟨0, 385, 0, 0, 0, 0, 0, 0, 0, 0, 0, true, 0⟩, ⟨0, 385, 1, 9, 0, 0, 0, 0, 0, 0, 0, false, 0⟩, ⟨0, 1, 0, 0, 0, 0, 0, 0, 0, 0, 0, false, 0⟩] : List Sn) (by rw [hy5.out]; exact heap_alloc_last _ _) rfl (by unfold Oct; decide)
      refine wpAnyH_ready (rs := [15]) (by kernel_rfl) (by simp) ?_
      refine AllReadyH.cons rfl (fun K' hK => ?_) AllReadyH.nil
      rw [if_pos (by rfl)]
      simp only [List.getElem_toArray, List.getElem_cons_succ, List.getElem_cons_zero]
      go_wp2_with fail
      refine (busOnce_any (fcap := 6) (ncap := 4) (Fy5) (⟨Zy4.size, fun h0 => by obtain ⟨b9, o9, e9, hc9⟩ := Zy4.at_ h0; exact ⟨b9, o9, e9, fun i hi => by rw [(show Below _ _ _ from (by rw [hy5.out]; exact Below.al (Below.refl y4.heap.size y4) _)).cell (p := ⟨b9, o9 + i, none⟩) (lt_of_cell (hc9 i hi))]; exact hc9 i hi⟩⟩)).mono ?_
      rintro e y8 ⟨rfl, c8⟩
      try go_wp2_with fail
      refine hK.out _ _ (K3.out _ (Below.andThen By5 c8)) (fun hHeld => ?_)
      clear hK K'
      try simp only [Act.put, List.getElem_toArray, List.getElem_cons_succ, List.getElem_cons_zero, List.setIfInBounds_toArray, List.set_cons_zero, List.set_cons_succ]
      refine wpAnyH_take (i := 16) (v := (.bool true)) rfl (by kernel_rfl) (by kernel_rfl) (by kernel_rfl) (fun _ _ _ h => h) (Or.inl ⟨by rfl, ?_⟩) (by assumption) ?_
      · intro w9 hSw
        try dsimp only at hSw
        go_simp
        all_goals try decide
        all_goals try assumption
      try simp only [Act.put, List.getElem_toArray, List.getElem_cons_succ, List.getElem_cons_zero, List.setIfInBounds_toArray, List.set_cons_zero, List.set_cons_succ]
      refine wpAnyH_take (i := 17) (v := (.bool true)) rfl (by kernel_rfl) (by kernel_rfl) (by kernel_rfl) (fun _ _ _ h => h) (Or.inl ⟨by rfl, ?_⟩) (by assumption) ?_
      · intro w9 hSw
        try dsimp only at hSw
        go_simp
        all_goals try decide
        all_goals try assumption
      try simp only [Act.put, List.getElem_toArray, List.getElem_cons_succ, List.getElem_cons_zero, List.setIfInBounds_toArray, List.set_cons_zero, List.set_cons_succ]
      refine wpAnyH_ready (rs := [18]) (by kernel_rfl) (by simp) ?_
      refine AllReadyH.cons rfl (fun K' hK => ?_) AllReadyH.nil
      rw [if_pos (by rfl)]
      simp only [List.getElem_toArray, List.getElem_cons_succ, List.getElem_cons_zero]
      go_wp2_with fail
      refine (works_any y8).mono ?_
      rintro e y9 ⟨rfl, c9⟩
      try go_wp2_with fail
      refine hK.out _ _ (K3.out _ (Below.andThen (Below.andThen By5 c8) c9)) (fun hHeld => ?_)
      clear hK K'
      try simp only [Act.put, List.getElem_toArray, List.getElem_cons_succ, List.getElem_cons_zero, List.setIfInBounds_toArray, List.set_cons_zero, List.set_cons_succ]
      refine wpAnyH_take (i := 19) (v := (.bool true)) rfl (by kernel_rfl) (by kernel_rfl) (by kernel_rfl) (fun _ _ _ h => h) (Or.inl ⟨by rfl, ?_⟩) (by assumption) ?_
      · intro w9 hSw
        try dsimp only at hSw
        go_simp
        all_goals try decide
        all_goals try assumption
      try simp only [Act.put, List.getElem_toArray, List.getElem_cons_succ, List.getElem_cons_zero, List.setIfInBounds_toArray, List.set_cons_zero, List.set_cons_succ]
      refine wpAnyH_take (i := 20) (v := (.bool true)) rfl (by kernel_rfl) (by kernel_rfl) (by kernel_rfl) (fun _ _ _ h => h) (Or.inl ⟨by rfl, ?_⟩) (by assumption) ?_
      · intro w9 hSw
        try dsimp only at hSw
        go_simp
        all_goals try decide
        all_goals try assumption
      try simp only [Act.put, List.getElem_toArray, List.getElem_cons_succ, List.getElem_cons_zero, List.setIfInBounds_toArray, List.set_cons_zero, List.set_cons_succ]
      refine wpAnyH_done (by kernel_rfl) ?_ _
      have BE : Hid (Below w.heap.size w y9) := Below.andThen B3.out (Below.andThen (Below.andThen By5 c8) c9)
      go_wp2_with fail
      go_ret
      exact ⟨rfl, BE.out⟩
  · rw [if_pos (by rfl)]
    simp only [List.getElem_toArray, List.getElem_cons_succ, List.getElem_cons_zero]
    refine wp_buildSlice 53 3 4 _ rfl #[.int .i64 0, .int .i64 1, .int .i64 0, .int .i64 2] ieI _ Try.underlying53 hiI hzI0 (by rw [hzI1]; decide) (by rw [hzI1]; decide) (by rw [hzI1]; kernel_rfl) ?_
    refine hK.out _ _ (K3.out _ (Below.andThen (Below.andThen c1 c2) (Below.al (Below.refl _ _) _))) (fun hHeld => ?_)
    clear hK K'
    try simp only [Act.put, List.getElem_toArray, List.getElem_cons_succ, List.getElem_cons_zero, List.setIfInBounds_toArray, List.set_cons_zero, List.set_cons_succ]
    obtain ⟨y4, hy4⟩ : ∃ q, Hid (q = y2.alloc (.cells #[.int .i64 0, .int .i64 1, .int .i64 0, .int .i64 2] 3)) := ⟨_, rfl⟩
    rw [← hy4.out] at hHeld ⊢
    have By4 : Below z3.drew.heap.size z3.drew y4 := by rw [hy4.out]; exact Below.andThen (Below.andThen c1 c2) (Below.al (Below.refl _ _) _)
    have Zy4 : IsNs y4 (some ⟨y2.heap.size, 0, none⟩) 4 [0, 1, 0, 2] := isNs_lit [0, 1, 0, 2] (by rw [hy4.out]; exact heap_alloc_last _ _) rfl
    refine wpAnyH_ready (rs := [11]) (by kernel_rfl) (by simp) ?_
    refine AllReadyH.cons rfl (fun K' hK => ?_) AllReadyH.nil
    rw [if_pos (by rfl)]
    simp only [List.getElem_toArray, List.getElem_cons_succ, List.getElem_cons_zero]
    go_wp2_with fail
    refine (byteFrame_any 385 9 _).mono ?_
    rintro e y3 ⟨rfl, c3⟩
    try go_wp2_with fail
    refine hK.out _ _ (K3.out _ (Below.andThen By4 c3)) (fun hHeld => ?_)
    clear hK K'
    try simp only [Act.put, List.getElem_toArray, List.getElem_cons_succ, List.getElem_cons_zero, List.setIfInBounds_toArray, List.set_cons_zero, List.set_cons_succ]
    have By3 : Below z3.drew.heap.size z3.drew y3 := Below.andThen By4 c3
    refine wpAnyH_ready (rs := [13]) (by kernel_rfl) (by simp) ?_
    refine AllReadyH.cons rfl (fun K' hK => ?_) AllReadyH.nil
    rw [if_pos (by rfl)]
    simp only [List.getElem_toArray, List.getElem_cons_succ, List.getElem_cons_zero]
    refine wp_buildSlice 52 27 6 _ rfl #[.int .u16 385, .int .i64 1, .int .u8 1, .int .u8 0, .int .u8 0, .int .u8 0, .int .u8 0, .int .u8 0, .int .u8 0, .int .u8 0, .bool false, .int .u16 0, .int .i64 0, .int .u8 0, .int .u8 0, .int .u8 0, .int .u8 0, .int .u8 0, .int .u8 0, .int .u8 0, .int .u8 0, .bool false, .int .u16 385, .int .i64 1, .int .u8 1, .int .u8 0, .int .u8 0, .int .u8 0, .int .u8 0, .int .u8 0, .int .u8 0, .int .u8 0, .bool false, .int .u16 385, .int .i64 0, .int .u8 0, .int .u8 0, .int .u8 0, .int .u8 0, .int .u8 0, .int .u8 0, .int .u8 0, .int .u8 0, .bool true, .int .u16 385, .int .i64 1, .int .u8 9, .int .u8 0, .int .u8 0, .int .u8 0, .int .u8 0, .int .u8 0, .int .u8 0, .int .u8 0, .bool false, .int .u16 1, .int .i64 0, .int .u8 0, .int .u8 0, .int .u8 0, .int .u8 0, .int .u8 0, .int .u8 0, .int .u8 0, .int .u8 0, .bool false] ieF _ Try.underlying52 hiF hzF0 (by rw [hzF1]; decide) (by rw [hzF1]; decide) (by rw [hzF1]; kernel_rfl) ?_
    refine hK.out _ _ (K3.out _ (Below.andThen (By3) (Below.al (Below.refl _ _) _))) (fun hHeld => ?_)
    clear hK K'
    try simp only [Act.put, List.getElem_toArray, List.getElem_cons_succ, List.getElem_cons_zero, List.setIfInBounds_toArray, List.set_cons_zero, List.set_cons_succ]
    obtain ⟨y5, hy5⟩ : ∃ q, Hid (q = y3.alloc (.cells #[.int .u16 385, .int .i64 1, .int .u8 1, .int .u8 0, .int .u8 0, .int .u8 0, .int .u8 0, .int .u8 0, .int .u8 0, .int .u8 0, .bool false, .int .u16 0, .int .i64 0, .int .u8 0, .int .u8 0, .int .u8 0, .int .u8 0, .int .u8 0, .int .u8 0, .int .u8 0, .int .u8 0, .bool false, .int .u16 385, .int .i64 1, .int .u8 1, .int .u8 0, .int .u8 0, .int .u8 0, .int .u8 0, .int .u8 0, .int .u8 0, .int .u8 0, .bool false, .int .u16 385, .int .i64 0, .int .u8 0, .int .u8 0, .int .u8 0, .int .u8 0, .int .u8 0, .int .u8 0, .int .u8 0, .int .u8 0, .bool true, .int .u16 385, .int .i64 1, .int .u8 9, .int .u8 0, .int .u8 0, .int .u8 0, .int .u8 0, .int .u8 0, .int .u8 0, .int .u8 0, .bool false, .int .u16 1, .int .i64 0, .int .u8 0, .int .u8 0, .int .u8 0, .int .u8 0, .int .u8 0, .int .u8 0, .int .u8 0, .int .u8 0, .bool false] 27)) := ⟨_, rfl⟩
    rw [← hy5.out] at hHeld ⊢
    have By5 : Below z3.drew.heap.size z3.drew y5 := by rw [hy5.out]; exact Below.andThen (By3) (Below.al (Below.refl _ _) _)
    have Fy5 : IsFs y5 (some ⟨y3.heap.size, 0, none⟩) 6 ([⟨0, 385, 1, 1, 0, 0, 0, 0, 0, 0, 0, false, 0⟩, ⟨0, 0, 0, 0, 0, 0, 0, 0, 0, 0, 0, false, 0⟩, ⟨0, 385, 1, 1, 0, 0, 0, 0, 0, 0, 0, false, 0⟩, ⟨0, 385, 0, 0, 0, 0, 0, 0, 0, 0, 0, true, 0⟩, ⟨0, 385, 1, 9, 0, 0, 0, 0, 0, 0, 0, false, 0⟩, ⟨0, 1, 0, 0, 0, 0, 0, 0, 0, 0, 0, false, 0⟩] : List Sn) := isFs_lit ([⟨0, 385, 1, 1, 0, 0, 0, 0, 0, 0, 0, false, 0⟩, ⟨0, 0, 0, 0, 0, 0, 0, 0, 0, 0, 0, false, 0⟩, ⟨0, 385, 1, 1, 0, 0, 0, 0, 0, 0, 0, false, 0⟩, ⟨0, 385, 0, 0, 0, 0, 0, 0, 0, 0, 0, true, 0⟩, ⟨0, 385, 1, 9, 0, 0, 0, 0, 0, 0, 0, false, 0⟩, ⟨0, 1, 0, 0, 0, 0, 0, 0, 0, 0, 0, false, 0⟩] : List Sn) (by rw [hy5.out]; exact heap_alloc_last _ _) rfl (by unfold Oct; decide)
    refine wpAnyH_ready (rs := [15]) (by kernel_rfl) (by simp) ?_
    refine AllReadyH.cons rfl (fun K' hK => ?_) AllReadyH.nil
    rw [if_pos (by rfl)]
    simp only [List.getElem_toArray, List.getElem_cons_succ, List.getElem_cons_zero]
    go_wp2_with fail
    refine (busOnce_any (fcap := 6) (ncap := 4) (Fy5) (⟨Zy4.size, fun h0 => by obtain ⟨b9, o9, e9, hc9⟩ := Zy4.at_ h0; exact ⟨b9, o9, e9, fun i hi => by rw [(show Below _ _ _ from (by rw [hy5.out]; exact Below.andThen c3 (Below.al (Below.refl y3.heap.size y3) _))).cell (p := ⟨b9, o9 + i, none⟩) (lt_of_cell (hc9 i hi))]; exact hc9 i hi⟩⟩)).mono ?_
    rintro e y8 ⟨rfl, c8⟩
    try go_wp2_with fail
    refine hK.out _ _ (K3.out _ (Below.andThen By5 c8)) (fun hHeld => ?_)
    clear hK K'
    try simp only [Act.put, List.getElem_toArray, List.getElem_cons_succ, List.getElem_cons_zero, List.setIfInBounds_toArray, List.set_cons_zero, List.set_cons_succ]
    refine wpAnyH_take (i := 16) (v := (.bool true)) rfl (by kernel_rfl) (by kernel_rfl) (by kernel_rfl) (fun _ _ _ h => h) (Or.inl ⟨by rfl, ?_⟩) (by assumption) ?_
    · intro w9 hSw
      try dsimp only at hSw
      go_simp
      all_goals try decide
      all_goals try assumption
    try simp only [Act.put, List.getElem_toArray, List.getElem_cons_succ, List.getElem_cons_zero, List.setIfInBounds_toArray, List.set_cons_zero, List.set_cons_succ]
    refine wpAnyH_take (i := 17) (v := (.bool true)) rfl (by kernel_rfl) (by kernel_rfl) (by kernel_rfl) (fun _ _ _ h => h) (Or.inl ⟨by rfl, ?_⟩) (by assumption) ?_
    · intro w9 hSw
      try dsimp only at hSw
      go_simp
      all_goals try decide
      all_goals try assumption
    try simp only [Act.put, List.getElem_toArray, List.getElem_cons_succ, List.getElem_cons_zero, List.setIfInBounds_toArray, List.set_cons_zero, List.set_cons_succ]
    refine wpAnyH_ready (rs := [18]) (by kernel_rfl) (by simp) ?_
    refine AllReadyH.cons rfl (fun K' hK => ?_) AllReadyH.nil
    rw [if_pos (by rfl)]
    simp only [List.getElem_toArray, List.getElem_cons_succ, List.getElem_cons_zero]
    go_wp2_with fail
    refine (works_any y8).mono ?_
    rintro e y9 ⟨rfl, c9⟩
    try go_wp2_with fail
    refine hK.out _ _ (K3.out _ (Below.andThen (Below.andThen By5 c8) c9)) (fun hHeld => ?_)
    clear hK K'
    try simp only [Act.put, List.getElem_toArray, List.getElem_cons_succ, List.getElem_cons_zero, List.setIfInBounds_toArray, List.set_cons_zero, List.set_cons_succ]
    refine wpAnyH_take (i := 19) (v := (.bool true)) rfl (by kernel_rfl) (by kernel_rfl) (by kernel_rfl) (fun _ _ _ h => h) (Or.inl ⟨by rfl, ?_⟩) (by assumption) ?_
    · intro w9 hSw
      try dsimp only at hSw
      go_simp
      all_goals try decide
      all_goals try assumption
    try simp only [Act.put, List.getElem_toArray, List.getElem_cons_succ, List.getElem_cons_zero, List.setIfInBounds_toArray, List.set_cons_zero, List.set_cons_succ]
    refine wpAnyH_take (i := 20) (v := (.bool true)) rfl (by kernel_rfl) (by kernel_rfl) (by kernel_rfl) (fun _ _ _ h => h) (Or.inl ⟨by rfl, ?_⟩) (by assumption) ?_
    · intro w9 hSw
      try dsimp only at hSw
      go_simp
      all_goals try decide
      all_goals try assumption
    try simp only [Act.put, List.getElem_toArray, List.getElem_cons_succ, List.getElem_cons_zero, List.setIfInBounds_toArray, List.set_cons_zero, List.set_cons_succ]
    refine wpAnyH_done (by kernel_rfl) ?_ _
    have BE : Hid (Below w.heap.size w y9) := Below.andThen B3.out (Below.andThen (Below.andThen By5 c8) c9)
    go_wp2_with fail
    go_ret
    exact ⟨rfl, BE.out⟩
#print axioms busKnown_any
end Go.Proofs.Ytndlpjfofjikeaa
