/-
  The law EmcyKnown.
-/
import Derived.Test.YtnbdnmfnmnboiaaXg
import Derived.Test.YtnbdnmfnmnboiaaZx
namespace Go.Proofs.Ytnbdnmfnmnboiaa
open Go.RowKit

theorem Ez.begin {w W w' : World} {p m : Nat} {S : ES} (B : Below w.heap.size w W) (h : IsE w' p m (.slice none 0 0) S) (hp : W.heap.size ≤ p) (hm : W.heap.size ≤ m) (hb : Below W.heap.size W w') : Ez w w' p m S [] := by
  have := B.size
  exact ⟨_, h, (by intro k hk; simp [Value.ownBlock] at hk; rcases hk with rfl | rfl <;> exact ⟨by omega, by simp⟩), by simp, Below.andThen B hb⟩
theorem Kst.first {w wr : World} {p m : Nat} {S : ES} (h : Ez w wr p m S []) : Kst w wr p m S [] (.slice none 0 0) := ⟨h, own_nil _ _ _, fun g hg => by cases hg⟩
theorem Kst.see {w wr : World} {p m : Nat} {S : ES} {R : List Opx} {rv : Value} {f : Nat} {args : Array Value} {X : Ending} (h : Kst w wr p m S R rv) (hc : ∀ v, IsE wr p m v S → Calls Try.prog f args wr fun e w' => e = X ∧ Below wr.heap.size wr w') : Calls Try.prog f args wr fun e w' => e = X ∧ Kst w w' p m S R rv :=
  h.call fun v hv => (hc v hv).mono fun _ _ ⟨he, hb⟩ => ⟨he, EPost.same hv hb⟩
def mnyL (i : Nat) : List Opx := (List.range i).map mny
theorem mnyL_len (i : Nat) : (mnyL i).length = i := by simp [mnyL]
theorem mnyL_succ (i : Nat) : mnyL (i + 1) = mnyL i ++ [mny i] := by simp [mnyL, List.range_succ]
theorem mnyL_ok (i : Nat) (h : i ≤ 20) : ∀ x ∈ mnyL i, x.Ok := by
  intro x hx
  obtain ⟨k, hk, rfl⟩ := List.mem_map.1 hx
  exact mny_ok k (by have := List.mem_range.1 hk; omega)
def t7 : List Int := [-9223372036854775808, -1, 0, 9, 1099511627776, 1099511627777, 9223372036854775807]
def five (t : Int) : List Opx := [⟨0, 1, 0, 0, 0, 0, 0, 0, 0⟩, ⟨0, 2, 0, 0, 0, 0, 0, 0, 0⟩, ⟨4, 0, 0, 0, 0, 0, 0, 0, t⟩, ⟨4, 0, 0, 0, 0, 0, 0, 0, 1099511627776⟩, ⟨4, 0, 0, 0, 0, 0, 0, 0, t⟩]
theorem five_ok (t : Int) : ∀ x ∈ five t, x.Ok := by
  intro x hx
  simp only [five, List.mem_cons, List.not_mem_nil, or_false] at hx
  rcases hx with rfl | rfl | rfl | rfl | rfl <;> exact ⟨by simp, by simp, by simp, by intro n hn; simp at hn; omega⟩

set_option linter.unusedSimpArgs false in
set_option maxHeartbeats 4000000 in
set_option maxRecDepth 100000 in
theorem emcyKnown_any (w : World) : Calls Try.prog 7 #[] w fun e w' => e = .returned (.bool true) ∧ Below w.heap.size w w' := by
  have R1 : ∀ W p m, Ez w W p m wS0 [] → Calls Try.prog 15 #[.pointer (some ⟨p, 0, none⟩), .int .u16 4096, .int .u8 0, arr5 1 2 3 4 5] W fun e w' => e = .returned (.int .i64 0) ∧ Ez w w' p m wS1 [] ∧ ∀ a ∈ ([] : List Nat), w'.heap[a]? = W.heap[a]? := fun W p m h => h.call fun v hv => by
    have := raise_any hv 4096 0 1 2 3 4 5 (by decide) (by unfold Oct; decide)
    rw [w_c1] at this
    exact this
  have R2 : ∀ W p m, Ez w W p m wS1 [] → Calls Try.prog 15 #[.pointer (some ⟨p, 0, none⟩), .int .u16 16897, .int .u8 3, arr5 0 0 0 0 0] W fun e w' => e = .returned (.int .i64 0) ∧ Ez w w' p m wS2 [] ∧ ∀ a ∈ ([] : List Nat), w'.heap[a]? = W.heap[a]? := fun W p m h => h.call fun v hv => by
    have := raise_any hv 16897 3 0 0 0 0 0 (by decide) (by unfold Oct; decide)
    rw [w_c2] at this
    exact this
  have HI : ∀ W p m, Ez w W p m wS2 [] → Calls Try.prog 20 #[.pointer (some ⟨p, 0, none⟩)] W fun e w' => ∃ g o cap, e = .returned (.slice (some ⟨g, o, none⟩) 2 cap) ∧ OwnAt w' 52 1 g o 2 cap [.int .u32 16897, .int .u32 33624064] ∧ Ez w w' p m wS2 [g] := fun W p m h => by
    obtain ⟨v, hv, _⟩ := h
    refine (history_any hv).mono ?_
    rintro e w' ⟨g, o, cap, rfl, hO, hg, hb⟩
    rw [k_ln2, k_hs2] at hO
    rw [k_ln2]
    exact ⟨g, o, cap, rfl, hO, Ez.add ⟨v, hv, by assumption⟩ hb g hg hO.lt⟩
  have T1 : ∀ W p m A, Ez w W p m wS2 A → Calls Try.prog 17 #[.pointer (some ⟨p, 0, none⟩), .int .i64 3] W fun e w' => e = .returned (.tuple #[frV 133 8 0 16 1 1 2 3 4 5 false, .bool true]) ∧ Ez w w' p m wS3 A ∧ ∀ a ∈ A, w'.heap[a]? = W.heap[a]? := fun W p m A h => h.call fun v hv => by
    have := tick_any hv 3
    rw [w_m3, w_s3] at this
    exact this
  have T2 : ∀ W p m A, Ez w W p m wS3 A → Calls Try.prog 17 #[.pointer (some ⟨p, 0, none⟩), .int .i64 13] W fun e w' => e = .returned (.tuple #[frV 133 8 1 66 9 0 0 0 0 0 false, .bool true]) ∧ Ez w w' p m kS4 A ∧ ∀ a ∈ A, w'.heap[a]? = W.heap[a]? := fun W p m A h => h.call fun v hv => by
    have := tick_any hv 13
    rw [k_may13, k_said13] at this
    exact this
  have C1 : ∀ W p m A, Ez w W p m kS4 A → Calls Try.prog 16 #[.pointer (some ⟨p, 0, none⟩), .int .u16 4096] W fun e w' => e = .returned (.int .i64 0) ∧ Ez w w' p m kS5 A ∧ ∀ a ∈ A, w'.heap[a]? = W.heap[a]? := fun W p m A h => h.call fun v hv => by
    exact clear_yes hv 4096 k_c4
  have C2 : ∀ W p m A, Ez w W p m kS5 A → Calls Try.prog 16 #[.pointer (some ⟨p, 0, none⟩), .int .u16 4096] W fun e w' => e = .returned (.int .i64 5) ∧ Ez w w' p m kS5 A ∧ ∀ a ∈ A, w'.heap[a]? = W.heap[a]? := fun W p m A h => h.call fun v hv => by
    exact clear_no hv 4096 5 k_c5 (by decide)
  have RG : ∀ W p m A, Ez w W p m kS5 A → Calls Try.prog 19 #[.pointer (some ⟨p, 0, none⟩)] W fun e w' => e = .returned (.int .u8 9) ∧ Ez w w' p m kS5 A ∧ Below W.heap.size W w' := fun W p m A h => h.read fun v hv => by
    have := register_any hv
    rw [k_r5] at this
    exact this
  have RA : ∀ W p m A, Ez w W p m kS5 A → Calls Try.prog 15 #[.pointer (some ⟨p, 0, none⟩), .int .u16 0, .int .u8 1, arr5 0 0 0 0 0] W fun e w' => e = .returned (.int .i64 2) ∧ Ez w w' p m kS5 A ∧ ∀ a ∈ A, w'.heap[a]? = W.heap[a]? := fun W p m A h => h.call fun v hv => by
    exact raise_no hv 0 1 (by decide) 2 k_a5 (by decide)
  have RB : ∀ W p m A, Ez w W p m kS5 A → Calls Try.prog 15 #[.pointer (some ⟨p, 0, none⟩), .int .u16 1, .int .u8 8, arr5 0 0 0 0 0] W fun e w' => e = .returned (.int .i64 2) ∧ Ez w w' p m kS5 A ∧ ∀ a ∈ A, w'.heap[a]? = W.heap[a]? := fun W p m A h => h.call fun v hv => by
    exact raise_no hv 1 8 (by decide) 2 k_b5 (by decide)
  have RC : ∀ W p m A, Ez w W p m kS5 A → Calls Try.prog 15 #[.pointer (some ⟨p, 0, none⟩), .int .u16 16897, .int .u8 0, arr5 0 0 0 0 0] W fun e w' => e = .returned (.int .i64 6) ∧ Ez w w' p m kS5 A ∧ ∀ a ∈ A, w'.heap[a]? = W.heap[a]? := fun W p m A h => h.call fun v hv => by
    exact raise_no hv 16897 0 (by decide) 6 k_d5 (by decide)
  have DU : ∀ W p m A, Ez w W p m kS5 A → Calls Try.prog 18 #[.pointer (some ⟨p, 0, none⟩)] W fun e w' => e = .returned (.tuple #[.int .i64 23, .bool true]) ∧ Ez w w' p m kS5 A ∧ Below W.heap.size W w' := fun W p m A h => h.read fun v hv => by
    have := due_yes hv k_ws5
    rw [k_due5] at this
    exact this.mono fun e w' ⟨he, hw⟩ => ⟨he, by rw [hw]; exact Below.refl _ _⟩
  have T3 : ∀ W p m A, Ez w W p m kS5 A → Calls Try.prog 17 #[.pointer (some ⟨p, 0, none⟩), .int .i64 23] W fun e w' => e = .returned (.tuple #[frV 133 8 0 0 9 0 0 0 0 0 false, .bool true]) ∧ Ez w w' p m kS6 A ∧ ∀ a ∈ A, w'.heap[a]? = W.heap[a]? := fun W p m A h => h.call fun v hv => by
    have := tick_any hv 23
    rw [k_may23, k_said23] at this
    exact this
  have DV : ∀ W p m A, Ez w W p m kS6 A → Calls Try.prog 18 #[.pointer (some ⟨p, 0, none⟩)] W fun e w' => e = .returned (.tuple #[.int .i64 0, .bool false]) ∧ Ez w w' p m kS6 A ∧ Below W.heap.size W w' := fun W p m A h => h.read fun v hv => by
    exact (due_no hv k_ws6).mono fun e w' ⟨he, hw⟩ => ⟨he, by rw [hw]; exact Below.refl _ _⟩
  have NW := fun W => new_ok 5 10 (by decide) (by decide) W
  have hq1 : ∀ W : World, (binOp .eql 40 (frV 133 8 0 0 9 0 0 0 0 0 false) (frV 133 8 0 0 9 0 0 0 0 0 false)).run Try.prog W = .ok (.bool true) W := fun W => by rw [eqlF, sameF_self]
  go_enter Try.func7, Try.ntmps7
  go_wp2_with fail
  refine (NW _).mono ?_
  rintro e w1 ⟨⟨p, m, rfl, h1, lp, lm⟩, b1⟩
  have HE := Ez.new h1 lp lm b1
  clear h1 lp lm b1 NW
  go_wp2_with fail
  refine (R1 _ _ _ HE).mono ?_
  rintro e w2 ⟨rfl, HN, -⟩
  clear HE R1
  have HE := HN
  clear HN
  go_wp2_with fail
  refine (R2 _ _ _ HE).mono ?_
  rintro e w3 ⟨rfl, HN, -⟩
  clear HE R2
  have HE := HN
  clear HN
  go_wp2_with fail
  refine (HI _ _ _ HE).mono ?_
  rintro e w4 ⟨g, o, cap, rfl, hO, HN⟩
  clear HE HI
  have HE := HN
  clear HN
  go_wp2_with fail
  refine (T1 _ _ _ _ HE).mono ?_
  rintro e w5 ⟨rfl, HN, KK⟩
  clear HE T1
  have HE := HN
  clear HN
  have hO := hO.same (KK g (by simp))
  clear KK
  go_wp2_with fail
  refine (T2 _ _ _ _ HE).mono ?_
  rintro e w6 ⟨rfl, HN, KK⟩
  clear HE T2
  have HE := HN
  clear HN
  have hO := hO.same (KK g (by simp))
  clear KK
  have g0 := hO.cell 0 _ rfl
  have g1 := hO.cell 1 _ rfl
  replace g0 : w6.cell? ⟨g, o, none⟩ = some (.int .u32 16897) := g0
  clear hO
  go_wp2_with fail
  refine (C1 _ _ _ _ HE).mono ?_
  rintro e w7 ⟨rfl, HN, -⟩
  clear HE C1
  have HE := HN
  clear HN
  go_wp2_with fail
  refine (C2 _ _ _ _ HE).mono ?_
  rintro e w8 ⟨rfl, HN, -⟩
  clear HE C2
  have HE := HN
  clear HN
  go_wp2_with fail
  refine (RG _ _ _ _ HE).mono ?_
  rintro e w9 ⟨rfl, HN, -⟩
  clear HE RG
  have HE := HN
  clear HN
  go_wp2_with fail
  refine (RA _ _ _ _ HE).mono ?_
  rintro e w10 ⟨rfl, HN, -⟩
  clear HE RA
  have HE := HN
  clear HN
  go_wp2_with fail
  refine (RB _ _ _ _ HE).mono ?_
  rintro e w11 ⟨rfl, HN, -⟩
  clear HE RB
  have HE := HN
  clear HN
  go_wp2_with fail
  refine (RC _ _ _ _ HE).mono ?_
  rintro e w12 ⟨rfl, HN, -⟩
  clear HE RC
  have HE := HN
  clear HN
  clear g0 g1
  go_wp2_with fail
  refine (DU _ _ _ _ HE).mono ?_
  rintro e w13 ⟨rfl, HN, -⟩
  clear HE DU
  have HE := HN
  clear HN
  go_wp2_with fail
  refine (T3 _ _ _ _ HE).mono ?_
  rintro e w14 ⟨rfl, HN, -⟩
  clear HE T3
  have HE := HN
  clear HN
  have HE := HE.next (w' := w14.alloc (.cells (frC 133 8 0 0 9 0 0 0 0 0 false) 40)) (by repeat (first | exact Below.refl _ _ | apply Below.drew | apply Below.al))
  have FF := at11 w14 (.cells (frC 133 8 0 0 9 0 0 0 0 0 false) 40) w14.heap.size rfl
  go_wp2_with fail
  refine (DV _ _ _ _ HE).mono ?_
  rintro e w15 ⟨rfl, HN, hb⟩
  have FF := blk11 hb FF
  have B15 := HN.bel
  obtain ⟨f0, f1, f2, f3, f4, f5, f6, f7, f8, f9, f10⟩ := frC_at FF
  have lf := lt_of_heap FF
  clear HE DV HN hb FF
  have NW := fun W => new_ok 127 0 (by decide) (by decide) W
  go_wp2_with fail
  clear f0 f1 f2 f3 f4 f5 f6 f7 f8 f9 f10 lf hq1
  refine (NW _).mono ?_
  rintro e w16 ⟨⟨p, m, rfl, h1, lp, lm⟩, b1⟩
  have K0 : Hid (Kst w w16 p m (yS 0) (mnyL 0) (.slice none 0 0)) := Kst.first (Ez.begin B15 h1 lp lm b1)
  clear h1 lp lm b1 NW B15
  go_wp2_with fail
  go_loopw [14, 15] (fun rv u wr => ∃ i : Nat, i ≤ 20 ∧ u = .int .i64 (i : Int) ∧ Hid (Kst w wr p m (yS 0) (mnyL i) rv)) (fun _ u _ => 20 - (intOf u).toNat)
  case atStart => exact ⟨0, by decide, rfl, K0⟩
  case round =>
    clear K0
    obtain ⟨i, hi, rfl, KS⟩ := hrel
    by_cases hlt : i < 20
    · have g1 : (i : Int) < 20 := by omega
      have W1 : IntKind.u16.wrap ((i : Int) + 1) = (i : Int) + 1 := by rw [IntKind.wrap_u16]; omega
      have W2 : IntKind.i64.wrap ((i : Int) + 1) = (i : Int) + 1 := by rw [IntKind.wrap_i64]; omega
      have W3 : IntKind.u8.wrap ((i : Int) % 8) = (i : Int) % 8 := by rw [IntKind.wrap_u8]; omega
      have W4 : IntKind.u8.wrap (i : Int) = (i : Int) := by rw [IntKind.wrap_u8]; omega
      obtain ⟨g, o, cap, w5, AP, K5⟩ := grow_op KS.out (by rw [mnyL_len]; omega) (mny i)
      rw [← mnyL_succ] at K5
      obtain ⟨rv, hrv⟩ : ∃ rv, Hid (rv = Value.slice (some ⟨g, o, none⟩) ((mnyL i).length + 1) cap) := ⟨_, rfl⟩
      rw [← hrv.out] at AP K5
      have K5 : Hid _ := K5
      replace AP : (Builtin.append_ #[22, 22] 22 #[u14, .slice (some ⟨wr.heap.size, 0, none⟩) 1 1]).run Try.prog (wr.alloc (.cells #[.int .u8 0, .int .u16 ((i : Int) + 1), .int .u8 ((i : Int) % 8), .int .u8 (i : Int), .int .u8 0, .int .u8 0, .int .u8 0, .int .u8 0, .int .i64 0] 35)) = .ok rv w5 := AP
      clear hrv KS
      go_wp2_with (at_builtin; refine wpList_app_by rfl _ _ _ rfl _ _ rfl rfl _ AP ?_)
      exact ⟨⟨i + 1, by omega, by go_num, K5⟩, by simp [intOf]; omega⟩
    · obtain rfl : i = 20 := by omega
      have g1 : ¬ ((20 : Nat) : Int) < 20 := by decide
      go_wp2_with fail
      go_loopw [16] (fun u wr => ∃ k : Nat, k ≤ 16 ∧ u = .int .i64 (k : Int) ∧ Hid (Kst w wr p m (yS k) (mnyL 20) u14)) (fun u _ => 16 - (intOf u).toNat)
      case atStart => exact ⟨0, by decide, rfl, KS⟩
      case round =>
        clear KS
        obtain ⟨k, hk, rfl, KS⟩ := hrel
        by_cases hlk : k < 16
        · have g2 : (k : Int) < 16 := by omega
          have W1 : IntKind.u16.wrap ((k : Int) + 1) = (k : Int) + 1 := by rw [IntKind.wrap_u16]; omega
          have W2 : IntKind.i64.wrap ((k : Int) + 1) = (k : Int) + 1 := by rw [IntKind.wrap_i64]; omega
          have RA := KS.out.call (S' := yS (k + 1)) fun v hv => raise_yes hv ((k : Int) + 1) 7 (by omega) (y_r k hlk)
          clear KS
          go_wp2_with fail
          refine RA.mono ?_
          rintro e w17 ⟨rfl, KN⟩
          have KN : Hid _ := KN
          clear RA
          go_wp2_with fail
          exact ⟨⟨k + 1, by omega, by go_num, KN⟩, by simp [intOf]; omega⟩
        · obtain rfl : k = 16 := by omega
          have g2 : ¬ ((16 : Nat) : Int) < 16 := by decide
          have KS := KS.out
          have CC := KS.call fun v hv => raise_no hv 99 0 (by decide) 3 y_a (by decide)
          go_wp2_with fail
          refine CC.mono ?_
          rintro e w18 ⟨rfl, KN⟩
          clear CC KS
          have KS := KN
          clear KN
          have CC := KS.call fun v hv => clear_no hv 1 3 y_b (by decide)
          go_wp2_with fail
          refine CC.mono ?_
          rintro e w19 ⟨rfl, KN⟩
          clear CC KS
          have KS := KN
          clear KN
          have CC := KS.call (S' := yT) fun v hv => tick_any hv 0
          go_wp2_with fail
          refine CC.mono ?_
          rintro e w20 ⟨rfl, KN⟩
          clear CC KS
          have KS := KN
          clear KN
          have CC := KS.call fun v hv => raise_no hv 99 0 (by decide) 3 y_t1 (by decide)
          go_wp2_with fail
          refine CC.mono ?_
          rintro e w21 ⟨rfl, KN⟩
          clear CC KS
          have KS := KN
          clear KN
          have CC := KS.call (S' := yU) fun v hv => clear_yes hv 1 y_t2
          go_wp2_with fail
          refine CC.mono ?_
          rintro e w22 ⟨rfl, KN⟩
          clear CC KS
          have KS := KN
          clear KN
          have CC := KS.call fun v hv => raise_no hv 99 0 (by decide) 3 y_u1 (by decide)
          go_wp2_with fail
          refine CC.mono ?_
          rintro e w23 ⟨rfl, KN⟩
          clear CC KS
          have KS := KN
          clear KN
          have RG : ∀ v, IsE w23 p m v yU → Calls Try.prog 19 #[.pointer (some ⟨p, 0, none⟩)] w23 fun e w' => e = .returned (.int .u8 129) ∧ Below w23.heap.size w23 w' := fun v hv => by have := register_any hv; rwa [y_u2] at this
          have CC := KS.see RG
          go_wp2_with fail
          refine CC.mono ?_
          rintro e w24 ⟨rfl, KN⟩
          clear CC KS
          have KS := KN
          clear KN
          clear RG
          have HH : Calls Try.prog 20 #[.pointer (some ⟨p, 0, none⟩)] w24 fun e w' => ∃ g o cap, e = .returned (.slice (some ⟨g, o, none⟩) 16 cap) ∧ Kst w w' p m yU (mnyL 20) u14 := by
            obtain ⟨v, hv, _⟩ := KS.ez
            refine (history_any hv).mono ?_
            rintro e w' ⟨g, o, cap, rfl, hO, hg, hb⟩
            rw [y_u3]
            exact ⟨g, o, cap, rfl, KS.next hb⟩
          go_wp2_with fail
          refine HH.mono ?_
          rintro e w25 ⟨g, o, cap, rfl, KN⟩
          clear HH KS
          have KS := KN
          clear KN
          have CC := KS.call fun v hv => forget_any hv
          go_wp2_with fail
          refine CC.mono ?_
          rintro e w26 ⟨rfl, KN⟩
          clear CC KS
          have KS := KN
          clear KN
          have CC := KS.call (S' := yW) fun v hv => reset_any hv
          go_wp2_with fail
          refine CC.mono ?_
          rintro e w27 ⟨rfl, KN⟩
          clear CC KS
          have KS := KN
          clear KN
          have N1 := fun W => new_bad 0 0 (.inl (by decide)) W
          go_wp2_with fail
          refine (N1 _).mono ?_
          rintro e w28 ⟨rfl, rfl⟩
          have N2 := fun W => new_bad 128 0 (.inl (by decide)) W
          go_wp2_with fail
          refine (N2 _).mono ?_
          rintro e w29 ⟨rfl, rfl⟩
          have N3 := fun W => new_bad 1 (-1) (.inr (by decide)) W
          go_wp2_with fail
          refine (N3 _).mono ?_
          rintro e w30 ⟨rfl, rfl⟩
          have N4 := fun W => new_bad 1 1099511627777 (.inr (by decide)) W
          go_wp2_with fail
          refine (N4 _).mono ?_
          rintro e w31 ⟨rfl, rfl⟩
          clear N1 N2 N3 N4
          go_wp2_with fail
          refine (nil_tick _ _).mono ?_
          rintro e wa ⟨rfl, hb⟩
          have KS := KS.next hb
          clear hb
          have KS := KS.next (w' := wa.alloc (.cells (frC 0 0 0 0 0 0 0 0 0 0 false) 40)) (by repeat (first | exact Below.refl _ _ | apply Below.drew | apply Below.al))
          go_wp2_with fail
          refine (nil_due _).mono ?_
          rintro e wb ⟨rfl, hb⟩
          have KS := KS.next hb
          clear hb
          go_wp2_with fail
          refine (nil_forget _).mono ?_
          rintro e wc ⟨rfl, hb⟩
          have KS := KS.next hb
          clear hb
          go_wp2_with fail
          refine (nil_reset _).mono ?_
          rintro e wd ⟨rfl, hb⟩
          have KS := KS.next hb
          clear hb
          go_wp2_with fail
          have B1 : Below wd.heap.size wd (wd.alloc (.cells (t7.map (Value.int .i64)).toArray 2)) := Below.al (Below.refl _ _) _
          have H7 : Hid ((wd.alloc (.cells (t7.map (Value.int .i64)).toArray 2)).heap[wd.heap.size]? = some (.cells (t7.map (Value.int .i64)).toArray 2 (0, 0))) := heap_new wd _
          have K7 : Hid (Kst w (wd.alloc (.cells (t7.map (Value.int .i64)).toArray 2)) p m yW (mnyL 20) u14) := KS.next B1
          obtain ⟨k7, hk7⟩ : ∃ k, Hid (k = wd.heap.size) := ⟨_, rfl⟩
          have ek := hk7.out
          rw [← ek] at H7
          obtain ⟨we, hw0⟩ : ∃ z, z = wd.alloc (.cells (t7.map (Value.int .i64)).toArray 2) := ⟨_, rfl⟩
          rw [← hw0] at H7 K7
          have hw1 : wd.alloc (.cells #[.int .i64 (-9223372036854775808), .int .i64 (-1), .int .i64 0, .int .i64 9, .int .i64 1099511627776, .int .i64 1099511627777, .int .i64 9223372036854775807] 2) = we := by rw [hw0]; rfl
          rw [hw1, ← ek]
          clear hw0 hw1 ek hk7 B1 KS
          go_loopw [238] (fun u wr => ∃ j : Nat, j ≤ 7 ∧ u = .int .i64 (j : Int) ∧ Hid (Kst w wr p m yW (mnyL 20) u14) ∧ Hid (wr.heap[k7]? = some (.cells (t7.map (Value.int .i64)).toArray 2 (0, 0)))) (fun u _ => 7 - (intOf u).toNat)
          case atStart => exact ⟨0, by decide, rfl, K7, H7⟩
          case round =>
            clear K7 H7
            obtain ⟨j, hj, rfl, KS, H7⟩ := hrel
            by_cases hlj : j < 7
            · have g4 : (j : Int) < 7 := by omega
              have cj := lit64 H7.out j hlj
              obtain ⟨t, ht⟩ : ∃ t, Hid (t = t7.getD j 0) := ⟨_, rfl⟩
              rw [← ht.out] at cj
              clear ht
              have EP := fun (cap : Nat) => emcyPlays_any 1 1099511627776 (some ⟨wr.heap.size, 0, none⟩) 5 cap (five t) _ (isOpx_lit wr (five t) 35 (five_ok t) wr.heap.size rfl)
              go_wp2_with fail
              refine (EP 5).mono ?_
              rintro e wf ⟨rfl, hb⟩
              have BA : Below wr.heap.size wr (wr.alloc (.cells (opL (five t)).toArray 35)) := Below.al (Below.refl _ _) _
              have KN : Hid _ := (KS.out.next BA).next hb
              have HN : Hid _ := blk11 hb (blk11 BA H7.out)
              clear BA hb EP KS H7 cj
              go_wp2_with fail
              exact ⟨⟨j + 1, by omega, by go_num, KN, HN⟩, by simp [intOf]; omega⟩
            · obtain rfl : j = 7 := by omega
              have g4 : ¬ ((7 : Nat) : Int) < 7 := by decide
              have KS := KS.out
              have HH : Calls Try.prog 20 #[.pointer (some ⟨p, 0, none⟩)] wr fun e w' => ∃ g o cap, e = .returned (.slice (some ⟨g, o, none⟩) 0 cap) ∧ Kst w w' p m yW (mnyL 20) u14 := by
                obtain ⟨v, hv, _⟩ := KS.ez
                refine (history_any hv).mono ?_
                rintro e w' ⟨g, o, cap, rfl, hO, hg, hb⟩
                rw [y_w2]
                exact ⟨g, o, cap, rfl, KS.next hb⟩
              go_wp2_with fail
              refine HH.mono ?_
              rintro e wg ⟨g, o, cap, rfl, KN⟩
              clear HH KS H7
              have RG : ∀ v, IsE wg p m v yW → Calls Try.prog 19 #[.pointer (some ⟨p, 0, none⟩)] wg fun e w' => e = .returned (.int .u8 0) ∧ Below wg.heap.size wg w' := fun v hv => by have := register_any hv; rwa [y_w1] at this
              go_wp2_with fail
              refine (KN.see RG).mono ?_
              rintro e wh ⟨rfl, KS⟩
              clear RG KN
              go_wp2_with fail
              refine (nil_raise _ _ _ _ _ _ _ _).mono ?_
              rintro e wi ⟨rfl, hb⟩
              have KS := KS.next hb
              clear hb
              go_wp2_with fail
              refine (nil_clear _ _).mono ?_
              rintro e wj ⟨rfl, hb⟩
              have KS := KS.next hb
              clear hb
              go_wp2_with fail
              refine (nil_register _).mono ?_
              rintro e wk ⟨rfl, hb⟩
              have KS := KS.next hb
              clear hb
              go_wp2_with fail
              refine (nil_stands _ _).mono ?_
              rintro e wl ⟨rfl, hb⟩
              have KS := KS.next hb
              clear hb
              go_wp2_with fail
              refine (nil_history _).mono ?_
              rintro e wm ⟨rfl, hb⟩
              have KS := KS.next hb
              clear hb
              obtain ⟨g2, o2, c2, e2, RW⟩ := KS.row.pos (by rw [mnyL_len]; decide)
              have IO : ∀ W, Kst w W p m yW (mnyL 20) u14 → IsOpx W (some ⟨g2, o2, none⟩) 20 (mnyL 20) := fun W hW => by
                obtain ⟨g3, o3, c3, e3, RW⟩ := hW.row.pos (by rw [mnyL_len]; decide)
                rw [e2] at e3
                cases e3
                have := isOpx_own RW (mnyL_ok 20 (by decide))
                rwa [mnyL_len] at this
              rw [mnyL_len] at e2
              clear RW
              subst e2
              go_wp2_with fail
              refine (emcyPlays_any 3 2 (some ⟨g2, o2, none⟩) 20 c2 (mnyL 20) _ (IO _ KS)).mono ?_
              rintro e wn ⟨rfl, hb⟩
              have KS := KS.next hb
              clear hb
              go_wp2_with fail
              refine (emcyKnows_any 3 2 (some ⟨g2, o2, none⟩) 20 c2 (mnyL 20) _ (IO _ KS)).mono ?_
              rintro e wo ⟨rfl, hb⟩
              have KS := KS.next hb
              clear hb
              go_wp2_with fail
              refine (emcyHistory_any (some ⟨g2, o2, none⟩) 20 c2 (mnyL 20) _ (IO _ KS)).mono ?_
              rintro e wp ⟨rfl, hb⟩
              have BB := (KS.next hb).ez.bel
              clear hb KS IO
              go_wp2_with fail
              refine (works_any _).mono ?_
              rintro e wq ⟨rfl, hb⟩
              have BB := Below.andThen BB hb
              go_wp2_with fail
              go_ret
              exact ⟨rfl, BB⟩
#print axioms emcyKnown_any
end Go.Proofs.Ytnbdnmfnmnboiaa
